/- The landed code's contracts of chapter 4. -/
import Derived.Test.YthehfkafcdociaaGreatDoorZyAcApp
set_option maxRecDepth 20000
set_option maxHeartbeats 2000000
namespace Go.Proofs.YthehfkafcdociaaGreatDoor
open Go.RowKit
set_option linter.unusedVariables false
theorem implWithin_any (x a b:Int) (w:World) :
    Calls Tryz.prog 102 #[.int .i64 x,.int .i64 a,.int .i64 b] w fun e w'=>e=.returned (.bool (inB x a b))/\w'=w:=by
  by_cases h1:a<=x
  · by_cases h2:x<=b
    · have e:Hid (inB x a b=true):=hide (by simp [inB,h1,h2])
      go_enter Tryz.func102,Tryz.ntmps102
      go_wp2
      go_ret
      rw [e.out];exact ⟨rfl,rfl⟩
    · have e:Hid (inB x a b=false):=hide (by simp [inB,h1,h2])
      go_enter Tryz.func102,Tryz.ntmps102
      go_wp2
      go_ret
      rw [e.out];exact ⟨rfl,rfl⟩
  · have e:Hid (inB x a b=false):=hide (by simp [inB,h1])
    go_enter Tryz.func102,Tryz.ntmps102
    go_wp2
    go_ret
    rw [e.out];exact ⟨rfl,rfl⟩
theorem implLeavesOk_any (lv:Value) (ls:List (Int × Int)) (w:World) (hr:RdL w lv ls) (hl:ls.length<=4000000) :
    Calls Tryz.prog 157 #[lv] w fun e w'=>e=.returned (.bool (decide (ls.length<=4) && lvsB ls))/\Below w.heap.size w w':=by
  have Hr':=hide hr
  obtain ⟨av,cv,rfl⟩:=hr.shape
  clear hr
  by_cases e4:ls.length<=4
  · have Hac:Hid ((decide (ls.length<=4) && lvsB ls)=lvsB ls):=hide (by rw [decide_eq_true e4,Bool.true_and])
    have e4i:(ls.length:Int)<=4:=by omega
    go_enter Tryz.func157,Tryz.ntmps157
    go_wp2
    go_loopw [10] (fun i wr=>∃ k:Nat,k<=ls.length/\i=.int .i64 k/\(∀ j,j < k->lvAt ls j=true)/\Below w.heap.size w wr) (fun i _=>ls.length - (intOf i).toNat)
    case atStart=>exact ⟨0,Nat.zero_le _,rfl,fun j hj=>by omega,Below.refl _ _⟩
    case round =>
      obtain ⟨k,hkl,rfl,hok,hb⟩:=hrel
      have Hok:=hide hok
      clear hok
      by_cases hlt:k < ls.length
      · have hrr:=Hr'.out
        rcases hrr with ⟨_,_,_,e,_⟩ | ⟨b,off,cap,h0,hv,h1,h2,h3,h4⟩
        · subst e;simp at hlt
        injection hv with ha _ hcap
        subst ha hcap
        have hc1:=(hb.cell (p:=⟨b,off+k * 2,none⟩) h3).trans (h4 k hlt).1
        have hc2:=(hb.cell (p:=⟨b,off+k * 2+1,none⟩) h3).trans (h4 k hlt).2
        have hli:(k:Int) < (ls.length:Int):=by omega
        have hbb:b < wr.heap.size:=Nat.lt_of_lt_of_le h3 hb.size
        have Hno:=hide (lvs_no ls k hlt)
        have Hnx:Hid (lvAt ls k=true->∀ j,j < k+1->lvAt ls j=true):=hide (fun h j hj=>by
          by_cases e:j=k
          · subst e;exact h
          · exact Hok.out j (by omega))
        have Hat:Hid (lvAt ls k=(inB ls[k].1 1 1000000 && (inB ls[k].2 0 1000 && (decide (k=0) || decide ((ls.getD (k - 1) (0,0)).2 < ls[k].2))))):=hide (by unfold lvAt;rw [List.getD_eq_getElem?_getD,List.getElem?_eq_getElem hlt];rfl)
        have Hpr:Hid (0 < k->wr.cell? ⟨b,off+(k - 1) * 2+1,none⟩=some (.int .i64 (ls.getD (k - 1) (0,0)).2)):=hide (fun h=>by
          have:=(hb.cell (p:=⟨b,off+(k - 1) * 2+1,none⟩) h3).trans (h4 (k - 1) (by omega)).2
          rw [List.getD_eq_getElem?_getD,List.getElem?_eq_getElem (show k - 1 < ls.length by omega)]
          exact this)
        clear h4 Hok
        generalize ls[k]=p at hc1 hc2 Hat
        obtain ⟨x,y⟩:=p
        simp only at hc1 hc2 Hat
        by_cases q1:inB x 1 1000000=true
        · by_cases q2:inB y 0 1000=true
          · rw [q1,q2,Bool.true_and,Bool.true_and] at Hat
            cases k with
            | zero =>
              rw [show decide (0=0)=true from rfl,Bool.true_or] at Hat
              rw [Nat.zero_mul,Nat.add_zero] at hc1 hc2
              have Hnx:=hide (Hnx.out Hat.out)
              clear Hat Hno Hpr
              go_wp2
              go_quiet ((go_at_call 102;exact Calls.quiet_of_same (implWithin_any _ _ _ _)))
              go_wp2
              go_roundw
              case rel=>exact ⟨0+1,by omega,by go_num,Hnx.out,below_drewN (hb.alloc hb.size _) _⟩
              case measure=>simp [intOf];omega
            | succ j =>
              rw [show decide (j+1=0)=false from rfl,Bool.false_or] at Hat
              have hpr:=Hpr.out (by omega)
              rw [show j+1 - 1=j from by omega] at hpr Hat
              generalize (ls.getD j (0,0)).2=z at hpr Hat
              by_cases q3:z < y
              · rw [decide_eq_true q3] at Hat
                have Hnx:=hide (Hnx.out Hat.out)
                clear Hat Hno Hpr
                go_wp2
                go_quiet ((go_at_call 102;exact Calls.quiet_of_same (implWithin_any _ _ _ _)))
                go_wp2
                go_roundw
                case rel=>exact ⟨j+1+1,by omega,by go_num,Hnx.out,below_drewN (hb.alloc hb.size _) _⟩
                case measure=>simp [intOf];omega
              · rw [decide_eq_false q3] at Hat
                have Hno:=hide (Hac.out.trans (Hno.out Hat.out))
                clear Hat Hnx Hpr
                go_wp2
                go_quiet ((go_at_call 102;exact Calls.quiet_of_same (implWithin_any _ _ _ _)))
                go_wp2
                go_ret
                exact ⟨ret_bool Hno.out.symm,below_drewN (hb.alloc hb.size _) _⟩
          · have q2:inB y 0 1000=false:=by simpa using q2
            rw [q1,q2,Bool.true_and,Bool.false_and] at Hat
            have Hno:=hide (Hac.out.trans (Hno.out Hat.out))
            clear Hat Hnx Hpr
            go_wp2
            go_quiet ((go_at_call 102;exact Calls.quiet_of_same (implWithin_any _ _ _ _)))
            go_wp2
            go_ret
            exact ⟨ret_bool Hno.out.symm,below_drewN (hb.alloc hb.size _) _⟩
        · have q1:inB x 1 1000000=false:=by simpa using q1
          rw [q1,Bool.false_and] at Hat
          have Hno:=hide (Hac.out.trans (Hno.out Hat.out))
          clear Hat Hnx Hpr
          go_wp2
          go_quiet ((go_at_call 102;exact Calls.quiet_of_same (implWithin_any _ _ _ _)))
          go_wp2
          go_ret
          exact ⟨ret_bool Hno.out.symm,below_drewN (hb.alloc hb.size _) _⟩
      · have Hy:=hide (Hac.out.trans (lvs_yes ls (fun j hj=>Hok.out j (by omega))))
        go_wp2
        go_ret
        exact ⟨ret_bool Hy.out.symm,hb⟩
  · have Hac:Hid ((decide (ls.length<=4) && lvsB ls)=false):=hide (by rw [decide_eq_false e4,Bool.false_and])
    have e4i:(4:Int) < (ls.length:Int):=by omega
    clear e4
    go_enter Tryz.func157,Tryz.ntmps157
    go_wp2
    go_ret
    exact ⟨ret_bool Hac.out.symm,Below.refl _ _⟩
theorem implAcctOk_any (a:Ac) (lv:Value) (w:World) (hr:RdL w lv a.2.2.2.2) (hn:a.1.size<=maxLen) (hl:a.2.2.2.2.length<=4000000) :
    Calls Tryz.prog 148 #[acV a lv] w fun e w'=>e=.returned (.bool (acB a))/\Below w.heap.size w w':=by
  obtain ⟨nm,fr,no,st,ls⟩:=a
  have HB:=hide ((Below.refl _ w).alloc (Nat.le_refl _) (.cells #[.string nm,.int .i64 fr,.int .i64 no,.int .i64 st,lv] 122))
  have hk:=Blk.new w 122 [.string nm,.int .i64 fr,.int .i64 no,.int .i64 st,lv]
  have Hr:=hide (hr.below HB.out (Nat.le_refl _))
  obtain ⟨av,cv,rfl⟩:=hr.shape
  clear hr
  simp only [acV] at *
  obtain ⟨w0,hw0⟩:∃ w0,w.alloc (.cells #[.string nm,.int .i64 fr,.int .i64 no,.int .i64 st,.slice av ls.length cv] 122)=w0:=⟨_,rfl⟩
  have hk':Blk w0 w.heap.size 122 [.string nm,.int .i64 fr,.int .i64 no,.int .i64 st,.slice av ls.length cv]:=by rw [<- hw0];exact hk
  have HB':Hid (Below w.heap.size w w0):=hide (by rw [<- hw0];exact HB.out)
  have HL:Hid (Calls Tryz.prog 157 #[.slice av ls.length cv] w0 fun e w'=>e=.returned (.bool (decide (ls.length<=4) && lvsB ls))/\Below w0.heap.size w0 w'):=hide (implLeavesOk_any _ ls w0 (by rw [<- hw0];exact Hr.out) hl)
  have hlt0:=hk'.lt
  have k0:=hk'.cell 0
  have k1:=hk'.cell 1
  have k2:=hk'.cell 2
  have k3:=hk'.cell 3
  have k4:=hk'.cell 4
  simp only [List.getElem?_cons_zero,List.getElem?_cons_succ] at k0 k1 k2 k3 k4
  clear hk HB Hr
  have Hac:Hid (acB (nm,fr,no,st,ls)=(nmB nm && (inB fr 0 1000000 && (inB no 0 10000 && (inB st 0 1000000 && (decide (ls.length<=4) && lvsB ls)))))):=hide rfl
  generalize (decide (ls.length<=4) && lvsB ls)=L at HL Hac
  generalize acB (nm,fr,no,st,ls)=X at Hac
  by_cases e0:nmB nm=true
  · by_cases e1:inB fr 0 1000000=true
    · by_cases e2:inB no 0 10000=true
      · by_cases e3:inB st 0 1000000=true
        · rw [e0,e1,e2,e3] at Hac
          simp only [Bool.true_and] at Hac
          go_enter Tryz.func148,Tryz.ntmps148
          go_wp2_with (first
            | (go_at_call 151;refine (implNameOk_any nm _ hn).mono ?_;rintro e w0 ⟨rfl,rfl⟩)
            | (go_at_call 102;refine (implWithin_any _ _ _ _).mono ?_;rintro e w0 ⟨rfl,rfl⟩)
            | (go_at_call 157;refine HL.out.mono ?_;rintro e w2 ⟨rfl,hb2⟩))
          go_ret
          exact ⟨ret_bool Hac.out.symm,HB'.out.trans (hb2.mono HB'.out.size)⟩
        · have e3:inB st 0 1000000=false:=by simpa using e3
          rw [e0,e1,e2,e3] at Hac
          simp only [Bool.true_and,Bool.false_and] at Hac
          go_enter Tryz.func148,Tryz.ntmps148
          go_wp2_with (first
            | (go_at_call 151;refine (implNameOk_any nm _ hn).mono ?_;rintro e w0 ⟨rfl,rfl⟩)
            | (go_at_call 102;refine (implWithin_any _ _ _ _).mono ?_;rintro e w0 ⟨rfl,rfl⟩))
          go_ret
          exact ⟨ret_bool Hac.out.symm,HB'.out⟩
      · have e2:inB no 0 10000=false:=by simpa using e2
        rw [e0,e1,e2] at Hac
        simp only [Bool.true_and,Bool.false_and] at Hac
        go_enter Tryz.func148,Tryz.ntmps148
        go_wp2_with (first
          | (go_at_call 151;refine (implNameOk_any nm _ hn).mono ?_;rintro e w0 ⟨rfl,rfl⟩)
          | (go_at_call 102;refine (implWithin_any _ _ _ _).mono ?_;rintro e w0 ⟨rfl,rfl⟩))
        go_ret
        exact ⟨ret_bool Hac.out.symm,HB'.out⟩
    · have e1:inB fr 0 1000000=false:=by simpa using e1
      rw [e0,e1] at Hac
      simp only [Bool.true_and,Bool.false_and] at Hac
      go_enter Tryz.func148,Tryz.ntmps148
      go_wp2_with (first
        | (go_at_call 151;refine (implNameOk_any nm _ hn).mono ?_;rintro e w0 ⟨rfl,rfl⟩)
        | (go_at_call 102;refine (implWithin_any _ _ _ _).mono ?_;rintro e w0 ⟨rfl,rfl⟩))
      go_ret
      exact ⟨ret_bool Hac.out.symm,HB'.out⟩
  · have e0:nmB nm=false:=by simpa using e0
    rw [e0] at Hac
    simp only [Bool.false_and] at Hac
    go_enter Tryz.func148,Tryz.ntmps148
    go_wp2_with (first
      | (go_at_call 151;refine (implNameOk_any nm _ hn).mono ?_;rintro e w0 ⟨rfl,rfl⟩)
      | (go_at_call 102;refine (implWithin_any _ _ _ _).mono ?_;rintro e w0 ⟨rfl,rfl⟩))
    go_ret
    exact ⟨ret_bool Hac.out.symm,HB'.out⟩
end Go.Proofs.YthehfkafcdociaaGreatDoor
namespace Go.Proofs.YthehfkafcdociaaGreatDoor
open Go.RowKit Go.Sort
set_option linter.unusedVariables false
theorem implAcctAt_any (v:Value) (l:List Ac) (s:ByteArray) (w:World) (hr:RdA w v l) (hl:l.length<=4000000) :
    Calls Tryz.prog 141 #[v,.string s] w fun e w'=>e=.returned (.int .i64 (atA l s))/\Below w.heap.size w w':=by
  rcases hr with ⟨a,cap,rfl,rfl,-⟩ | ⟨b,off,cap,h0,rfl,h1,h2,h3,h4⟩
  · go_enter Tryz.func141,Tryz.ntmps141
    go_wp2
    refine wp_loop_rounds 1 ?_
    rw [rounds_succ]
    go_wp2
    go_ret
    exact ⟨rfl,Below.refl _ _⟩
  · have H4 := hide h4
    clear h4
    go_enter Tryz.func141,Tryz.ntmps141
    go_wp2
    go_loopw [9] (fun i wr=>∃ k:Nat,k<=l.length/\i=.int .i64 k/\(∀ j (h:j < l.length),j < k->l[j].1 ≠ s)/\Below w.heap.size w wr) (fun i _=>l.length - (intOf i).toNat)
    case atStart=>exact ⟨0,Nat.zero_le _,rfl,fun j _ hj=>by omega,Below.refl _ _⟩
    case round =>
      obtain ⟨k,hk,rfl,hno,hb⟩:=hrel
      have Hno:=hide hno
      clear hno
      by_cases hlt:k < l.length
      · obtain ⟨lv,hat,hrl⟩:=H4.out k hlt
        obtain ⟨c0,c1,c2,c3,c4⟩:=hat.below hb h3
        have hli:(k:Int) < (l.length:Int):=by omega
        have hbb:b < wr.heap.size:=Nat.lt_of_lt_of_le h3 hb.size
        have hshape:=hrl.shape
        clear hat hrl
        by_cases he:l[k].1=s
        · have Hr:Hid (atA l s=(k:Int)):=hide (by unfold atA;rw [atF_found s l 0 k hlt he (fun j hj=>Hno.out j (by omega) hj)];omega)
          rw [he] at c0
          clear he
          generalize l[k]=ak at c1 c2 c3 hshape
          obtain ⟨nm,fr,no,st,ls⟩:=ak
          obtain ⟨av,cv,rfl⟩:=hshape
          simp only at c1 c2 c3
          go_wp2
          go_ret
          exact ⟨ret_int Hr.out.symm,hb.alloc hb.size _⟩
        · have Hn2:Hid (∀ j (h:j < l.length),j < k+1->l[j].1 ≠ s):=hide (fun j h hj=>by
            by_cases e:j=k
            · subst e;exact he
            · exact Hno.out j h (by omega))
          have hq:=bytes_ne he
          clear he Hno
          generalize l[k]=ak at c0 c1 c2 c3 hq hshape
          obtain ⟨nm,fr,no,st,ls⟩:=ak
          obtain ⟨av,cv,rfl⟩:=hshape
          simp only at c0 c1 c2 c3 hq
          go_wp2
          go_roundw
          case rel=>exact ⟨k+1,by omega,by go_num,Hn2.out,hb.alloc hb.size _⟩
          case measure=>simp [intOf];omega
      · have Hr:Hid (atA l s=-1):=hide (by unfold atA;exact atF_none s l 0 (fun j hj=>Hno.out j hj (by omega)))
        go_wp2
        go_ret
        exact ⟨ret_int Hr.out.symm,hb⟩
theorem wrap64_add (a b:Int):wrap64 (a+wrap64 b)=wrap64 (a+b):=by unfold wrap64;omega
theorem wrap64_add' (a b:Int):wrap64 (wrap64 a+b)=wrap64 (a+b):=by unfold wrap64;omega
theorem fold_shift (s:Int):∀ (l:List (Int × Int)) (z:Int),wrap64 (s+l.foldl (fun s p=>wrap64 (s+p.1)) (wrap64 z))=l.foldl (fun s p=>wrap64 (s+p.1)) (wrap64 (s+wrap64 z))
  | [],z=>rfl
  | p :: l,z=>by
    have e:=fold_shift s l (wrap64 z+p.1)
    rw [List.foldl_cons,List.foldl_cons,e]
    congr 1
    rw [wrap64_add,wrap64_add',<- Int.add_assoc]
theorem implWealth_any (v:Value) (l:List Ac) (w:World) (hr:RdA w v l) (hl:l.length<=4000000) (hall:∀ a ∈ l,a.2.2.2.2.length<=4000000) :
    Calls Tryz.prog 149 #[v] w fun e w'=>e=.returned (.int .i64 (wealthA l))/\Below w.heap.size w w':=by
  rcases hr with ⟨a,cap,rfl,rfl,-⟩ | ⟨b,off,cap,h0,rfl,h1,h2,h3,h4⟩
  · go_enter Tryz.func149,Tryz.ntmps149
    go_wp2
    refine wp_loop_rounds 1 ?_
    rw [rounds_succ]
    go_wp2
    go_ret
    exact ⟨rfl,Below.refl _ _⟩
  · have H4 := hide h4
    have Hall:=hide hall
    clear h4 hall
    go_enter Tryz.func149,Tryz.ntmps149
    go_wp2
    go_loopw [3,10] (fun nv iv wr=>∃ k:Nat,k<=l.length/\iv=.int .i64 k/\nv=.int .i64 ((l.take k).foldl (fun s a=>wrap64 (s+ofA a)) 0)/\Below w.heap.size w wr) (fun _ iv _=>l.length - (intOf iv).toNat)
    case atStart=>exact ⟨0,Nat.zero_le _,rfl,rfl,Below.refl _ _⟩
    case round =>
      obtain ⟨k,hkl,rfl,rfl,hb⟩:=hrel
      by_cases hlt:k < l.length
      · obtain ⟨lv,hat,hrl⟩:=H4.out k hlt
        obtain ⟨c0,c1,c2,c3,c4⟩:=hat.below hb h3
        have hli:(k:Int) < (l.length:Int):=by omega
        have hbb:b < wr.heap.size:=Nat.lt_of_lt_of_le h3 hb.size
        have Hf:=hide (fold_snoc (fun s (a:Ac)=>wrap64 (s+ofA a)) 0 l k hlt)
        have Hrl:=hide (hrl.below hb (Nat.le_refl _))
        have hls:=Hall.out l[k] (List.getElem_mem _)
        have hshape:=hrl.shape
        clear hat hrl
        generalize (l.take k).foldl (fun s (a:Ac)=>wrap64 (s+ofA a)) 0=acc at Hf
        generalize l[k]=ak at c0 c1 c2 c3 Hf Hrl hshape hls
        obtain ⟨nm,fr,no,st,ls⟩:=ak
        obtain ⟨av,cv,rfl⟩:=hshape
        simp only at c0 c1 c2 c3 Hrl hls
        have Hof:Hid (wrap64 (acc+ofA (nm,fr,no,st,ls))=ls.foldl (fun s p=>wrap64 (s+p.1)) (wrap64 (acc+wrap64 (fr+st)))):=hide (fold_shift acc ls (fr+st))
        go_wp2
        obtain ⟨w1,hw1⟩:∃ w1,wr.alloc (.cells #[.string nm,.int .i64 fr,.int .i64 no,.int .i64 st,.slice av ls.length cv] 122)=w1:=⟨_,rfl⟩
        have HB1:Hid (Below w.heap.size w w1):=hide (by rw [<- hw1];exact hb.alloc hb.size _)
        have HL1:Hid (RdL w1 (.slice av ls.length cv) ls):=hide (by rw [<- hw1];exact Hrl.out.below ((Below.refl _ wr).alloc (Nat.le_refl _) _) (Nat.le_refl _))
        rw [hw1]
        go_loopw [3,24] (fun nv iv wq=>∃ j:Nat,j<=ls.length/\iv=.int .i64 j/\nv=.int .i64 ((ls.take j).foldl (fun s p=>wrap64 (s+p.1)) (wrap64 (acc+wrap64 (fr+st))))/\Below w1.heap.size w1 wq) (fun _ iv _=>ls.length - (intOf iv).toNat)
        case atStart=>exact ⟨0,Nat.zero_le _,rfl,rfl,Below.refl _ _⟩
        case round =>
          obtain ⟨j,hjl,rfl,rfl,hq⟩:=hrel
          by_cases hjt:j < ls.length
          · have hrr:=HL1.out
            rcases hrr with ⟨_,_,_,e,_⟩ | ⟨b',off',cap',g0,hv,g1,g2,g3,g4⟩
            · subst e;simp at hjt
            injection hv with ha _ hcap
            subst ha hcap
            have d1:=(hq.cell (p:=⟨b',off'+j * 2,none⟩) g3).trans (g4 j hjt).1
            have d2:=(hq.cell (p:=⟨b',off'+j * 2+1,none⟩) g3).trans (g4 j hjt).2
            have hji:(j:Int) < (ls.length:Int):=by omega
            have hbq:b' < wr.heap.size:=Nat.lt_of_lt_of_le g3 hq.size
            have Hg:=hide (fold_snoc (fun s (p:Int × Int)=>wrap64 (s+p.1)) (wrap64 (acc+wrap64 (fr+st))) ls j hjt)
            clear g4
            generalize ls[j]=p at d1 d2 Hg
            obtain ⟨x,y⟩:=p
            simp only at d1 d2 Hg
            generalize (ls.take j).foldl (fun s (p:Int × Int)=>wrap64 (s+p.1)) (wrap64 (acc+wrap64 (fr+st)))=acc2 at Hg
            go_wp2
            go_roundw
            case rel=>exact ⟨j+1,by omega,by go_num,by rw [Hg.out],hq.alloc hq.size _⟩
            case measure=>simp [intOf];omega
          · have Hg:Hid (wrap64 (acc+ofA (nm,fr,no,st,ls))=(ls.take j).foldl (fun s p=>wrap64 (s+p.1)) (wrap64 (acc+wrap64 (fr+st)))):=hide (by rw [Hof.out,List.take_of_length_le (by omega)])
            generalize (ls.take j).foldl (fun s (p:Int × Int)=>wrap64 (s+p.1)) (wrap64 (acc+wrap64 (fr+st)))=acc2 at Hg
            go_wp2
            go_roundw
            case rel=>exact ⟨k+1,by omega,by go_num,by rw [Hf.out,Hg.out],HB1.out.trans (hq.mono HB1.out.size)⟩
            case measure=>simp [intOf];omega
      · have Hf:Hid (wealthA l=(l.take k).foldl (fun s a=>wrap64 (s+ofA a)) 0):=hide (by unfold wealthA;rw [List.take_of_length_le (by omega)])
        generalize (l.take k).foldl (fun s (a:Ac)=>wrap64 (s+ofA a)) 0=acc at Hf
        go_wp2
        go_ret
        exact ⟨ret_int Hf.out.symm,hb⟩
theorem implAcctsOk_any (v:Value) (l:List Ac) (w:World) (hr:RdA w v l) (hl:l.length<=4000000) (hall:∀ a ∈ l,a.1.size<=maxLen/\a.2.2.2.2.length<=4000000) :
    Calls Tryz.prog 133 #[v] w fun e w'=>e=.returned (.bool (acsB l))/\Below w.heap.size w w':=by
  have HW:=hide (fun w h=>implWealth_any v l w h hl (fun a ha=>(hall a ha).2))
  have Hr:=hide hr
  rcases hr with ⟨a,cap,rfl,rfl,-⟩ | ⟨b,off,cap,h0,rfl,h1,h2,h3,h4⟩
  · go_enter Tryz.func133,Tryz.ntmps133
    go_wp2
    refine wp_loop_rounds 1 ?_
    rw [rounds_succ]
    go_wp2_with fail
    refine (HW.out _ Hr.out).mono ?_
    rintro e w2 ⟨rfl,hb2⟩
    go_wp2
    go_ret
    exact ⟨rfl,hb2⟩
  · have H4 := hide h4
    have Hs:=hide hall
    clear h4 hall
    by_cases h12:l.length<=12
    · have h12i : (l.length:Int)<=12:=by omega
      go_enter Tryz.func133,Tryz.ntmps133
      go_wp2
      go_loopw [10] (fun i wr=>∃ k:Nat,k<=l.length/\i=.int .i64 k/\(∀ j,j < k->acAt l j=true)/\Below w.heap.size w wr) (fun i _=>l.length - (intOf i).toNat)
      case atStart=>exact ⟨0,Nat.zero_le _,rfl,fun j hj=>by omega,Below.refl _ _⟩
      case round =>
        obtain ⟨k,hk,rfl,hok,hb⟩:=hrel
        have Hall:=hide hok
        clear hok
        by_cases hlt:k < l.length
        · obtain ⟨lv,hat,hrl⟩:=H4.out k hlt
          obtain ⟨c0,c1,c2,c3,c4⟩:=hat.below hb h3
          have hsz:=Hs.out l[k] (List.getElem_mem hlt)
          have Hok:=hide (acAt_eq l k l[k] hlt rfl)
          have Hno:=hide (acs_no l k hlt)
          have hli:(k:Int) < (l.length:Int):=by omega
          have hbb:b < wr.heap.size:=Nat.lt_of_lt_of_le h3 hb.size
          have Hnx:Hid (acAt l k=true->∀ j,j < k+1->acAt l j=true):=hide (fun h j hj=>by
            by_cases e:j=k
            · subst e;exact h
            · exact Hall.out j (by omega))
          have hprev:Hid (k ≥ 1->wr.cell? ⟨b,off+(k - 1) * 5,none⟩=some (.string (l.getD (k - 1) ac0).1)):=hide (fun hk1=>by
            obtain ⟨lv2,hat2,_⟩:=H4.out (k - 1) (by omega)
            rw [List.getD_eq_getElem?_getD,List.getElem?_eq_getElem (show k - 1 < l.length by omega)]
            exact (hat2.below hb h3).c0)
          have hshape:=hrl.shape
          have Hrl:=hide (hrl.below hb (Nat.le_refl _))
          clear hat hrl
          generalize l[k]=ak at c0 c1 c2 c3 Hok hshape Hrl hsz
          generalize (l.getD (k - 1) ac0).1=pn at hprev Hok
          obtain ⟨nm,fr,no,st,ls⟩:=ak
          obtain ⟨av,cv,rfl⟩:=hshape
          simp only at c0 c1 c2 c3 Hok Hrl hsz
          obtain ⟨w1,hw1⟩:∃ w1,wr.alloc (.cells #[.string nm,.int .i64 fr,.int .i64 no,.int .i64 st,.slice av ls.length cv] 122)=w1:=⟨_,rfl⟩
          have hA:Below wr.heap.size wr w1:=by rw [<- hw1];exact (Below.refl _ wr).alloc (Nat.le_refl _) _
          have HB1:Hid (Below w.heap.size w w1):=hide (hb.trans (hA.mono hb.size))
          have hk1:Blk w1 wr.heap.size 122 [.string nm,.int .i64 fr,.int .i64 no,.int .i64 st,.slice av ls.length cv]:=by rw [<- hw1];exact Blk.new wr _ _
          have HQ:=hide (fun (d:Nat) (os:Array Obj)=>Calls.regrown_of (implAcctOk_any (nm,fr,no,st,ls) (.slice av ls.length cv) (grow (redrawn w1 d) os) ((Hrl.out.below hA (Nat.le_refl _)).below (below_regrown w1 d os) (Nat.le_refl _)) hsz.1 hsz.2))
          simp only [acV] at HQ
          have e0:=hk1.cell 0
          have e1:=hk1.cell 1
          have e2:=hk1.cell 2
          have e3:=hk1.cell 3
          have e4:=hk1.cell 4
          simp only [List.getElem?_cons_zero,List.getElem?_cons_succ] at e0 e1 e2 e3 e4
          have g0:=cell_regrown e0
          have g1:=cell_regrown e1
          have g2:=cell_regrown e2
          have g3:=cell_regrown e3
          have g4:=cell_regrown e4
          have hprev1:Hid (k ≥ 1->w1.cell? ⟨b,off+(k - 1) * 5,none⟩=some (.string pn)):=hide (fun h=>(hA.cell (p:=⟨b,off+(k - 1) * 5,none⟩) hbb).trans (hprev.out h))
          clear e0 e1 e2 e3 e4 hprev hsz Hrl hk1 hA
          cases hn:acB (nm,fr,no,st,ls)
          · have hf:=hide (Hno.out (by rw [Hok.out,hn];rfl))
            rw [hn] at HQ
            clear hn hprev1 Hnx
            go_wp2
            clear c0 c1 c2 c3 c4
            refine wp_region_quiet_below (by kernel_rfl) (by kernel_rfl) ?_
            repeat (go_big_quiet_step ((go_at_call 148;exact HQ.out _ _)))
            refine wpQuiet_nil ?_
            intro _ hw'
            obtain ⟨⟨dq,osq⟩,hw''⟩:=hw'
            subst hw''
            go_wp2
            go_ret
            exact ⟨ret_bool hf.out.symm,HB1.out.trans ((below_regrown w1 dq osq).mono HB1.out.size)⟩
          · rw [hn] at HQ
            by_cases hk1:k < 1
            · have hd:decide (0 < k)=false:=by simp;omega
              have hd2:decide ((0:Int) < (k:Int))=false:=by simp;omega
              have Hnx:=hide (Hnx.out (by rw [Hok.out,hn,show k=0 from by omega];rfl))
              clear hn hprev1
              go_wp2
              clear c0 c1 c2 c3 c4
              refine wp_region_quiet_below (by kernel_rfl) (by kernel_rfl) ?_
              repeat (go_big_quiet_step ((go_at_call 148;exact HQ.out _ _)))
              refine wpQuiet_nil ?_
              intro _ hw'
              obtain ⟨⟨dq,osq⟩,hw''⟩:=hw'
              subst hw''
              go_wp2
              go_roundw
              case rel=>exact ⟨k+1,by omega,by go_num,Hnx.out,HB1.out.trans ((below_regrown w1 dq osq).mono HB1.out.size)⟩
              case measure=>simp [intOf];omega
            · have hcp:=cell_regrown (hprev1.out (by omega))
              clear hprev1
              have hpos:(0:Int) < (k:Int):=by omega
              have hposN:0 < k:=by omega
              have hd1:decide (0 < k)=true:=by simp;omega
              have hix:((k:Int) - 1).toNat=k - 1:=by omega
              have hix1:(0:Int)<=(k:Int) - 1:=by omega
              have hix2:(k:Int) - 1 < (l.length:Int):=by omega
              cases hless:Op.bytesLess pn.toList nm.toList
              · have hf:=hide (Hno.out (by rw [Hok.out,hn,hless];simp;omega))
                clear hn Hnx
                go_wp2
                clear c0 c1 c2 c3 c4
                refine wp_region_quiet_below (by kernel_rfl) (by kernel_rfl) ?_
                repeat (go_big_quiet_step ((go_at_call 148;exact HQ.out _ _)))
                refine wpQuiet_nil ?_
                intro _ hw'
                obtain ⟨⟨dq,osq⟩,hw''⟩:=hw'
                subst hw''
                go_wp2
                go_ret
                exact ⟨ret_bool hf.out.symm,HB1.out.trans ((below_regrown w1 dq osq).mono HB1.out.size)⟩
              · have Hnx:=hide (Hnx.out (by rw [Hok.out,hn,hless];simp))
                clear hn
                go_wp2
                clear c0 c1 c2 c3 c4
                refine wp_region_quiet_below (by kernel_rfl) (by kernel_rfl) ?_
                repeat (go_big_quiet_step ((go_at_call 148;exact HQ.out _ _)))
                refine wpQuiet_nil ?_
                intro _ hw'
                obtain ⟨⟨dq,osq⟩,hw''⟩:=hw'
                subst hw''
                go_wp2
                go_roundw
                case rel=>exact ⟨k+1,by omega,by go_num,Hnx.out,HB1.out.trans ((below_regrown w1 dq osq).mono HB1.out.size)⟩
                case measure=>simp [intOf];omega
        · have hf:=hide (acs_yes l (fun j hj=>Hall.out j (by omega)))
          have HW2:=hide (HW.out _ (Hr.out.below hb (Nat.le_refl _)))
          rw [decide_eq_true h12,Bool.true_and] at hf
          generalize wealthA l=W at hf HW2
          go_wp2_with fail
          refine HW2.out.mono ?_
          rintro e w2 ⟨rfl,hb2⟩
          go_wp2
          go_ret
          exact ⟨ret_bool hf.out.symm,hb.trans (hb2.mono hb.size)⟩
    · have h12i:(12:Int) < (l.length:Int):=by omega
      have hf:Hid (acsB l=false):=hide (by unfold acsB;rw [decide_eq_false h12,Bool.false_and,Bool.and_false])
      clear h12
      go_enter Tryz.func133,Tryz.ntmps133
      go_wp2
      go_ret
      exact ⟨ret_bool hf.out.symm,Below.refl _ _⟩
end Go.Proofs.YthehfkafcdociaaGreatDoor
