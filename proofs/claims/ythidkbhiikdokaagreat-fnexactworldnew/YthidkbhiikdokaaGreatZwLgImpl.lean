/- The landed code's ledgers that are right, and copies of them. -/
import Derived.Test.YthidkbhiikdokaaGreatZwAcImpl
set_option maxRecDepth 20000
set_option maxHeartbeats 2000000
namespace Go.Proofs.YthidkbhiikdokaaGreat
open Go.RowKit Go.Sort
set_option linter.unusedVariables false
theorem wrap64_add (a b:Int):wrap64 (a+wrap64 b)=wrap64 (a+b):=by unfold wrap64;omega
theorem wrap64_add' (a b:Int):wrap64 (wrap64 a+b)=wrap64 (a+b):=by unfold wrap64;omega
theorem fold_shift (s:Int):∀ (l:List (Int × Int)) (z:Int),wrap64 (s+l.foldl (fun s p=>wrap64 (s+p.1)) (wrap64 z))=l.foldl (fun s p=>wrap64 (s+p.1)) (wrap64 (s+wrap64 z))
  | [],z=>rfl
  | p :: l,z=>by
    have e:=fold_shift s l (wrap64 z+p.1)
    rw [List.foldl_cons,List.foldl_cons,e]
    congr 1
    rw [wrap64_add,wrap64_add',<- Int.add_assoc]
theorem implWealth_any (v:Value) (l:List Ac) (w:World) (hr:RdA w v l) (hl:l.length<=4000000) (hall:∀ a ∈ l,a.2.2.2.2.length<=4000000) :
    Calls Tryz.prog 84 #[v] w fun e w'=>e=.returned (.int .i64 (wealthA l))/\Below w.heap.size w w':=by
  rcases hr with ⟨a,cap,rfl,rfl,-⟩ | ⟨b,off,cap,h0,rfl,h1,h2,h3,h4⟩
  · go_enter Tryz.func84,Tryz.ntmps84
    go_wp2
    refine wp_loop_rounds 1 ?_
    rw [rounds_succ]
    go_wp2
    go_ret
    exact ⟨rfl,Below.refl _ _⟩
  · have H4 := hide h4
    have Hall:=hide hall
    clear h4 hall
    go_enter Tryz.func84,Tryz.ntmps84
    go_wp2
    go_loopw [3,10] (fun nv iv wr=>∃ k:Nat,k<=l.length/\iv=.int .i64 k/\nv=.int .i64 ((l.take k).foldl (fun s a=>wrap64 (s+ofA a)) 0)/\Below w.heap.size w wr) (fun _ iv _=>l.length - (intOf iv).toNat)
    case atStart=>exact ⟨0,Nat.zero_le _,rfl,rfl,Below.refl _ _⟩
    case round =>
      obtain ⟨k,hkl,rfl,rfl,hb⟩:=hrel
      by_cases hlt:k < l.length
      · obtain ⟨lv,hat,hrl⟩:=H4.out k hlt
        obtain ⟨c0,c1,c2,c3,c4⟩:=hat.below hb h3
        have hli:(k:Int) < (l.length:Int):=by omega
        have hbb:b < wr.heap.size:=Nat.lt_of_lt_of_le h3 hb.size
        have Hf:=hide (fold_snoc (fun s (a:Ac)=>wrap64 (s+ofA a)) 0 l k hlt)
        have Hrl:=hide (hrl.below hb (Nat.le_refl _))
        have hls:=Hall.out l[k] (List.getElem_mem _)
        have hshape:=hrl.shape
        clear hat hrl
        generalize (l.take k).foldl (fun s (a:Ac)=>wrap64 (s+ofA a)) 0=acc at Hf
        generalize l[k]=ak at c0 c1 c2 c3 Hf Hrl hshape hls
        obtain ⟨nm,fr,no,st,ls⟩:=ak
        obtain ⟨av,cv,rfl⟩:=hshape
        simp only at c0 c1 c2 c3 Hrl hls
        have Hof:Hid (wrap64 (acc+ofA (nm,fr,no,st,ls))=ls.foldl (fun s p=>wrap64 (s+p.1)) (wrap64 (acc+wrap64 (fr+st)))):=hide (fold_shift acc ls (fr+st))
        go_wp2
        obtain ⟨w1,hw1⟩:∃ w1,wr.alloc (.cells #[.string nm,.int .i64 fr,.int .i64 no,.int .i64 st,.slice av ls.length cv] 53)=w1:=⟨_,rfl⟩
        have HB1:Hid (Below w.heap.size w w1):=hide (by rw [<- hw1];exact hb.alloc hb.size _)
        have HL1:Hid (RdL w1 (.slice av ls.length cv) ls):=hide (by rw [<- hw1];exact Hrl.out.below ((Below.refl _ wr).alloc (Nat.le_refl _) _) (Nat.le_refl _))
        rw [hw1]
        go_loopw [3,24] (fun nv iv wq=>∃ j:Nat,j<=ls.length/\iv=.int .i64 j/\nv=.int .i64 ((ls.take j).foldl (fun s p=>wrap64 (s+p.1)) (wrap64 (acc+wrap64 (fr+st))))/\Below w1.heap.size w1 wq) (fun _ iv _=>ls.length - (intOf iv).toNat)
        case atStart=>exact ⟨0,Nat.zero_le _,rfl,rfl,Below.refl _ _⟩
        case round =>
          obtain ⟨j,hjl,rfl,rfl,hq⟩:=hrel
          by_cases hjt:j < ls.length
          · have hrr:=HL1.out
            rcases hrr with ⟨_,_,_,e,_⟩ | ⟨b',off',cap',g0,hv,g1,g2,g3,g4⟩
            · subst e;simp at hjt
            injection hv with ha _ hcap
            subst ha hcap
            have d1:=(hq.cell (p:=⟨b',off'+j * 2,none⟩) g3).trans (g4 j hjt).1
            have d2:=(hq.cell (p:=⟨b',off'+j * 2+1,none⟩) g3).trans (g4 j hjt).2
            have hji:(j:Int) < (ls.length:Int):=by omega
            have hbq:b' < wr.heap.size:=Nat.lt_of_lt_of_le g3 hq.size
            have Hg:=hide (fold_snoc (fun s (p:Int × Int)=>wrap64 (s+p.1)) (wrap64 (acc+wrap64 (fr+st))) ls j hjt)
            clear g4
            generalize ls[j]=p at d1 d2 Hg
            obtain ⟨x,y⟩:=p
            simp only at d1 d2 Hg
            generalize (ls.take j).foldl (fun s (p:Int × Int)=>wrap64 (s+p.1)) (wrap64 (acc+wrap64 (fr+st)))=acc2 at Hg
            go_wp2
            go_roundw
            case rel=>exact ⟨j+1,by omega,by go_num,by rw [Hg.out],hq.alloc hq.size _⟩
            case measure=>simp [intOf];omega
          · have Hg:Hid (wrap64 (acc+ofA (nm,fr,no,st,ls))=(ls.take j).foldl (fun s p=>wrap64 (s+p.1)) (wrap64 (acc+wrap64 (fr+st)))):=hide (by rw [Hof.out,List.take_of_length_le (by omega)])
            generalize (ls.take j).foldl (fun s (p:Int × Int)=>wrap64 (s+p.1)) (wrap64 (acc+wrap64 (fr+st)))=acc2 at Hg
            go_wp2
            go_roundw
            case rel=>exact ⟨k+1,by omega,by go_num,by rw [Hf.out,Hg.out],HB1.out.trans (hq.mono HB1.out.size)⟩
            case measure=>simp [intOf];omega
      · have Hf:Hid (wealthA l=(l.take k).foldl (fun s a=>wrap64 (s+ofA a)) 0):=hide (by unfold wealthA;rw [List.take_of_length_le (by omega)])
        generalize (l.take k).foldl (fun s (a:Ac)=>wrap64 (s+ofA a)) 0=acc at Hf
        go_wp2
        go_ret
        exact ⟨ret_int Hf.out.symm,hb⟩
theorem implAcctsOk_any (v:Value) (l:List Ac) (w:World) (hr:RdA w v l) (hl:l.length<=4000000) (hall:∀ a ∈ l,a.1.size<=maxLen/\a.2.2.2.2.length<=4000000) :
    Calls Tryz.prog 54 #[v] w fun e w'=>e=.returned (.bool (acsB l))/\Below w.heap.size w w':=by
  have HW:=hide (fun w h=>implWealth_any v l w h hl (fun a ha=>(hall a ha).2))
  have Hr:=hide hr
  rcases hr with ⟨a,cap,rfl,rfl,-⟩ | ⟨b,off,cap,h0,rfl,h1,h2,h3,h4⟩
  · go_enter Tryz.func54,Tryz.ntmps54
    go_wp2
    refine wp_loop_rounds 1 ?_
    rw [rounds_succ]
    go_wp2_with fail
    refine (HW.out _ Hr.out).mono ?_
    rintro e w2 ⟨rfl,hb2⟩
    go_wp2
    go_ret
    exact ⟨rfl,hb2⟩
  · have H4 := hide h4
    have Hs:=hide hall
    clear h4 hall
    by_cases h12:l.length<=12
    · have h12i : (l.length:Int)<=12:=by omega
      go_enter Tryz.func54,Tryz.ntmps54
      go_wp2
      go_loopw [10] (fun i wr=>∃ k:Nat,k<=l.length/\i=.int .i64 k/\(∀ j,j < k->acAt l j=true)/\Below w.heap.size w wr) (fun i _=>l.length - (intOf i).toNat)
      case atStart=>exact ⟨0,Nat.zero_le _,rfl,fun j hj=>by omega,Below.refl _ _⟩
      case round =>
        obtain ⟨k,hk,rfl,hok,hb⟩:=hrel
        have Hall:=hide hok
        clear hok
        by_cases hlt:k < l.length
        · obtain ⟨lv,hat,hrl⟩:=H4.out k hlt
          obtain ⟨c0,c1,c2,c3,c4⟩:=hat.below hb h3
          have hsz:=Hs.out l[k] (List.getElem_mem hlt)
          have Hok:=hide (acAt_eq l k l[k] hlt rfl)
          have Hno:=hide (acs_no l k hlt)
          have hli:(k:Int) < (l.length:Int):=by omega
          have hbb:b < wr.heap.size:=Nat.lt_of_lt_of_le h3 hb.size
          have Hnx:Hid (acAt l k=true->∀ j,j < k+1->acAt l j=true):=hide (fun h j hj=>by
            by_cases e:j=k
            · subst e;exact h
            · exact Hall.out j (by omega))
          have hprev:Hid (k ≥ 1->wr.cell? ⟨b,off+(k - 1) * 5,none⟩=some (.string (l.getD (k - 1) ac0).1)):=hide (fun hk1=>by
            obtain ⟨lv2,hat2,_⟩:=H4.out (k - 1) (by omega)
            rw [List.getD_eq_getElem?_getD,List.getElem?_eq_getElem (show k - 1 < l.length by omega)]
            exact (hat2.below hb h3).c0)
          have hshape:=hrl.shape
          have Hrl:=hide (hrl.below hb (Nat.le_refl _))
          clear hat hrl
          generalize l[k]=ak at c0 c1 c2 c3 Hok hshape Hrl hsz
          generalize (l.getD (k - 1) ac0).1=pn at hprev Hok
          obtain ⟨nm,fr,no,st,ls⟩:=ak
          obtain ⟨av,cv,rfl⟩:=hshape
          simp only at c0 c1 c2 c3 Hok Hrl hsz
          obtain ⟨w1,hw1⟩:∃ w1,wr.alloc (.cells #[.string nm,.int .i64 fr,.int .i64 no,.int .i64 st,.slice av ls.length cv] 53)=w1:=⟨_,rfl⟩
          have hA:Below wr.heap.size wr w1:=by rw [<- hw1];exact (Below.refl _ wr).alloc (Nat.le_refl _) _
          have HB1:Hid (Below w.heap.size w w1):=hide (hb.trans (hA.mono hb.size))
          have hk1:Blk w1 wr.heap.size 53 [.string nm,.int .i64 fr,.int .i64 no,.int .i64 st,.slice av ls.length cv]:=by rw [<- hw1];exact Blk.new wr _ _
          have HQ:=hide (fun (d:Nat) (os:Array Obj)=>Calls.regrown_of (implAcctOk_any (nm,fr,no,st,ls) (.slice av ls.length cv) (grow (redrawn w1 d) os) ((Hrl.out.below hA (Nat.le_refl _)).below (below_regrown w1 d os) (Nat.le_refl _)) hsz.1 hsz.2))
          simp only [acV] at HQ
          have e0:=hk1.cell 0
          have e1:=hk1.cell 1
          have e2:=hk1.cell 2
          have e3:=hk1.cell 3
          have e4:=hk1.cell 4
          simp only [List.getElem?_cons_zero,List.getElem?_cons_succ] at e0 e1 e2 e3 e4
          have g0:=cell_regrown e0
          have g1:=cell_regrown e1
          have g2:=cell_regrown e2
          have g3:=cell_regrown e3
          have g4:=cell_regrown e4
          have hprev1:Hid (k ≥ 1->w1.cell? ⟨b,off+(k - 1) * 5,none⟩=some (.string pn)):=hide (fun h=>(hA.cell (p:=⟨b,off+(k - 1) * 5,none⟩) hbb).trans (hprev.out h))
          clear e0 e1 e2 e3 e4 hprev hsz Hrl hk1 hA
          cases hn:acB (nm,fr,no,st,ls)
          · have hf:=hide (Hno.out (by rw [Hok.out,hn];rfl))
            rw [hn] at HQ
            clear hn hprev1 Hnx
            go_wp2
            clear c0 c1 c2 c3 c4
            refine wp_region_quiet_below (by kernel_rfl) (by kernel_rfl) ?_
            repeat (go_big_quiet_step ((go_at_call 83;exact HQ.out _ _)))
            refine wpQuiet_nil ?_
            intro _ hw'
            obtain ⟨⟨dq,osq⟩,hw''⟩:=hw'
            subst hw''
            go_wp2
            go_ret
            exact ⟨ret_bool hf.out.symm,HB1.out.trans ((below_regrown w1 dq osq).mono HB1.out.size)⟩
          · rw [hn] at HQ
            by_cases hk1:k < 1
            · have hd:decide (0 < k)=false:=by simp;omega
              have hd2:decide ((0:Int) < (k:Int))=false:=by simp;omega
              have Hnx:=hide (Hnx.out (by rw [Hok.out,hn,show k=0 from by omega];rfl))
              clear hn hprev1
              go_wp2
              clear c0 c1 c2 c3 c4
              refine wp_region_quiet_below (by kernel_rfl) (by kernel_rfl) ?_
              repeat (go_big_quiet_step ((go_at_call 83;exact HQ.out _ _)))
              refine wpQuiet_nil ?_
              intro _ hw'
              obtain ⟨⟨dq,osq⟩,hw''⟩:=hw'
              subst hw''
              go_wp2
              go_roundw
              case rel=>exact ⟨k+1,by omega,by go_num,Hnx.out,HB1.out.trans ((below_regrown w1 dq osq).mono HB1.out.size)⟩
              case measure=>simp [intOf];omega
            · have hcp:=cell_regrown (hprev1.out (by omega))
              clear hprev1
              have hpos:(0:Int) < (k:Int):=by omega
              have hposN:0 < k:=by omega
              have hd1:decide (0 < k)=true:=by simp;omega
              have hix:((k:Int) - 1).toNat=k - 1:=by omega
              have hix1:(0:Int)<=(k:Int) - 1:=by omega
              have hix2:(k:Int) - 1 < (l.length:Int):=by omega
              cases hless:Op.bytesLess pn.toList nm.toList
              · have hf:=hide (Hno.out (by rw [Hok.out,hn,hless];simp;omega))
                clear hn Hnx
                go_wp2
                clear c0 c1 c2 c3 c4
                refine wp_region_quiet_below (by kernel_rfl) (by kernel_rfl) ?_
                repeat (go_big_quiet_step ((go_at_call 83;exact HQ.out _ _)))
                refine wpQuiet_nil ?_
                intro _ hw'
                obtain ⟨⟨dq,osq⟩,hw''⟩:=hw'
                subst hw''
                go_wp2
                go_ret
                exact ⟨ret_bool hf.out.symm,HB1.out.trans ((below_regrown w1 dq osq).mono HB1.out.size)⟩
              · have Hnx:=hide (Hnx.out (by rw [Hok.out,hn,hless];simp))
                clear hn
                go_wp2
                clear c0 c1 c2 c3 c4
                refine wp_region_quiet_below (by kernel_rfl) (by kernel_rfl) ?_
                repeat (go_big_quiet_step ((go_at_call 83;exact HQ.out _ _)))
                refine wpQuiet_nil ?_
                intro _ hw'
                obtain ⟨⟨dq,osq⟩,hw''⟩:=hw'
                subst hw''
                go_wp2
                go_roundw
                case rel=>exact ⟨k+1,by omega,by go_num,Hnx.out,HB1.out.trans ((below_regrown w1 dq osq).mono HB1.out.size)⟩
                case measure=>simp [intOf];omega
        · have hf:=hide (acs_yes l (fun j hj=>Hall.out j (by omega)))
          have HW2:=hide (HW.out _ (Hr.out.below hb (Nat.le_refl _)))
          rw [decide_eq_true h12,Bool.true_and] at hf
          generalize wealthA l=W at hf HW2
          go_wp2_with fail
          refine HW2.out.mono ?_
          rintro e w2 ⟨rfl,hb2⟩
          go_wp2
          go_ret
          exact ⟨ret_bool hf.out.symm,hb.trans (hb2.mono hb.size)⟩
    · have h12i:(12:Int) < (l.length:Int):=by omega
      have hf:Hid (acsB l=false):=hide (by unfold acsB;rw [decide_eq_false h12,Bool.false_and,Bool.and_false])
      clear h12
      go_enter Tryz.func54,Tryz.ntmps54
      go_wp2
      go_ret
      exact ⟨ret_bool hf.out.symm,Below.refl _ _⟩
end Go.Proofs.YthidkbhiikdokaaGreat
namespace Go.Proofs.YthidkbhiikdokaaGreat
open Go.RowKit
set_option linter.unusedVariables false
theorem implLedgerOk_any (e:Int) (v:Value) (l:List Ac) (w:World) (hr:RdA w v l) (hl:l.length<=4000000) (hall:∀ a ∈ l,a.1.size<=maxLen/\a.2.2.2.2.length<=4000000) :
    Calls Tryz.prog 24 #[lgV e v] w fun en w'=>en=.returned (.bool (lgB e l))/\Below w.heap.size w w':=by
  obtain ⟨a1,cv1,rfl⟩:=hr.shape
  simp only [lgV] at *
  have hb3:Below w.heap.size w (w.alloc (.cells #[.int .i64 e,.slice a1 l.length cv1] 30)):=(Below.refl _ w).alloc (Nat.le_refl _) _
  have HE:=hide (implAcctsOk_any _ l _ (hr.below hb3 (Nat.le_refl _)) hl hall)
  have Hb3:=hide hb3
  have Hx:Hid (lgB e l=(inB e 0 900 && acsB l)):=hide rfl
  clear hb3 hr hall
  generalize lgB e l=X at Hx
  generalize acsB l=A at Hx HE
  cases h0:inB e 0 900
  · rw [h0,Bool.false_and] at Hx
    go_enter Tryz.func24,Tryz.ntmps24
    go_wp2_with (go_at_call 53;refine (implWithin_any _ _ _ _).mono ?_;rintro en w1 ⟨rfl,rfl⟩)
    go_ret
    exact ⟨ret_bool Hx.out.symm,Hb3.out⟩
  · rw [h0,Bool.true_and] at Hx
    go_enter Tryz.func24,Tryz.ntmps24
    go_wp2_with (first
      | (go_at_call 53;refine (implWithin_any _ _ _ _).mono ?_;rintro en w1 ⟨rfl,rfl⟩)
      | (go_at_call 54;refine HE.out.mono ?_;rintro en w2 ⟨rfl,hb2⟩))
    go_ret
    exact ⟨ret_bool Hx.out.symm,Hb3.out.trans (hb2.mono Hb3.out.size)⟩
theorem implCopiedLg_any (e:Int) (v:Value) (l:List Ac) (w:World) (hr:RdA w v l) (hl:l.length<=4000000) (hall:∀ a ∈ l,a.2.2.2.2.length<=4000000) :
    Calls Tryz.prog 26 #[lgV e v] w fun en w'=>∃ v',en=.returned (lgV e v')/\OwnA w.heap.size w' v' l/\Below w.heap.size w w':=by
  obtain ⟨a1,cv1,rfl⟩:=hr.shape
  simp only [lgV] at *
  obtain ⟨w2,hw2⟩:∃ w2,(w.alloc (.cells #[.int .i64 e,.slice a1 l.length cv1] 30)).alloc (.cells #[.int .i64 0,.slice none 0 0] 30)=w2:=⟨_,rfl⟩
  have hb2:Below w.heap.size w w2.drew:=by rw [<- hw2];exact (((Below.refl _ w).alloc (Nat.le_refl _) _).alloc (by simp) _).drew
  have hs2:w2.heap.size=w.heap.size+2:=by rw [<- hw2];simp
  have kA:Blk w2 w.heap.size 30 [.int .i64 e,.slice a1 l.length cv1]:=by
    rw [<- hw2]
    exact (Blk.new w 30 [.int .i64 e,.slice a1 l.length cv1]).below ((Below.refl (w.heap.size+1) _).alloc (by simp) _) (by omega)
  have kR:Blk w2 (w.heap.size+1) 30 [.int .i64 0,.slice none 0 0]:=by
    rw [<- hw2]
    have h:=Blk.new (w.alloc (.cells #[.int .i64 e,.slice a1 l.length cv1] 30)) 30 [.int .i64 0,.slice none 0 0]
    simp only [World.size_alloc] at h
    exact h
  have HC:=hide (implCopiedS_any _ l w2.drew (hr.below hb2 (Nat.le_refl _)) hl hall)
  have hS2:w2.drew.cell? ⟨w.heap.size,0,none⟩=some (.int .i64 e)/\w2.drew.cell? ⟨w.heap.size,1,none⟩=some (.slice a1 l.length cv1):=⟨kA.cell 0,kA.cell 1⟩
  have Hb2:=hide hb2
  have KA:Hid (Blk w2.drew w.heap.size 30 [.int .i64 e,.slice a1 l.length cv1]):=hide kA
  have KR:Hid (Blk w2.drew (w.heap.size+1) 30 [.int .i64 0,.slice none 0 0]):=hide kR
  have hs3:w2.drew.heap.size=w.heap.size+2:=hs2
  clear hr hb2 kA kR
  go_enter Tryz.func26,Tryz.ntmps26
  go_wp2
  go_region_held_law (fun w'=>w'.cell? ⟨w.heap.size,0,none⟩=some (.int .i64 e)/\w'.cell? ⟨w.heap.size,1,none⟩=some (.slice a1 l.length cv1)) (first | exact hS2 | exact hS4 | exact keep2 hS4 (by omega)) ((go_at_call 56;refine HC.out.mono ?_;rintro en w4 ⟨v4,rfl,ho4,hb4⟩;have KA4:=KA.out.below hb4 (by omega);have KR4:=KR.out.below hb4 (by omega);have hS4:w4.cell? ⟨w.heap.size,0,none⟩=some (.int .i64 e)/\w4.cell? ⟨w.heap.size,1,none⟩=some (.slice a1 l.length cv1):=⟨KA4.cell 0,KA4.cell 1⟩;have r0:w4.cell? ⟨w.heap.size+1,0,none⟩=some (.int .i64 0):=KR4.cell 0;have r1:w4.cell? ⟨w.heap.size+1,1,none⟩=some (.slice none 0 0):=KR4.cell 1;have q0:=KR4.frozen 0;have q1:=KR4.frozen 1;have hsh:=ho4.rd.shape;obtain ⟨a4,cv4,hv4⟩:=hsh;subst hv4))
  have Ho:=hide (((ho4.older (g:=w.heap.size+1) (by omega) 0 (.int .i64 e)).older (g:=w.heap.size+1) (by omega) 1 (.slice a4 l.length cv4)).mono (show w.heap.size<=_ by omega))
  have HB:=hide (((Hb2.out.trans (hb4.mono Hb2.out.size)).setCell (p:=⟨w.heap.size+1,0,none⟩) (show w.heap.size<=w.heap.size+1 by omega) (.int .i64 e)).setCell (p:=⟨w.heap.size+1,1,none⟩) (show w.heap.size<=w.heap.size+1 by omega) (.slice a4 l.length cv4))
  clear ho4 hb4 KA4
  go_wp2
  refine bodyPost_ret (v:=.agg #[.int .i64 e,.slice a4 l.length cv4]) (by simp [results,Tryz.f26,go_sem,r0,r1]) rfl ?_
  exact ⟨_,rfl,Ho.out,HB.out⟩
end Go.Proofs.YthidkbhiikdokaaGreat
