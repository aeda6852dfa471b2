/- Accounts that ascend by their names. -/
import Derived.Test.YthidkbhiikdokaaGreatZwNames
import Derived.Lib.QuietBelow
import Derived.Maps.AppendAt
import Derived.Laws.AppendOwnNone
import Derived.Sort.Walk0
set_option maxRecDepth 20000
set_option maxHeartbeats 2000000
namespace Go.Proofs.YthidkbhiikdokaaGreat
open Go.RowKit
set_option linter.unusedVariables false
def lvAt (l:List (Int × Int)) (i:Nat):Bool:=inB (l.getD i (0,0)).1 1 1000000 && (inB (l.getD i (0,0)).2 0 1000 && (decide (i=0) || decide ((l.getD (i - 1) (0,0)).2 < (l.getD i (0,0)).2)))
def lvsB (l:List (Int × Int)):Bool:=(List.range l.length).all (lvAt l)
def acB (a:Ac):Bool:=nmB a.1 && (inB a.2.1 0 1000000 && (inB a.2.2.1 0 10000 && (inB a.2.2.2.1 0 1000000 && (decide (a.2.2.2.2.length<=4) && lvsB a.2.2.2.2))))
theorem lvs_no (l:List (Int × Int)) (k:Nat) (h:k < l.length) (hk:lvAt l k=false):lvsB l=false:=by
  unfold lvsB
  rw [List.all_eq_false]
  exact ⟨k,List.mem_range.2 h,by simp [hk]⟩
theorem lvs_yes (l:List (Int × Int)) (h:∀ j,j < l.length->lvAt l j=true):lvsB l=true:=by
  unfold lvsB
  rw [List.all_eq_true]
  exact fun j hj=>h j (List.mem_range.1 hj)
theorem specAcctOk_any (a:Ac) (lv:Value) (w:World) (hr:RdL w lv a.2.2.2.2) (hn:a.1.size<=maxLen) (hl:a.2.2.2.2.length<=4000000) :
    Calls Tryz.prog 80 #[acV a lv] w fun e w'=>e=.returned (.bool (acB a))/\Below w.heap.size w w':=by
  obtain ⟨nm,fr,no,st,ls⟩:=a
  have HB:=hide ((Below.refl _ w).alloc (Nat.le_refl _) (.cells #[.string nm,.int .i64 fr,.int .i64 no,.int .i64 st,lv] 53))
  have hk:=Blk.new w 53 [.string nm,.int .i64 fr,.int .i64 no,.int .i64 st,lv]
  have Hr:=hide (hr.below HB.out (Nat.le_refl _))
  obtain ⟨av,cv,rfl⟩:=hr.shape
  clear hr
  simp only [acV] at *
  obtain ⟨w0,hw0⟩:∃ w0,w.alloc (.cells #[.string nm,.int .i64 fr,.int .i64 no,.int .i64 st,.slice av ls.length cv] 53)=w0:=⟨_,rfl⟩
  have hk':Blk w0 w.heap.size 53 [.string nm,.int .i64 fr,.int .i64 no,.int .i64 st,.slice av ls.length cv]:=by rw [<- hw0];exact hk
  have HB':Hid (Below w.heap.size w w0):=hide (by rw [<- hw0];exact HB.out)
  have Hr':Hid (RdL w0 (.slice av ls.length cv) ls):=hide (by rw [<- hw0];exact Hr.out)
  have hlt0:=hk'.lt
  have k0:=hk'.cell 0
  have k1:=hk'.cell 1
  have k2:=hk'.cell 2
  have k3:=hk'.cell 3
  have k4:=hk'.cell 4
  simp only [List.getElem?_cons_zero,List.getElem?_cons_succ] at k0 k1 k2 k3 k4
  clear hk HB Hr
  have Hac:Hid (acB (nm,fr,no,st,ls)=(nmB nm && (inB fr 0 1000000 && (inB no 0 10000 && (inB st 0 1000000 && (decide (ls.length<=4) && lvsB ls)))))):=hide rfl
  by_cases hhead:nmB nm=true/\inB fr 0 1000000=true/\inB no 0 10000=true/\inB st 0 1000000=true/\ls.length<=4
  · obtain ⟨e0, e1,e2,e3,e4⟩:=hhead
    rw [e0,e1,e2,e3,decide_eq_true e4] at Hac
    simp only [Bool.true_and] at Hac
    have e4i:(ls.length:Int)<=4:=by omega
    go_enter Tryz.func80,Tryz.ntmps80
    go_wp2_with (first
      | (go_at_call 49;refine (specNameOk_any nm _ hn).mono ?_;rintro e w0 ⟨rfl,rfl⟩)
      | (go_at_call 47;refine (l1In_any _ _ _ _).mono ?_;rintro e w0 ⟨rfl,rfl⟩))
    clear k0 k1 k2 k3
    go_loopw [3] (fun i wr=>∃ k:Nat,k<=ls.length/\i=.int .i64 k/\(∀ j,j < k->lvAt ls j=true)/\Below w0.heap.size w0 wr) (fun i _=>ls.length - (intOf i).toNat)
    case atStart=>exact ⟨0,Nat.zero_le _,rfl,fun j hj=>by omega,Below.refl _ _⟩
    case round =>
      obtain ⟨k,hkl,rfl,hok,hb⟩:=hrel
      have Hok:=hide hok
      have hc:=(hk'.below hb hlt0).cell 4
      simp only [List.getElem?_cons_zero,List.getElem?_cons_succ] at hc
      clear hok k4
      have hB:Below w.heap.size w wr:=HB'.out.trans (hb.mono HB'.out.size)
      by_cases hlt:k < ls.length
      · have hrr:=Hr'.out
        rcases hrr with ⟨_,_,_,e,_⟩ | ⟨b,off,cap,h0,hv,h1,h2,h3,h4⟩
        · subst e;simp at hlt
        injection hv with ha _ hcap
        subst ha hcap
        have hc1:=(hb.cell (p:=⟨b,off+k * 2,none⟩) h3).trans (h4 k hlt).1
        have hc2:=(hb.cell (p:=⟨b,off+k * 2+1,none⟩) h3).trans (h4 k hlt).2
        have hli:(k:Int) < (ls.length:Int):=by omega
        have hwb:w.heap.size < wr.heap.size:=Nat.lt_of_lt_of_le hlt0 hb.size
        have hbb:b < wr.heap.size:=Nat.lt_of_lt_of_le h3 hb.size
        have Hno:=hide (lvs_no ls k hlt)
        have Hnx:Hid (lvAt ls k=true->∀ j,j < k+1->lvAt ls j=true):=hide (fun h j hj=>by
          by_cases e:j=k
          · subst e;exact h
          · exact Hok.out j (by omega))
        have Hat:Hid (lvAt ls k=(inB ls[k].1 1 1000000 && (inB ls[k].2 0 1000 && (decide (k=0) || decide ((ls.getD (k - 1) (0,0)).2 < ls[k].2))))):=hide (by unfold lvAt;rw [List.getD_eq_getElem?_getD,List.getElem?_eq_getElem hlt];rfl)
        have Hpr:Hid (0 < k->wr.cell? ⟨b,off+(k - 1) * 2+1,none⟩=some (.int .i64 (ls.getD (k - 1) (0,0)).2)):=hide (fun h=>by
          have:=(hb.cell (p:=⟨b,off+(k - 1) * 2+1,none⟩) h3).trans (h4 (k - 1) (by omega)).2
          rw [List.getD_eq_getElem?_getD,List.getElem?_eq_getElem (show k - 1 < ls.length by omega)]
          exact this)
        clear h4 Hok
        generalize ls[k]=p at hc1 hc2 Hat
        obtain ⟨x,y⟩:=p
        simp only at hc1 hc2 Hat
        by_cases q1:inB x 1 1000000=true
        · by_cases q2:inB y 0 1000=true
          · rw [q1,q2,Bool.true_and,Bool.true_and] at Hat
            cases k with
            | zero =>
              rw [show decide (0=0)=true from rfl,Bool.true_or] at Hat
              rw [Nat.zero_mul,Nat.add_zero] at hc1 hc2
              have Hnx:=hide (Hnx.out Hat.out)
              clear Hat Hno Hpr
              go_wp2
              go_quiet ((go_at_call 47;exact Calls.quiet_of_same (l1In_any _ _ _ _)))
              go_wp2
              go_roundw
              case rel=>exact ⟨0+1,by omega,by go_num,Hnx.out,below_drewN (hb.alloc hb.size _) _⟩
              case measure=>simp [intOf];omega
            | succ j =>
              rw [show decide (j+1=0)=false from rfl,Bool.false_or] at Hat
              have hpr:=Hpr.out (by omega)
              rw [show j+1 - 1=j from by omega] at hpr Hat
              generalize (ls.getD j (0,0)).2=z at hpr Hat
              by_cases q3:z < y
              · rw [decide_eq_true q3] at Hat
                have Hnx:=hide (Hnx.out Hat.out)
                clear Hat Hno Hpr
                go_wp2
                go_quiet ((go_at_call 47;exact Calls.quiet_of_same (l1In_any _ _ _ _)))
                go_wp2
                go_roundw
                case rel=>exact ⟨j+1+1,by omega,by go_num,Hnx.out,below_drewN (hb.alloc hb.size _) _⟩
                case measure=>simp [intOf];omega
              · rw [decide_eq_false q3] at Hat
                have Hno:=hide (Hac.out.trans (Hno.out Hat.out))
                clear Hat Hnx Hpr
                go_wp2
                go_quiet ((go_at_call 47;exact Calls.quiet_of_same (l1In_any _ _ _ _)))
                go_wp2
                go_ret
                exact ⟨ret_bool Hno.out.symm,below_drewN (hB.alloc hB.size _) _⟩
          · have q2:inB y 0 1000=false:=by simpa using q2
            rw [q1,q2,Bool.true_and,Bool.false_and] at Hat
            have Hno:=hide (Hac.out.trans (Hno.out Hat.out))
            clear Hat Hnx Hpr
            go_wp2
            go_quiet ((go_at_call 47;exact Calls.quiet_of_same (l1In_any _ _ _ _)))
            go_wp2
            go_ret
            exact ⟨ret_bool Hno.out.symm,below_drewN (hB.alloc hB.size _) _⟩
        · have q1:inB x 1 1000000=false:=by simpa using q1
          rw [q1,Bool.false_and] at Hat
          have Hno:=hide (Hac.out.trans (Hno.out Hat.out))
          clear Hat Hnx Hpr
          go_wp2
          go_quiet ((go_at_call 47;exact Calls.quiet_of_same (l1In_any _ _ _ _)))
          go_wp2
          go_ret
          exact ⟨ret_bool Hno.out.symm,below_drewN (hB.alloc hB.size _) _⟩
      · have Hy:=hide (Hac.out.trans (lvs_yes ls (fun j hj=>Hok.out j (by omega))))
        go_wp2
        go_ret
        exact ⟨ret_bool Hy.out.symm,hB⟩
  · by_cases e0:nmB nm=true
    · by_cases e1:inB fr 0 1000000=true
      · by_cases e2:inB no 0 10000=true
        · by_cases e3:inB st 0 1000000=true
          · have e4:¬ ls.length<=4:=fun h=>hhead ⟨e0,e1,e2,e3,h⟩
            rw [e0,e1,e2,e3,decide_eq_false e4] at Hac
            have e4i:(4:Int) < (ls.length:Int):=by omega
            simp only [Bool.true_and,Bool.false_and] at Hac
            clear hhead
            clear e4
            go_enter Tryz.func80,Tryz.ntmps80
            go_wp2_with (first
      | (go_at_call 49;refine (specNameOk_any nm _ hn).mono ?_;rintro e w0 ⟨rfl,rfl⟩)
      | (go_at_call 47;refine (l1In_any _ _ _ _).mono ?_;rintro e w0 ⟨rfl,rfl⟩))
            go_ret
            exact ⟨ret_bool Hac.out.symm,HB'.out⟩
          · have e3:inB st 0 1000000=false:=by simpa using e3
            rw [e0,e1,e2,e3] at Hac
            simp only [Bool.true_and,Bool.false_and] at Hac
            clear hhead
            go_enter Tryz.func80,Tryz.ntmps80
            go_wp2_with (first
      | (go_at_call 49;refine (specNameOk_any nm _ hn).mono ?_;rintro e w0 ⟨rfl,rfl⟩)
      | (go_at_call 47;refine (l1In_any _ _ _ _).mono ?_;rintro e w0 ⟨rfl,rfl⟩))
            go_ret
            exact ⟨ret_bool Hac.out.symm,HB'.out⟩
        · have e2:inB no 0 10000=false:=by simpa using e2
          rw [e0,e1,e2] at Hac
          simp only [Bool.true_and,Bool.false_and] at Hac
          clear hhead
          go_enter Tryz.func80,Tryz.ntmps80
          go_wp2_with (first
      | (go_at_call 49;refine (specNameOk_any nm _ hn).mono ?_;rintro e w0 ⟨rfl,rfl⟩)
      | (go_at_call 47;refine (l1In_any _ _ _ _).mono ?_;rintro e w0 ⟨rfl,rfl⟩))
          go_ret
          exact ⟨ret_bool Hac.out.symm,HB'.out⟩
      · have e1:inB fr 0 1000000=false:=by simpa using e1
        rw [e0,e1] at Hac
        simp only [Bool.true_and,Bool.false_and] at Hac
        clear hhead
        go_enter Tryz.func80,Tryz.ntmps80
        go_wp2_with (first
      | (go_at_call 49;refine (specNameOk_any nm _ hn).mono ?_;rintro e w0 ⟨rfl,rfl⟩)
      | (go_at_call 47;refine (l1In_any _ _ _ _).mono ?_;rintro e w0 ⟨rfl,rfl⟩))
        go_ret
        exact ⟨ret_bool Hac.out.symm,HB'.out⟩
    · have e0:nmB nm=false:=by simpa using e0
      rw [e0] at Hac
      simp only [Bool.false_and] at Hac
      clear hhead
      go_enter Tryz.func80,Tryz.ntmps80
      go_wp2_with (first
      | (go_at_call 49;refine (specNameOk_any nm _ hn).mono ?_;rintro e w0 ⟨rfl,rfl⟩)
      | (go_at_call 47;refine (l1In_any _ _ _ _).mono ?_;rintro e w0 ⟨rfl,rfl⟩))
      go_ret
      exact ⟨ret_bool Hac.out.symm,HB'.out⟩
end Go.Proofs.YthidkbhiikdokaaGreat
namespace Go.Proofs.YthidkbhiikdokaaGreat
open Go.RowKit Go.Sort
set_option linter.unusedVariables false
def ac0:Ac:=(ByteArray.empty,0,0,0,[])
def acAt (l:List Ac) (i:Nat):Bool:=acB (l.getD i ac0) && (decide (i=0) || Op.bytesLess (l.getD (i - 1) ac0).1.toList (l.getD i ac0).1.toList)
def acsB (l:List Ac):Bool:=(List.range l.length).all (acAt l) && (decide (l.length<=12) && decide (wealthA l<=1000000))
theorem acs_no (l:List Ac) (k:Nat) (h:k < l.length) (hk:acAt l k=false):acsB l=false:=by
  unfold acsB
  have:(List.range l.length).all (acAt l)=false:=by
    rw [List.all_eq_false]
    exact ⟨k,List.mem_range.2 h,by simp [hk]⟩
  rw [this,Bool.false_and]
theorem acs_yes (l:List Ac) (h:∀ j,j < l.length->acAt l j=true):acsB l=(decide (l.length<=12) && decide (wealthA l<=1000000)):=by
  unfold acsB
  have:(List.range l.length).all (acAt l)=true:=by
    rw [List.all_eq_true]
    exact fun j hj=>h j (List.mem_range.1 hj)
  rw [this,Bool.true_and]
theorem acAt_eq (l:List Ac) (k:Nat) (a:Ac) (h:k < l.length) (ha:l[k]=a):acAt l k=(acB a && (decide (k=0) || Op.bytesLess (l.getD (k - 1) ac0).1.toList a.1.toList)):=by
  have:l.getD k ac0=a:=by rw [List.getD_eq_getElem?_getD,List.getElem?_eq_getElem h,<- ha];rfl
  unfold acAt;rw [this]
theorem specAcctsOk_any (v:Value) (l:List Ac) (w:World) (hr:RdA w v l) (hl:l.length<=4000000) (hall:∀ a ∈ l,a.1.size<=maxLen/\a.2.2.2.2.length<=4000000) :
    Calls Tryz.prog 48 #[v] w fun e w'=>e=.returned (.bool (acsB l))/\Below w.heap.size w w':=by
  have HW:=hide (fun w h=>specWealth_any v l w h hl (fun a ha=>(hall a ha).2))
  have Hr:=hide hr
  rcases hr with ⟨a,cap,rfl,rfl,-⟩ | ⟨b,off,cap,h0,rfl,h1,h2,h3,h4⟩
  · go_enter Tryz.func48,Tryz.ntmps48
    go_wp2
    refine wp_loop_rounds 1 ?_
    rw [rounds_succ]
    go_wp2_with fail
    refine (HW.out _ Hr.out).mono ?_
    rintro e w2 ⟨rfl,hb2⟩
    go_wp2
    go_ret
    exact ⟨rfl,hb2⟩
  · have H4 := hide h4
    have Hs:=hide hall
    clear h4 hall
    go_enter Tryz.func48,Tryz.ntmps48
    go_wp2
    go_loopw [3] (fun i wr=>∃ k:Nat,k<=l.length/\i=.int .i64 k/\(∀ j,j < k->acAt l j=true)/\Below w.heap.size w wr) (fun i _=>l.length - (intOf i).toNat)
    case atStart=>exact ⟨0,Nat.zero_le _,rfl,fun j hj=>by omega,Below.refl _ _⟩
    case round =>
      obtain ⟨k,hk,rfl,hok,hb⟩:=hrel
      have Hall:=hide hok
      clear hok
      by_cases hlt:k < l.length
      · obtain ⟨lv,hat,hrl⟩:=H4.out k hlt
        obtain ⟨c0,c1,c2,c3,c4⟩:=hat.below hb h3
        have hsz:=Hs.out l[k] (List.getElem_mem hlt)
        have Hok:=hide (acAt_eq l k l[k] hlt rfl)
        have Hno:=hide (acs_no l k hlt)
        have hli:(k:Int) < (l.length:Int):=by omega
        have Hnx:Hid (acAt l k=true->∀ j,j < k+1->acAt l j=true):=hide (fun h j hj=>by
          by_cases e:j=k
          · subst e;exact h
          · exact Hall.out j (by omega))
        have HQ:=hide (fun (d:Nat) (os:Array Obj)=>Calls.regrown_of (specAcctOk_any l[k] lv (grow (redrawn wr d) os) ((hrl.below hb (Nat.le_refl _)).below (below_regrown wr d os) (Nat.le_refl _)) hsz.1 hsz.2))
        have hprev:Hid (k ≥ 1->wr.cell? ⟨b,off+(k - 1) * 5,none⟩=some (.string (l.getD (k - 1) ac0).1)):=hide (fun hk1=>by
          obtain ⟨lv2,hat2,_⟩:=H4.out (k - 1) (by omega)
          rw [List.getD_eq_getElem?_getD,List.getElem?_eq_getElem (show k - 1 < l.length by omega)]
          exact (hat2.below hb h3).c0)
        have hshape:=hrl.shape
        clear hat hrl hsz
        generalize l[k]=ak at c0 c1 c2 c3 HQ Hok hshape
        generalize (l.getD (k - 1) ac0).1=pn at hprev Hok
        obtain ⟨nm,fr,no,st,ls⟩:=ak
        obtain ⟨av,cv,rfl⟩:=hshape
        simp only [acV] at c0 c1 c2 c3 HQ Hok
        have g0:=cell_regrown c0
        have g1:=cell_regrown c1
        have g2:=cell_regrown c2
        have g3:=cell_regrown c3
        have g4:=cell_regrown c4
        clear c0 c1 c2 c3 c4
        cases hn:acB (nm,fr,no,st,ls)
        · have hf:=hide (Hno.out (by rw [Hok.out,hn];rfl))
          rw [hn] at HQ
          clear hn hprev Hnx
          go_wp2
          refine wp_region_quiet_below (by kernel_rfl) (by kernel_rfl) ?_
          repeat (go_big_quiet_step ((go_at_call 80;exact HQ.out _ _)))
          refine wpQuiet_nil ?_
          intro _ hw'
          obtain ⟨⟨dq,osq⟩,hw''⟩:=hw'
          subst hw''
          go_wp2
          go_ret
          exact ⟨ret_bool hf.out.symm,hb.trans ((below_regrown wr dq osq).mono hb.size)⟩
        · rw [hn] at HQ
          by_cases hk1:k < 1
          · have hd:decide (0 < k)=false:=by simp;omega
            have hd2:decide ((0:Int) < (k:Int))=false:=by simp;omega
            have Hnx:=hide (Hnx.out (by rw [Hok.out,hn,show k=0 from by omega];rfl))
            clear hn hprev
            go_wp2
            refine wp_region_quiet_below (by kernel_rfl) (by kernel_rfl) ?_
            repeat (go_big_quiet_step ((go_at_call 80;exact HQ.out _ _)))
            refine wpQuiet_nil ?_
            intro _ hw'
            obtain ⟨⟨dq,osq⟩,hw''⟩:=hw'
            subst hw''
            go_wp2
            go_roundw
            case rel=>exact ⟨k+1,by omega,by go_num,Hnx.out,hb.trans ((below_regrown wr dq osq).mono hb.size)⟩
            case measure=>simp [intOf];omega
          · have hcp:=cell_regrown (hprev.out (by omega))
            clear hprev
            have hpos:(0:Int) < (k:Int):=by omega
            have hposN:0 < k:=by omega
            have hd1:decide (0 < k)=true:=by simp;omega
            have hix:((k:Int) - 1).toNat=k - 1:=by omega
            have hix1:(0:Int)<=(k:Int) - 1:=by omega
            have hix2:(k:Int) - 1 < (l.length:Int):=by omega
            cases hless:Op.bytesLess pn.toList nm.toList
            · have hf:=hide (Hno.out (by rw [Hok.out,hn,hless];simp;omega))
              clear hn Hnx
              go_wp2
              refine wp_region_quiet_below (by kernel_rfl) (by kernel_rfl) ?_
              repeat (go_big_quiet_step ((go_at_call 80;exact HQ.out _ _)))
              refine wpQuiet_nil ?_
              intro _ hw'
              obtain ⟨⟨dq,osq⟩,hw''⟩:=hw'
              subst hw''
              go_wp2
              go_ret
              exact ⟨ret_bool hf.out.symm,hb.trans ((below_regrown wr dq osq).mono hb.size)⟩
            · have Hnx:=hide (Hnx.out (by rw [Hok.out,hn,hless];simp))
              clear hn
              go_wp2
              refine wp_region_quiet_below (by kernel_rfl) (by kernel_rfl) ?_
              repeat (go_big_quiet_step ((go_at_call 80;exact HQ.out _ _)))
              refine wpQuiet_nil ?_
              intro _ hw'
              obtain ⟨⟨dq,osq⟩,hw''⟩:=hw'
              subst hw''
              go_wp2
              go_roundw
              case rel=>exact ⟨k+1,by omega,by go_num,Hnx.out,hb.trans ((below_regrown wr dq osq).mono hb.size)⟩
              case measure=>simp [intOf];omega
      · have hf:=hide (acs_yes l (fun j hj=>Hall.out j (by omega)))
        have HW2:=hide (HW.out _ (Hr.out.below hb (Nat.le_refl _)))
        by_cases h12:l.length<=12
        · have h12i:(l.length:Int)<=12:=by omega
          rw [decide_eq_true h12,Bool.true_and] at hf
          generalize wealthA l=W at hf HW2
          go_wp2_with fail
          refine HW2.out.mono ?_
          rintro e w2 ⟨rfl,hb2⟩
          go_wp2
          go_ret
          exact ⟨ret_bool hf.out.symm,hb.trans (hb2.mono hb.size)⟩
        · have h12i:¬ (l.length:Int)<=12:=by omega
          rw [decide_eq_false h12,Bool.false_and] at hf
          go_wp2
          go_ret
          exact ⟨ret_bool hf.out.symm,hb⟩
end Go.Proofs.YthidkbhiikdokaaGreat
namespace Go.Proofs.YthidkbhiikdokaaGreat
open Go.RowKit
set_option linter.unusedVariables false
theorem add_flat (b off i:Nat):(⟨b,off,none⟩:Addr).add i=⟨b,off+i,none⟩:=by
  by_cases hz:i=0
  · subst hz;simp [Addr.add]
  · simp [Addr.add,hz]
theorem own_nilL (w:World) (base:Nat) (h:base<=w.heap.size):OwnL base (w.alloc (.cells #[] 135)) (.slice (some ⟨w.heap.size,0,none⟩) 0 0) [] :=
  World.ownsRow_lit w #[] 0 h (by unfold maxLen;omega) (by simp)
theorem rdL_cells {w:World} {b off:Nat} {k:List (Int × Int)} (h4:∀ i (h:i < k.length),w.cell? ⟨b,off+i * 2,none⟩=some (.int .i64 k[i].1)/\w.cell? ⟨b,off+i * 2+1,none⟩=some (.int .i64 k[i].2)) :
    ∀ j u,(k.map lvC).flatten[j]?=some u->w.cell? ((⟨b,off,none⟩:Addr).add j)=some u:=by
  intro j u hj
  have hjl:j < (k.map lvC).flatten.length:=(List.getElem?_eq_some_iff.1 hj).1
  rw [flat_len 2 _ (lvM_sz k),List.length_map] at hjl
  have hi:j / 2 < k.length:=by omega
  have e:=flat_get 2 (k.map lvC) (j / 2) (j % 2) (by simpa using hi) (lvM_sz k) (by omega)
  rw [show j / 2 * 2+j % 2=j from by omega] at e
  rw [e] at hj
  rw [add_flat]
  rcases Nat.mod_two_eq_zero_or_one j with h | h
  · rw [h] at hj
    rw [show off+j=off+j / 2 * 2 from by omega,(h4 (j / 2) hi).1]
    simpa [lvC] using hj
  · rw [h] at hj
    rw [show off+j=off+j / 2 * 2+1 from by omega,(h4 (j / 2) hi).2]
    simpa [lvC] using hj
theorem app_ownL {ops:Array Oper} {rest:List Oper} {o:Oper} {a:Act} {Q:Exit->Act->World->Prop} (w:World) (hgd:o.guard=none) (s x:Operand)
    (ho:o.op=.call { callee:=.builtin .append,args:=#[s,x],argTypes:=#[51,51] })
    (base:Nat) (v vx:Value) (l k:List (Int × Int)) (hs:a.eval s=v) (hx:a.eval x=vx) (hown:OwnL base w v l) (hrd:RdL w vx k)
    (hlen:l.length+k.length<=100000000) (hbase:base<=w.heap.size)
    (h:∀ v' w',OwnL base w' v' (l ++ k)->Below base w w'->wpList Tryz.prog ops Q rest (a.put o.dst v') w'):wpList Tryz.prog ops Q (o :: rest) a w:=by
  obtain ⟨i0,hi,hz0,hz1,hz2⟩:=info_parts Tryz.infoLv
  have hbel:∀ w',w.grownBy w' v.ownBlock->Below base w w':=fun w' hg=>(Below.refl _ _).grown hg hbase (fun k hk=>(hown.ge k hk))
  rcases hrd with ⟨ax,cap,rfl,rfl,hnil⟩ | ⟨b,off,cap,h0,rfl,h1,h2,h3,h4⟩
  · cases ax with
    | none =>
      have hc:cap=0:=hnil rfl
      subst hc
      refine wpList_append_own_none hgd s x 51 ho base 135 i0 2 Tryz.underlying51 hi v l.length (l.map lvC).flatten hs hown hx ?_
      exact h v w (by simpa [OwnL] using hown) (Below.refl _ _)
    | some ad =>
      refine wpList_append_own w hgd s x 51 ho base 135 i0 (.agg #[.int .i64 0,.int .i64 0]) 2 16 Tryz.underlying51 hi hz0 hz1 hz2 rfl (by decide) v l.length (l.map lvC).flatten hs hown ad 0 cap [] hx rfl (by intro j u hj;simp at hj) (by intro u hu;simp at hu) (by unfold maxLen;simp at hlen;omega) (by simp at hlen;omega) hbase ?_
      intro v' w' ho' hg _
      exact h v' w' (by simpa [OwnL] using ho') (hbel w' hg)
  · refine wpList_append_own w hgd s x 51 ho base 135 i0 (.agg #[.int .i64 0,.int .i64 0]) 2 16 Tryz.underlying51 hi hz0 hz1 hz2 rfl (by decide) v l.length (l.map lvC).flatten hs hown ⟨b,off,none⟩ k.length cap (k.map lvC).flatten hx (by rw [flat_len 2 _ (lvM_sz k),List.length_map]) (rdL_cells h4) ?_ (by unfold maxLen;omega) (by omega) hbase ?_
    · intro u hu
      obtain ⟨c,hc,hu⟩:=List.mem_flatten.1 hu
      obtain ⟨p,_,rfl⟩:=List.mem_map.1 hc
      simp only [lvC,List.mem_cons,List.not_mem_nil,or_false] at hu
      rcases hu with rfl | rfl <;> rfl
    · intro v' w' ho' hg _
      exact h v' w' (by simpa [OwnL] using ho') (hbel w' hg)
def RowA (base:Nat) (w:World) (v:Value) (Z:List (Ac × Value)):Prop:=w.ownsRow base 53 5 v Z.length (Z.map acC).flatten
theorem app_ownA {ops:Array Oper} {rest:List Oper} {o:Oper} {a:Act} {Q:Exit->Act->World->Prop} (w:World) (hgd:o.guard=none) (s x:Operand)
    (ho:o.op=.call { callee:=.builtin .append,args:=#[s,x],argTypes:=#[28,28] })
    (base:Nat) (v:Value) (B:Nat) (Z:List (Ac × Value)) (q:Ac × Value) (hs:a.eval s=v) (hx:a.eval x=.slice (some ⟨B,0,none⟩) 1 1) (hown:RowA base w v Z) (hblk:Blk w B 53 (acC q)) (h1:q.2.oneCell'=true)
    (hlen:Z.length<=100000000) (hbase:base<=w.heap.size)
    (h:∀ v' w',RowA base w' v' (Z ++ [q])->w.grownBy w' v.ownBlock->v' ≠ .slice none 0 0->(v'.ownBlock=v.ownBlock\/v'.ownBlock=some w.heap.size)->wpList Tryz.prog ops Q rest (a.put o.dst v') w'):wpList Tryz.prog ops Q (o :: rest) a w:=by
  obtain ⟨i0,hi,hz0,hz1,hz2⟩:=info_parts Tryz.infoAc
  refine wpList_append_own_at w hgd s x 28 ho base 53 i0 (.agg #[.string { data:=#[] },.int .i64 0,.int .i64 0,.int .i64 0,.slice none 0 0]) 5 64 Tryz.underlying28 hi hz0 hz1 hz2 rfl (by decide) v Z.length (Z.map acC).flatten hs hown ⟨B,0,none⟩ 1 1 (acC q) hx rfl ?_ ?_ (by unfold maxLen;omega) (by omega) hbase ?_
  · intro j u hj
    rw [add_flat,Nat.zero_add,hblk.cell j]
    exact hj
  · intro u hu
    simp only [acC,List.mem_cons,List.not_mem_nil,or_false] at hu
    rcases hu with rfl | rfl | rfl | rfl | rfl
    · rfl
    · rfl
    · rfl
    · rfl
    · exact h1
  · intro v' w' ho' hg hn hl
    refine h v' w' ?_ hg ?_ hl
    · unfold RowA
      rw [List.length_append,List.map_append,List.flatten_append]
      simpa using ho'
    · intro e
      have:=(hn.1 e).2
      omega
theorem RowA.below {B base:Nat} {w w':World} {v:Value} {Z:List (Ac × Value)} (h:RowA base w v Z) (hb:Below B w w') (hB:w.heap.size<=B):RowA base w' v Z:=row_below h hb hB
theorem RowA.ge {base:Nat} {w:World} {v:Value} {Z:List (Ac × Value)} (h:RowA base w v Z):∀ k,v.ownBlock=some k->base<=k:=fun k hk=>(World.ownsRow.lt h k hk).1
theorem RowA.lt {base:Nat} {w:World} {v:Value} {Z:List (Ac × Value)} (h:RowA base w v Z):∀ k,v.ownBlock=some k->k < w.heap.size:=fun k hk=>(World.ownsRow.lt h k hk).2
theorem RowA.shape {base:Nat} {w:World} {v:Value} {Z:List (Ac × Value)} (h:RowA base w v Z) (hn:v ≠ .slice none 0 0):∃ g cap,v=.slice (some ⟨g,0,none⟩) Z.length cap:=by
  rcases h.2 with ⟨hv,_⟩ | ⟨g,cap,cur,hv,_⟩
  · exact absurd hv hn
  · exact ⟨g,cap,hv⟩
theorem row_nilA (w:World) (base:Nat) (h:base<=w.heap.size):RowA base (w.alloc (.cells #[] 53)) (.slice (some ⟨w.heap.size,0,none⟩) 0 0) [] :=
  World.ownsRow_lit w #[] 0 h (by unfold maxLen;omega) (by simp)
theorem Lvs.nil (base:Nat) (w:World) (g:Nat):Lvs base w g []:=⟨fun i h=>by simp at h,fun i h=>by simp at h,fun i j h=>by simp at h⟩
theorem Lvs.mono {base base':Nat} {w:World} {g:Nat} {Z:List (Ac × Value)} (h:Lvs base w g Z) (hB:base'<=base):Lvs base' w g Z:=⟨fun i hi=>(h.own i hi).mono hB,h.far,h.apart⟩
theorem Lvs.move {base:Nat} {w w':World} {g g':Nat} {Z:List (Ac × Value)} (h:Lvs base w g Z) (hg:w.grownBy w' (some g)) (hl:g'=g\/w.heap.size<=g'):Lvs base w' g' Z :=
  ⟨fun i hi=>(h.own i hi).kept hg (.inr fun e=>h.far i hi g e rfl),fun i hi k hk=>by
    rcases hl with rfl | hl
    · exact h.far i hi k hk
    · have:=(h.own i hi).lt k hk;omega,h.apart⟩
theorem OwnA.of_row {base:Nat} {w:World} {g cap:Nat} {Z:List (Ac × Value)} (ho:RowA base w (.slice (some ⟨g,0,none⟩) Z.length cap) Z) (hl:Lvs base w g Z):OwnA base w (.slice (some ⟨g,0,none⟩) Z.length cap) (Z.map (·.1)) :=
  ⟨g,cap,Z,rfl,by simp,by simpa [RowA] using ho,hl⟩
theorem Blk.new' (W:World) (t:TypeId) (cs:List Value) (n:Nat) (h:n=W.heap.size):Blk (W.alloc (.cells cs.toArray t)) n t cs:=by subst h;exact Blk.new W t cs
theorem rowA_step {base:Nat} {w2 w3 w4:World} {g:Nat} {Z:List (Ac × Value)} {q:Ac × Value} {v':Value} (hL:Lvs base w2 g Z) (hq:OwnL base w2 q.2 q.1.2.2.2.2) (hf:∀ k,q.2.ownBlock=some k->k ≠ g)
    (hn:∀ i (hi:i < Z.length) k,Z[i].2.ownBlock=some k->q.2.ownBlock ≠ some k) (h23:Below w2.heap.size w2 w3) (hg:w3.grownBy w4 (some g)) (hrow:RowA base w4 v' (Z ++ [q])) (hnn:v' ≠ .slice none 0 0) (hl:v'.ownBlock=some g\/v'.ownBlock=some w3.heap.size) :
    ∃ g' cap',v'=.slice (some ⟨g',0,none⟩) (Z ++ [q]).length cap'/\Lvs base w4 g' (Z ++ [q]):=by
  obtain ⟨g',cap',rfl⟩:=hrow.shape hnn
  refine ⟨g',cap',rfl,((hL.snoc q hq hf hn).below h23 (Nat.le_refl _)).move hg ?_⟩
  rcases hl with h | h
  · exact .inl (by simpa [Value.ownBlock] using h)
  · exact .inr (by have:g'=w3.heap.size:=by simpa [Value.ownBlock] using h
                   omega)
def Lt (s t:ByteArray):Prop:=Op.bytesLess s.toList t.toList=true
variable {β:Type}
def Asc (Z:List (Ac × β)):Prop:=Z.Pairwise (fun x y=>Lt x.1.1 y.1.1)
def insZ (q:Ac × β):List (Ac × β)->List (Ac × β)
  | []=>[q]
  | x :: t=>if Op.bytesLess x.1.1.toList q.1.1.toList=true then x :: insZ q t else if x.1.1=q.1.1 then q :: t else q :: x :: t
def insA (a:Ac):List Ac->List Ac
  | []=>[a]
  | x :: t=>if Op.bytesLess x.1.toList a.1.toList=true then x :: insA a t else if x.1=a.1 then a :: t else a :: x :: t
def getZ (s:ByteArray):List (Ac × β)->Option (Ac × β)
  | []=>none
  | x :: t=>if x.1.1=s then some x else getZ s t
def getA (s:ByteArray):List Ac->Option Ac
  | []=>none
  | x :: t=>if x.1=s then some x else getA s t
def AscA (l:List Ac):Prop:=l.Pairwise (fun x y=>Lt x.1 y.1)
def upA (s:ByteArray) (n:Int):List Ac->List Ac
  | []=>[]
  | x :: t=>if x.1=s then (x.1,wrap64 (x.2.1+n),x.2.2) :: t else x :: upA s n t
def plA (l:List Ac) (s:ByteArray):Nat->Nat
  | 0=>0
  | k+1=>if Op.bytesLess s.toList (l.getD k ac0).1.toList=true then plA l s k else k+1
def newAc (s:ByteArray):Ac:=(s,0,0,0,[])
def withA (l:List Ac) (s:ByteArray):List Ac:=if getA s l=none then l.take (plA l s l.length) ++ newAc s :: l.drop (plA l s l.length) else l
def aftA (l:List Ac) (s:ByteArray) (n:Int):Ac:=match getA s l with
  | some a=>(s,wrap64 (a.2.1+n),a.2.2)
  | none=>(s,wrap64 (0+n),0,0,[])
def crA (l:List Ac) (s:ByteArray) (n:Int):List Ac × Bool :=
  if (acsB l && nmB s && inB n 0 1000000)=true then (if acsB (insA (aftA l s n) l)=true then (insA (aftA l s n) l,true) else (l,false)) else (l,false)
end Go.Proofs.YthidkbhiikdokaaGreat
