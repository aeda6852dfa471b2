/- The landed code's orders that are right. -/
import Derived.Test.YthehfkafcdociaaGreatDoorZyMarkStr
set_option maxRecDepth 20000
set_option maxHeartbeats 4000000
namespace Go.Proofs.YthehfkafcdociaaGreatDoor
open Go.RowKit
set_option linter.unusedVariables false
theorem toList_inj5 {t:ByteArray} (h:t.toList=[]):t=ByteArray.empty:=by
  rw [ByteArray.toList_eq] at h
  exact ByteArray.ext (Array.toList_inj.1 h)
theorem specTxOk_any (t:Tx5) (w:World) (hf:t.2.1.size<=maxLen) (ht:t.2.2.1.size<=maxLen) :
    Calls Tryz.prog 88 #[txV t] w fun e w'=>e=.returned (.bool (txB t))/\Below w.heap.size w w':=by
  obtain ⟨k,f,tO,am,no⟩:=t
  simp only [txV] at *
  obtain ⟨w0,hw0⟩:∃ w0,w.alloc (.cells #[.int .i64 k,.string f,.string tO,.int .i64 am,.int .i64 no] 117)=w0:=⟨_,rfl⟩
  have HB:Hid (Below w.heap.size w w0):=hide (by rw [<- hw0];exact (Below.refl _ w).alloc (Nat.le_refl _) _)
  have hk:w0.heap[w.heap.size]?=some (.cells #[.int .i64 k,.string f,.string tO,.int .i64 am,.int .i64 no] 117 (0,0)):=by rw [<- hw0];exact heap_alloc_new w _
  have k0:w0.cell? ⟨w.heap.size,0,none⟩=some (.int .i64 k):=by simp [World.cell?,hk]
  have k1:w0.cell? ⟨w.heap.size,1,none⟩=some (.string f):=by simp [World.cell?,hk]
  have k2:w0.cell? ⟨w.heap.size,2,none⟩=some (.string tO):=by simp [World.cell?,hk]
  have k3:w0.cell? ⟨w.heap.size,3,none⟩=some (.int .i64 am):=by simp [World.cell?,hk]
  have k4:w0.cell? ⟨w.heap.size,4,none⟩=some (.int .i64 no):=by simp [World.cell?,hk]
  clear hk
  have Hx:Hid (txB (k,f,tO,am,no)=(nmB f && (inB am 1 1000000 && (inB no 0 10000 && (if k=1 then nmB tO else (inB k 2 3 && decide (tO=ByteArray.empty))))))):=hide rfl
  generalize txB (k,f,tO,am,no)=X at Hx
  cases e0:nmB f
  · rw [e0,Bool.false_and] at Hx
    go_enter Tryz.func88,Tryz.ntmps88
    go_wp2_with (first
      | (go_at_call 121;refine (specNameOk_any _ _ (by assumption)).mono ?_;rintro e w0 ⟨rfl,rfl⟩)
      | (go_at_call 23;refine (l1In_any _ _ _ _).mono ?_;rintro e w0 ⟨rfl,rfl⟩))
    go_ret
    exact ⟨ret_bool Hx.out.symm,HB.out⟩
  · cases e1:inB am 1 1000000
    · rw [e0,e1,Bool.true_and,Bool.false_and] at Hx
      go_enter Tryz.func88,Tryz.ntmps88
      go_wp2_with (first
        | (go_at_call 121;refine (specNameOk_any _ _ (by assumption)).mono ?_;rintro e w0 ⟨rfl,rfl⟩)
        | (go_at_call 23;refine (l1In_any _ _ _ _).mono ?_;rintro e w0 ⟨rfl,rfl⟩))
      go_ret
      exact ⟨ret_bool Hx.out.symm,HB.out⟩
    · cases e2:inB no 0 10000
      · rw [e0,e1,e2,Bool.true_and,Bool.true_and,Bool.false_and] at Hx
        go_enter Tryz.func88,Tryz.ntmps88
        go_wp2_with (first
          | (go_at_call 121;refine (specNameOk_any _ _ (by assumption)).mono ?_;rintro e w0 ⟨rfl,rfl⟩)
          | (go_at_call 23;refine (l1In_any _ _ _ _).mono ?_;rintro e w0 ⟨rfl,rfl⟩))
        go_ret
        exact ⟨ret_bool Hx.out.symm,HB.out⟩
      · rw [e0, e1,e2,Bool.true_and,Bool.true_and,Bool.true_and] at Hx
        by_cases hk1:k=1
        · rw [if_pos hk1] at Hx
          subst hk1
          go_enter Tryz.func88,Tryz.ntmps88
          go_wp2_with (first
            | (go_at_call 121;refine (specNameOk_any _ _ (by assumption)).mono ?_;rintro e w0 ⟨rfl,rfl⟩)
            | (go_at_call 23;refine (l1In_any _ _ _ _).mono ?_;rintro e w0 ⟨rfl,rfl⟩))
          go_ret
          exact ⟨ret_bool Hx.out.symm,HB.out⟩
        · rw [if_neg hk1] at Hx
          have hkb:(k == 1)=false:=by rw [beq_eq_false_iff_ne];exact hk1
          clear hk1
          cases e3:inB k 2 3
          · rw [e3,Bool.false_and] at Hx
            go_enter Tryz.func88,Tryz.ntmps88
            go_wp2_with (first
              | (go_at_call 121;refine (specNameOk_any _ _ (by assumption)).mono ?_;rintro e w0 ⟨rfl,rfl⟩)
              | (go_at_call 23;refine (l1In_any _ _ _ _).mono ?_;rintro e w0 ⟨rfl,rfl⟩))
            go_ret
            exact ⟨ret_bool Hx.out.symm,HB.out⟩
          · by_cases e4:tO=ByteArray.empty
            · rw [e3,decide_eq_true e4,Bool.true_and] at Hx
              subst e4
              go_enter Tryz.func88,Tryz.ntmps88
              go_wp2_with (first
                | (go_at_call 121;refine (specNameOk_any _ _ (by assumption)).mono ?_;rintro e w0 ⟨rfl,rfl⟩)
                | (go_at_call 23;refine (l1In_any _ _ _ _).mono ?_;rintro e w0 ⟨rfl,rfl⟩))
              go_ret
              exact ⟨ret_bool Hx.out.symm,HB.out⟩
            · rw [e3,decide_eq_false e4,Bool.true_and] at Hx
              have hne:tO.toList.isEmpty=false:=by
                cases h:tO.toList.isEmpty
                · rfl
                · exact absurd (toList_inj5 (List.isEmpty_iff.1 h)) e4
              clear e4
              go_enter Tryz.func88,Tryz.ntmps88
              go_wp2_with (first
                | (go_at_call 121;refine (specNameOk_any _ _ (by assumption)).mono ?_;rintro e w0 ⟨rfl,rfl⟩)
                | (go_at_call 23;refine (l1In_any _ _ _ _).mono ?_;rintro e w0 ⟨rfl,rfl⟩))
              go_ret
              exact ⟨ret_bool Hx.out.symm,HB.out⟩
end Go.Proofs.YthehfkafcdociaaGreatDoor
namespace Go.Proofs.YthehfkafcdociaaGreatDoor
open Go.RowKit
open Go.RowKit Go.Sort
set_option linter.unusedVariables false
theorem same_regrown {P:Program} {f:FuncId} {args:Array Value} {w:World} {d:Nat} {os:Array Obj} {v:Value}
    (h:Calls P f args (grow (redrawn w d) os) fun e w'=>e=.returned v/\w'=grow (redrawn w d) os):Calls P f args (grow (redrawn w d) os) fun e w''=>e=.returned v/\∃ p:Regrown,w''=grow (redrawn w p.d) p.os :=
  h.mono fun _ _ ⟨he,hw⟩=>⟨he,⟨⟨d,os⟩,hw⟩⟩
theorem implWithinT_any (x a b:Int) (w:World) :
    Calls Tryz.prog 102 #[.int .i64 x,.int .i64 a,.int .i64 b] w fun e w'=>e=.returned (.bool (inB x a b))/\w'=w:=by
  by_cases h1:a<=x
  · by_cases h2:x<=b
    · have e:Hid (inB x a b=true):=hide (by simp [inB,h1,h2])
      go_enter Tryz.func102,Tryz.ntmps102
      go_wp2
      go_ret
      rw [e.out];exact ⟨rfl,rfl⟩
    · have e:Hid (inB x a b=false):=hide (by simp [inB,h1,h2])
      go_enter Tryz.func102,Tryz.ntmps102
      go_wp2
      go_ret
      rw [e.out];exact ⟨rfl,rfl⟩
  · have e:Hid (inB x a b=false):=hide (by simp [inB,h1])
    go_enter Tryz.func102,Tryz.ntmps102
    go_wp2
    go_ret
    rw [e.out];exact ⟨rfl,rfl⟩
theorem implOnly_any (k am no:Int) (f tO:ByteArray) (w:World) :
    Calls Tryz.prog 150 #[.agg #[.int .i64 k,.string f,.string tO,.int .i64 am,.int .i64 no]] w fun e w'=>e=.returned (.agg #[.int .i64 k,.string f,.string (if k=1 then tO else { data:=#[] }),.int .i64 am,.int .i64 no])/\Below w.heap.size w w':=by
  by_cases h1:k=1
  · rw [if_pos h1]
    subst h1
    go_enter Tryz.func150,Tryz.ntmps150
    go_wp2
    refine bodyPost_ret (v:=.agg #[.int .i64 1,.string f,.string tO,.int .i64 am,.int .i64 no]) (by simp [results,Tryz.f150,go_sem]) rfl ?_
    exact ⟨rfl,((Below.refl _ w).alloc (Nat.le_refl _) _).alloc (by simp) _⟩
  · rw [if_neg h1]
    have hq:(k == 1)=false:=by rw [beq_eq_false_iff_ne];exact h1
    clear h1
    go_enter Tryz.func150,Tryz.ntmps150
    go_wp2
    refine bodyPost_ret (v:=.agg #[.int .i64 k,.string f,.string { data:=#[] },.int .i64 am,.int .i64 no]) (by simp [results,Tryz.f150,go_sem]) rfl ?_
    exact ⟨rfl,((Below.refl _ w).alloc (Nat.le_refl _) _).alloc (by simp) _⟩
theorem txB_is (k am no:Int) (f tO:ByteArray):txB (k,f,tO,am,no)=(inB k 1 3 && ((decide (k=1) || decide (tO=ByteArray.empty)) && ((!decide (k=1) || nmB tO) && (nmB f && (inB am 1 1000000 && inB no 0 10000))))):=by
  simp only [txB]
  by_cases h:k=1
  · subst h
    simp only [if_pos,inB]
    cases nmB f <;> cases nmB tO <;> simp
  · rw [if_neg h]
    have e:inB k 2 3=inB k 1 3:=by
      rw [Bool.eq_iff_iff]
      simp only [inB,decide_eq_true_eq]
      omega
    rw [e]
    cases inB k 1 3 <;> cases nmB f <;> cases inB am 1 1000000 <;> cases inB no 0 10000 <;> simp [h]
theorem implTxOk_any (t:Tx5) (w:World) (hf:t.2.1.size<=maxLen) (ht:t.2.2.1.size<=maxLen) :
    Calls Tryz.prog 140 #[txV t] w fun e w'=>e=.returned (.bool (txB t))/\Below w.heap.size w w':=by
  obtain ⟨k,f,tO,am,no⟩:=t
  simp only [txV] at *
  obtain ⟨w0,hw0⟩:∃ w0,w.alloc (.cells #[.int .i64 k,.string f,.string tO,.int .i64 am,.int .i64 no] 117)=w0:=⟨_,rfl⟩
  have HB:Hid (Below w.heap.size w w0):=hide (by rw [<- hw0];exact (Below.refl _ w).alloc (Nat.le_refl _) _)
  have hk:Blk w0 w.heap.size 117 [.int .i64 k,.string f,.string tO,.int .i64 am,.int .i64 no]:=by rw [<- hw0];exact heap_alloc_new w _
  have k0:=hk.cell 0
  have k1:=hk.cell 1
  have k2:=hk.cell 2
  have k3:=hk.cell 3
  have k4:=hk.cell 4
  simp only [List.getElem?_cons_zero,List.getElem?_cons_succ] at k0 k1 k2 k3 k4
  have g0:=cell_regrown k0
  have g1:=cell_regrown k1
  have g2:=cell_regrown k2
  have g3:=cell_regrown k3
  have g4:=cell_regrown k4
  clear hk
  have Hx:=hide (txB_is k am no f tO)
  generalize txB (k,f,tO,am,no)=X at Hx
  have HO:=hide (fun (d:Nat) (os:Array Obj)=>Calls.regrown_of (implOnly_any k am no f tO (grow (redrawn w0 d) os)))
  cases e0:inB k 1 3
  · rw [e0,Bool.false_and] at Hx
    clear HO
    go_enter Tryz.func140,Tryz.ntmps140
    go_wp2
    clear k0 k1 k2 k3 k4
    refine wp_region_quiet_below (by kernel_rfl) (by kernel_rfl) ?_
    repeat (go_big_quiet_step ((first
          | (go_at_call 102;exact same_regrown (implWithinT_any _ _ _ _))
          | (go_at_call 150;exact HO.out _ _)
          | (go_at_call 151;exact same_regrown (implNameOk_any _ _ (by assumption))))))
    refine wpQuiet_nil ?_
    intro _ hw'
    obtain ⟨⟨dq,osq⟩,hw''⟩:=hw'
    subst hw''
    go_wp2
    go_ret
    exact ⟨ret_bool Hx.out.symm,HB.out.trans ((below_regrown w0 dq osq).mono HB.out.size)⟩
  · rw [e0, Bool.true_and] at Hx
    by_cases hk1:k=1
    · rw [if_pos hk1] at HO
      rw [decide_eq_true hk1,Bool.true_or,Bool.true_and,Bool.not_true,Bool.false_or] at Hx
      subst hk1
      cases e2:nmB tO
      · rw [e2,Bool.false_and] at Hx
        go_enter Tryz.func140,Tryz.ntmps140
        go_wp2
        clear k0 k1 k2 k3 k4
        refine wp_region_quiet_below (by kernel_rfl) (by kernel_rfl) ?_
        repeat (go_big_quiet_step ((first
          | (go_at_call 102;exact same_regrown (implWithinT_any _ _ _ _))
          | (go_at_call 150;exact HO.out _ _)
          | (go_at_call 151;exact same_regrown (implNameOk_any _ _ (by assumption))))))
        refine wpQuiet_nil ?_
        intro _ hw'
        obtain ⟨⟨dq,osq⟩,hw''⟩:=hw'
        subst hw''
        go_wp2
        go_ret
        exact ⟨ret_bool Hx.out.symm,HB.out.trans ((below_regrown w0 dq osq).mono HB.out.size)⟩
      · rw [e2,Bool.true_and] at Hx
        go_enter Tryz.func140,Tryz.ntmps140
        go_wp2
        clear k0 k1 k2 k3 k4
        refine wp_region_quiet_below (by kernel_rfl) (by kernel_rfl) ?_
        repeat (go_big_quiet_step ((first
          | (go_at_call 102;exact same_regrown (implWithinT_any _ _ _ _))
          | (go_at_call 150;exact HO.out _ _)
          | (go_at_call 151;exact same_regrown (implNameOk_any _ _ (by assumption))))))
        refine wpQuiet_nil ?_
        intro _ hw'
        obtain ⟨⟨dq,osq⟩,hw''⟩:=hw'
        subst hw''
        have HB1:Hid (Below w.heap.size w (grow (redrawn w0 dq) osq)):=hide (HB.out.trans ((below_regrown w0 dq osq).mono HB.out.size))
        have k1:=g1 dq osq
        have k3:=g3 dq osq
        have k4:=g4 dq osq
        clear g0 g1 g2 g3 g4 HB HO
        generalize grow (redrawn w0 dq) osq=w1 at *
        cases e3:nmB f <;> cases e4:inB am 1 1000000 <;> simp only [e3,e4,Bool.true_and,Bool.false_and] at Hx
        all_goals
          go_wp2_with (first
            | (go_at_call 151;refine (implNameOk_any _ _ (by assumption)).mono ?_;rintro e w1 ⟨rfl,rfl⟩)
            | (go_at_call 102;refine (implWithinT_any _ _ _ _).mono ?_;rintro e w1 ⟨rfl,rfl⟩))
          go_ret
          exact ⟨ret_bool Hx.out.symm,HB1.out⟩
    · rw [if_neg hk1] at HO
      rw [decide_eq_false hk1,Bool.false_or,Bool.not_false,Bool.true_or,Bool.true_and] at Hx
      have hkb:(k == 1)=false:=by rw [beq_eq_false_iff_ne];exact hk1
      clear hk1
      by_cases e2:tO=ByteArray.empty
      · rw [decide_eq_true e2,Bool.true_and] at Hx
        subst e2
        go_enter Tryz.func140,Tryz.ntmps140
        go_wp2
        clear k0 k1 k2 k3 k4
        refine wp_region_quiet_below (by kernel_rfl) (by kernel_rfl) ?_
        repeat (go_big_quiet_step ((first
          | (go_at_call 102;exact same_regrown (implWithinT_any _ _ _ _))
          | (go_at_call 150;exact HO.out _ _)
          | (go_at_call 151;exact same_regrown (implNameOk_any _ _ (by assumption))))))
        refine wpQuiet_nil ?_
        intro _ hw'
        obtain ⟨⟨dq,osq⟩,hw''⟩:=hw'
        subst hw''
        have HB1:Hid (Below w.heap.size w (grow (redrawn w0 dq) osq)):=hide (HB.out.trans ((below_regrown w0 dq osq).mono HB.out.size))
        have k1:=g1 dq osq
        have k3:=g3 dq osq
        have k4:=g4 dq osq
        clear g0 g1 g2 g3 g4 HB HO
        generalize grow (redrawn w0 dq) osq=w1 at *
        cases e3:nmB f <;> cases e4:inB am 1 1000000 <;> simp only [e3,e4,Bool.true_and,Bool.false_and] at Hx
        all_goals
          go_wp2_with (first
            | (go_at_call 151;refine (implNameOk_any _ _ (by assumption)).mono ?_;rintro e w1 ⟨rfl,rfl⟩)
            | (go_at_call 102;refine (implWithinT_any _ _ _ _).mono ?_;rintro e w1 ⟨rfl,rfl⟩))
          go_ret
          exact ⟨ret_bool Hx.out.symm,HB1.out⟩
      · rw [decide_eq_false e2,Bool.false_and] at Hx
        have hne:tO.toList.isEmpty=false:=by
          cases h:tO.toList.isEmpty
          · rfl
          · exact absurd (toList_inj5 (List.isEmpty_iff.1 h)) e2
        clear e2
        go_enter Tryz.func140,Tryz.ntmps140
        go_wp2
        clear k0 k1 k2 k3 k4
        refine wp_region_quiet_below (by kernel_rfl) (by kernel_rfl) ?_
        repeat (go_big_quiet_step ((first
          | (go_at_call 102;exact same_regrown (implWithinT_any _ _ _ _))
          | (go_at_call 150;exact HO.out _ _)
          | (go_at_call 151;exact same_regrown (implNameOk_any _ _ (by assumption))))))
        refine wpQuiet_nil ?_
        intro _ hw'
        obtain ⟨⟨dq,osq⟩,hw''⟩:=hw'
        subst hw''
        go_wp2
        go_ret
        exact ⟨ret_bool Hx.out.symm,HB.out.trans ((below_regrown w0 dq osq).mono HB.out.size)⟩
end Go.Proofs.YthehfkafcdociaaGreatDoor
