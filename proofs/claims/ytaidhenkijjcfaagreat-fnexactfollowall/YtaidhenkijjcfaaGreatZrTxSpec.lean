/- The model's orders. -/
import Derived.Test.YtaidhenkijjcfaaGreatZrTrPure
set_option maxRecDepth 20000
set_option maxHeartbeats 2000000
namespace Go.Proofs.YtaidhenkijjcfaaGreat
open Go.RowKit
set_option linter.unusedVariables false
theorem toList_inj5 {t:ByteArray} (h:t.toList=[]):t=ByteArray.empty:=by
  rw [ByteArray.toList_eq] at h
  exact ByteArray.ext (Array.toList_inj.1 h)
theorem specTxOk_any (t:Tx5) (w:World) (hf:t.2.1.size<=maxLen) (ht:t.2.2.1.size<=maxLen) :
    Calls Tryz.prog 135 #[txV t] w fun e w'=>e=.returned (.bool (txB t))/\Below w.heap.size w w':=by
  obtain ⟨k,f,tO,am,no⟩:=t
  simp only [txV] at *
  obtain ⟨w0,hw0⟩:∃ w0,w.alloc (.cells #[.int .i64 k,.string f,.string tO,.int .i64 am,.int .i64 no] 177)=w0:=⟨_,rfl⟩
  have HB:Hid (Below w.heap.size w w0):=hide (by rw [<- hw0];exact (Below.refl _ w).alloc (Nat.le_refl _) _)
  have hk:w0.heap[w.heap.size]?=some (.cells #[.int .i64 k,.string f,.string tO,.int .i64 am,.int .i64 no] 177 (0,0)):=by rw [<- hw0];exact heap_alloc_new w _
  have k0:w0.cell? ⟨w.heap.size,0,none⟩=some (.int .i64 k):=by simp [World.cell?,hk]
  have k1:w0.cell? ⟨w.heap.size,1,none⟩=some (.string f):=by simp [World.cell?,hk]
  have k2:w0.cell? ⟨w.heap.size,2,none⟩=some (.string tO):=by simp [World.cell?,hk]
  have k3:w0.cell? ⟨w.heap.size,3,none⟩=some (.int .i64 am):=by simp [World.cell?,hk]
  have k4:w0.cell? ⟨w.heap.size,4,none⟩=some (.int .i64 no):=by simp [World.cell?,hk]
  clear hk
  have Hx:Hid (txB (k,f,tO,am,no)=(nmB f && (inB am 1 1000000 && (inB no 0 10000 && (if k=1 then nmB tO else (inB k 2 3 && decide (tO=ByteArray.empty))))))):=hide rfl
  generalize txB (k,f,tO,am,no)=X at Hx
  cases e0:nmB f
  · rw [e0,Bool.false_and] at Hx
    go_enter Tryz.func135,Tryz.ntmps135
    go_wp2_with (first
      | (go_at_call 89;refine (specNameOk_any _ _ (by assumption)).mono ?_;rintro e w0 ⟨rfl,rfl⟩)
      | (go_at_call 90;refine (l1In_any _ _ _ _).mono ?_;rintro e w0 ⟨rfl,rfl⟩))
    go_ret
    exact ⟨ret_bool Hx.out.symm,HB.out⟩
  · cases e1:inB am 1 1000000
    · rw [e0,e1,Bool.true_and,Bool.false_and] at Hx
      go_enter Tryz.func135,Tryz.ntmps135
      go_wp2_with (first
        | (go_at_call 89;refine (specNameOk_any _ _ (by assumption)).mono ?_;rintro e w0 ⟨rfl,rfl⟩)
        | (go_at_call 90;refine (l1In_any _ _ _ _).mono ?_;rintro e w0 ⟨rfl,rfl⟩))
      go_ret
      exact ⟨ret_bool Hx.out.symm,HB.out⟩
    · cases e2:inB no 0 10000
      · rw [e0,e1,e2,Bool.true_and,Bool.true_and,Bool.false_and] at Hx
        go_enter Tryz.func135,Tryz.ntmps135
        go_wp2_with (first
          | (go_at_call 89;refine (specNameOk_any _ _ (by assumption)).mono ?_;rintro e w0 ⟨rfl,rfl⟩)
          | (go_at_call 90;refine (l1In_any _ _ _ _).mono ?_;rintro e w0 ⟨rfl,rfl⟩))
        go_ret
        exact ⟨ret_bool Hx.out.symm,HB.out⟩
      · rw [e0, e1,e2,Bool.true_and,Bool.true_and,Bool.true_and] at Hx
        by_cases hk1:k=1
        · rw [if_pos hk1] at Hx
          subst hk1
          go_enter Tryz.func135,Tryz.ntmps135
          go_wp2_with (first
            | (go_at_call 89;refine (specNameOk_any _ _ (by assumption)).mono ?_;rintro e w0 ⟨rfl,rfl⟩)
            | (go_at_call 90;refine (l1In_any _ _ _ _).mono ?_;rintro e w0 ⟨rfl,rfl⟩))
          go_ret
          exact ⟨ret_bool Hx.out.symm,HB.out⟩
        · rw [if_neg hk1] at Hx
          have hkb:(k == 1)=false:=by rw [beq_eq_false_iff_ne];exact hk1
          clear hk1
          cases e3:inB k 2 3
          · rw [e3,Bool.false_and] at Hx
            go_enter Tryz.func135,Tryz.ntmps135
            go_wp2_with (first
              | (go_at_call 89;refine (specNameOk_any _ _ (by assumption)).mono ?_;rintro e w0 ⟨rfl,rfl⟩)
              | (go_at_call 90;refine (l1In_any _ _ _ _).mono ?_;rintro e w0 ⟨rfl,rfl⟩))
            go_ret
            exact ⟨ret_bool Hx.out.symm,HB.out⟩
          · by_cases e4:tO=ByteArray.empty
            · rw [e3,decide_eq_true e4,Bool.true_and] at Hx
              subst e4
              go_enter Tryz.func135,Tryz.ntmps135
              go_wp2_with (first
                | (go_at_call 89;refine (specNameOk_any _ _ (by assumption)).mono ?_;rintro e w0 ⟨rfl,rfl⟩)
                | (go_at_call 90;refine (l1In_any _ _ _ _).mono ?_;rintro e w0 ⟨rfl,rfl⟩))
              go_ret
              exact ⟨ret_bool Hx.out.symm,HB.out⟩
            · rw [e3,decide_eq_false e4,Bool.true_and] at Hx
              have hne:tO.toList.isEmpty=false:=by
                cases h:tO.toList.isEmpty
                · rfl
                · exact absurd (toList_inj5 (List.isEmpty_iff.1 h)) e4
              clear e4
              go_enter Tryz.func135,Tryz.ntmps135
              go_wp2_with (first
                | (go_at_call 89;refine (specNameOk_any _ _ (by assumption)).mono ?_;rintro e w0 ⟨rfl,rfl⟩)
                | (go_at_call 90;refine (l1In_any _ _ _ _).mono ?_;rintro e w0 ⟨rfl,rfl⟩))
              go_ret
              exact ⟨ret_bool Hx.out.symm,HB.out⟩
end Go.Proofs.YtaidhenkijjcfaaGreat
