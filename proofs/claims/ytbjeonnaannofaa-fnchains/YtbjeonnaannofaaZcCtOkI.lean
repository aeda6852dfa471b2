/- The landed code's certificates: what is right. -/
import Derived.Test.YtbjeonnaannofaaZcCtSpec
namespace Go.Proofs.Ytbjeonnaannofaa
open Go.RowKit
set_option linter.unusedVariables false

theorem implWithinC_any (x a b : Int) (w : World) :
    Calls Try.prog 144 #[.int .i64 x, .int .i64 a, .int .i64 b] w fun e w' => e = .returned (.bool (inB x a b)) ∧ w' = w := by
  by_cases h1 : a ≤ x
  · by_cases h2 : x ≤ b
    · have e : Hid (inB x a b = true) := hide (by simp [inB, h1, h2])
      go_enter Try.func144, Try.ntmps144
      go_wp2
      go_ret
      rw [e.out]; exact ⟨rfl, rfl⟩
    · have e : Hid (inB x a b = false) := hide (by simp [inB, h1, h2])
      go_enter Try.func144, Try.ntmps144
      go_wp2
      go_ret
      rw [e.out]; exact ⟨rfl, rfl⟩
  · have e : Hid (inB x a b = false) := hide (by simp [inB, h1])
    go_enter Try.func144, Try.ntmps144
    go_wp2
    go_ret
    rw [e.out]; exact ⟨rfl, rfl⟩
set_option maxRecDepth 20000 in
set_option maxHeartbeats 1000000 in
theorem implIsRootQc_any (r b : Int) (vw : Value) (ws : List ByteArray) (w : World) (hrw : RdS w vw ws) (hlw : ws.length ≤ 4000000) :
    Calls Try.prog 90 #[qcV r b vw] w fun e w' => e = .returned (.bool (rootB r b ws)) ∧ Below w.heap.size w w' := by
  obtain ⟨a, c, rfl⟩ := hrw.shape
  clear hrw
  simp only [qcV]
  have HB := hide ((Below.refl _ w).alloc (Nat.le_refl _) (.cells #[.int .i64 r, .int .i64 b, .slice a ws.length c] 31))
  by_cases h1 : r = 0
  · by_cases h2 : b = -1
    · by_cases h3 : ws.length = 0
      · have Hf : Hid (rootB r b ws = true) := hide (by unfold rootB; rw [decide_eq_true h1, decide_eq_true h2, decide_eq_true h3]; rfl)
        have h3i : ((ws.length : Int) == 0) = true := by rw [beq_iff_eq]; omega
        subst h1 h2
        generalize rootB 0 (-1) ws = X at Hf ⊢
        clear h3
        go_enter Try.func90, Try.ntmps90
        go_wp2
        go_ret
        exact ⟨ret_bool Hf.out.symm, HB.out⟩
      · have Hf : Hid (rootB r b ws = false) := hide (by unfold rootB; rw [decide_eq_false h3, Bool.and_false, Bool.and_false])
        have h3i : ((ws.length : Int) == 0) = false := by rw [beq_eq_false_iff_ne]; omega
        subst h1 h2
        generalize rootB 0 (-1) ws = X at Hf ⊢
        go_enter Try.func90, Try.ntmps90
        go_wp2
        go_ret
        exact ⟨ret_bool Hf.out.symm, HB.out⟩
    · have Hf : Hid (rootB r b ws = false) := hide (by unfold rootB; rw [decide_eq_false h2, Bool.false_and, Bool.and_false])
      have h2i : (b == -1) = false := by rw [beq_eq_false_iff_ne]; exact h2
      subst h1
      generalize rootB 0 b ws = X at Hf ⊢
      clear h2
      go_enter Try.func90, Try.ntmps90
      go_wp2
      go_ret
      exact ⟨ret_bool Hf.out.symm, HB.out⟩
  · have Hf : Hid (rootB r b ws = false) := hide (by unfold rootB; rw [decide_eq_false h1, Bool.false_and])
    have h1i : (r == 0) = false := by rw [beq_eq_false_iff_ne]; exact h1
    generalize rootB r b ws = X at Hf ⊢
    clear h1
    go_enter Try.func90, Try.ntmps90
    go_wp2
    go_ret
    exact ⟨ret_bool Hf.out.symm, HB.out⟩
end Go.Proofs.Ytbjeonnaannofaa
