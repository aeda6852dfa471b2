/- The model's certificates: what is right. -/
import Derived.Test.YtbjeonnaannofaaZcCtVal
import Derived.Test.YtbjeonnaannofaaZcCtMem
import Derived.Test.YtbjeonnaannofaaZcVsQuo
import Derived.Test.YtbjeonnaannofaaZcNamesOk
namespace Go.Proofs.Ytbjeonnaannofaa
open Go.RowKit
set_option linter.unusedVariables false

/-- All that is weighed is not great. -/
def ModV (l : List Vl) : Prop := (0 ≤ totalV l ∧ totalV l ≤ 1000000000) ∧ ∀ ns, 0 ≤ weightV l ns ∧ weightV l ns ≤ 1000000000
/-- A certificate's value: its round, its block, its names being vw. -/
def qcV (r b : Int) (vw : Value) : Value := .agg #[.int .i64 r, .int .i64 b, vw]
def rootB (r b : Int) (ns : List ByteArray) : Bool := decide (r = 0) && (decide (b = -1) && decide (ns.length = 0))
def allV (l : List Vl) (ns : List ByteArray) : Bool := ns.all (fun s => hasN (l.map (·.1)) s) && nmsB ns
def quoB (l : List Vl) (ns : List ByteArray) : Bool := decide (2 * totalV l < 3 * weightV l ns)
/-- Whether a certificate is right. -/
def qcB (l : List Vl) (r b : Int) (ns : List ByteArray) : Bool := rootB r b ns || (inB r 1 10000 && (inB b 0 100000 && (allV l ns && quoB l ns)))
set_option maxRecDepth 20000 in
set_option maxHeartbeats 1000000 in
theorem specL8Root_any (r b : Int) (vw : Value) (ws : List ByteArray) (w : World) (hrw : RdS w vw ws) (hlw : ws.length ≤ 4000000) :
    Calls Try.prog 55 #[qcV r b vw] w fun e w' => e = .returned (.bool (rootB r b ws)) ∧ Below w.heap.size w w' := by
  obtain ⟨a, c, rfl⟩ := hrw.shape
  clear hrw
  simp only [qcV]
  have HB := hide ((Below.refl _ w).alloc (Nat.le_refl _) (.cells #[.int .i64 r, .int .i64 b, .slice a ws.length c] 31))
  by_cases h1 : r = 0
  · by_cases h2 : b = -1
    · by_cases h3 : ws.length = 0
      · have Hf : Hid (rootB r b ws = true) := hide (by unfold rootB; rw [decide_eq_true h1, decide_eq_true h2, decide_eq_true h3]; rfl)
        have h3i : ((ws.length : Int) == 0) = true := by rw [beq_iff_eq]; omega
        subst h1 h2
        generalize rootB 0 (-1) ws = X at Hf ⊢
        clear h3
        go_enter Try.func55, Try.ntmps55
        go_wp2
        go_ret
        exact ⟨ret_bool Hf.out.symm, HB.out⟩
      · have Hf : Hid (rootB r b ws = false) := hide (by unfold rootB; rw [decide_eq_false h3, Bool.and_false, Bool.and_false])
        have h3i : ((ws.length : Int) == 0) = false := by rw [beq_eq_false_iff_ne]; omega
        subst h1 h2
        generalize rootB 0 (-1) ws = X at Hf ⊢
        go_enter Try.func55, Try.ntmps55
        go_wp2
        go_ret
        exact ⟨ret_bool Hf.out.symm, HB.out⟩
    · have Hf : Hid (rootB r b ws = false) := hide (by unfold rootB; rw [decide_eq_false h2, Bool.false_and, Bool.and_false])
      have h2i : (b == -1) = false := by rw [beq_eq_false_iff_ne]; exact h2
      subst h1
      generalize rootB 0 b ws = X at Hf ⊢
      clear h2
      go_enter Try.func55, Try.ntmps55
      go_wp2
      go_ret
      exact ⟨ret_bool Hf.out.symm, HB.out⟩
  · have Hf : Hid (rootB r b ws = false) := hide (by unfold rootB; rw [decide_eq_false h1, Bool.false_and])
    have h1i : (r == 0) = false := by rw [beq_eq_false_iff_ne]; exact h1
    generalize rootB r b ws = X at Hf ⊢
    clear h1
    go_enter Try.func55, Try.ntmps55
    go_wp2
    go_ret
    exact ⟨ret_bool Hf.out.symm, HB.out⟩
end Go.Proofs.Ytbjeonnaannofaa
