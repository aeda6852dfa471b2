/- The landed code's ledgers that are right, and copies of them. -/
import Derived.Test.YtaidhenkijjcfaaLgSpec
import Derived.Test.YtaidhenkijjcfaaAcImpl2
namespace Go.Proofs.Ytaidhenkijjcfaa
open Go.RowKit
set_option linter.unusedVariables false

set_option maxRecDepth 20000 in
set_option maxHeartbeats 1000000 in
theorem implLedgerOk_any (e : Int) (v : Value) (l : List Ac) (w : World) (hr : RdA w v l) (hl : l.length ≤ 4000000) (hall : ∀ a ∈ l, a.1.size ≤ maxLen ∧ a.2.2.2.2.length ≤ 4000000) :
    Calls Try.prog 17 #[lgV e v] w fun en w' => en = .returned (.bool (lgB e l)) ∧ Below w.heap.size w w' := by
  obtain ⟨a1, cv1, rfl⟩ := hr.shape
  simp only [lgV] at *
  have hb3 : Below w.heap.size w (w.alloc (.cells #[.int .i64 e, .slice a1 l.length cv1] 32)) := (Below.refl _ w).alloc (Nat.le_refl _) _
  have HE := hide (implAcctsOk_any _ l _ (hr.below hb3 (Nat.le_refl _)) hl hall)
  have Hb3 := hide hb3
  have Hx : Hid (lgB e l = (inB e 0 900 && acsB l)) := hide rfl
  clear hb3 hr hall
  generalize lgB e l = X at Hx
  generalize acsB l = A at Hx HE
  cases h0 : inB e 0 900
  · rw [h0, Bool.false_and] at Hx
    go_enter Try.func17, Try.ntmps17
    go_wp2_with (go_at_call 28; refine (implWithin_any _ _ _ _).mono ?_; rintro en w1 ⟨rfl, rfl⟩)
    go_ret
    exact ⟨ret_bool Hx.out.symm, Hb3.out⟩
  · rw [h0, Bool.true_and] at Hx
    go_enter Try.func17, Try.ntmps17
    go_wp2_with (first
      | (go_at_call 28; refine (implWithin_any _ _ _ _).mono ?_; rintro en w1 ⟨rfl, rfl⟩)
      | (go_at_call 29; refine HE.out.mono ?_; rintro en w2 ⟨rfl, hb2⟩))
    go_ret
    exact ⟨ret_bool Hx.out.symm, Hb3.out.trans (hb2.mono Hb3.out.size)⟩
end Go.Proofs.Ytaidhenkijjcfaa
