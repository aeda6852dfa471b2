/- The model's ledgers that are right, and copies of them. -/
import Derived.Test.YtaidhenkijjcfaaLgVal
import Derived.Test.YtaidhenkijjcfaaAcsOk
import Derived.Test.YtaidhenkijjcfaaAcCopy
import Derived.Deep.RegionHeldLaw
namespace Go.Proofs.Ytaidhenkijjcfaa
open Go.RowKit
set_option linter.unusedVariables false

/-- Whether a ledger is right. -/
def lgB (e : Int) (l : List Ac) : Bool := inB e 0 900 && acsB l
set_option maxRecDepth 20000 in
set_option maxHeartbeats 1000000 in
theorem specLedgerOk_any (e : Int) (v : Value) (l : List Ac) (w : World) (hr : RdA w v l) (hl : l.length ≤ 4000000) (hall : ∀ a ∈ l, a.1.size ≤ maxLen ∧ a.2.2.2.2.length ≤ 4000000) :
    Calls Try.prog 14 #[lgV e v] w fun en w' => en = .returned (.bool (lgB e l)) ∧ Below w.heap.size w w' := by
  obtain ⟨a1, cv1, rfl⟩ := hr.shape
  simp only [lgV] at *
  have hb3 : Below w.heap.size w (w.alloc (.cells #[.int .i64 e, .slice a1 l.length cv1] 32)) := (Below.refl _ w).alloc (Nat.le_refl _) _
  have HE := hide (specAcctsOk_any _ l _ (hr.below hb3 (Nat.le_refl _)) hl hall)
  have Hb3 := hide hb3
  have Hx : Hid (lgB e l = (inB e 0 900 && acsB l)) := hide rfl
  clear hb3 hr hall
  generalize lgB e l = X at Hx
  generalize acsB l = A at Hx HE
  cases h0 : inB e 0 900
  · rw [h0, Bool.false_and] at Hx
    go_enter Try.func14, Try.ntmps14
    go_wp2_with (go_at_call 25; refine (l1In_any _ _ _ _).mono ?_; rintro en w1 ⟨rfl, rfl⟩)
    go_ret
    exact ⟨ret_bool Hx.out.symm, Hb3.out⟩
  · rw [h0, Bool.true_and] at Hx
    go_enter Try.func14, Try.ntmps14
    go_wp2_with (first
      | (go_at_call 25; refine (l1In_any _ _ _ _).mono ?_; rintro en w1 ⟨rfl, rfl⟩)
      | (go_at_call 26; refine HE.out.mono ?_; rintro en w2 ⟨rfl, hb2⟩))
    go_ret
    exact ⟨ret_bool Hx.out.symm, Hb3.out.trans (hb2.mono Hb3.out.size)⟩
theorem keep2 {W : World} {B G : Nat} {x y u v : Value} (h : W.cell? ⟨B, 0, none⟩ = some x ∧ W.cell? ⟨B, 1, none⟩ = some y) (hne : B ≠ G) : ((W.setCell ⟨G, 0, none⟩ u).setCell ⟨G, 1, none⟩ v).cell? ⟨B, 0, none⟩ = some x ∧ ((W.setCell ⟨G, 0, none⟩ u).setCell ⟨G, 1, none⟩ v).cell? ⟨B, 1, none⟩ = some y := by
  have e : ((W.setCell ⟨G, 0, none⟩ u).setCell ⟨G, 1, none⟩ v).heap[B]? = W.heap[B]? := by
    rw [heap_setCell_other _ ⟨G, 1, none⟩ B _ hne, heap_setCell_other _ ⟨G, 0, none⟩ B _ hne]
  exact ⟨(World.cell?_of_block e).trans h.1, (World.cell?_of_block e).trans h.2⟩
end Go.Proofs.Ytaidhenkijjcfaa
