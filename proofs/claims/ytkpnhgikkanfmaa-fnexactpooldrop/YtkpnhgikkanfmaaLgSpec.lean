/- The model's ledgers that are right, and copies of them. -/
import Derived.Test.YtkpnhgikkanfmaaLgVal
import Derived.Test.YtkpnhgikkanfmaaAcsOk
import Derived.Test.YtkpnhgikkanfmaaAcCopy
import Derived.Deep.RegionHeldLaw
namespace Go.Proofs.Ytkpnhgikkanfmaa
open Go.RowKit
set_option linter.unusedVariables false

/-- Whether a ledger is right. -/
def lgB (e : Int) (l : List Ac) : Bool := inB e 0 900 && acsB l
theorem keep2 {W : World} {B G : Nat} {x y u v : Value} (h : W.cell? ⟨B, 0, none⟩ = some x ∧ W.cell? ⟨B, 1, none⟩ = some y) (hne : B ≠ G) : ((W.setCell ⟨G, 0, none⟩ u).setCell ⟨G, 1, none⟩ v).cell? ⟨B, 0, none⟩ = some x ∧ ((W.setCell ⟨G, 0, none⟩ u).setCell ⟨G, 1, none⟩ v).cell? ⟨B, 1, none⟩ = some y := by
  have e : ((W.setCell ⟨G, 0, none⟩ u).setCell ⟨G, 1, none⟩ v).heap[B]? = W.heap[B]? := by
    rw [heap_setCell_other _ ⟨G, 1, none⟩ B _ hne, heap_setCell_other _ ⟨G, 0, none⟩ B _ hne]
  exact ⟨(World.cell?_of_block e).trans h.1, (World.cell?_of_block e).trans h.2⟩
end Go.Proofs.Ytkpnhgikkanfmaa
