/- The five cells of an order at the head of a block. -/
import Derived.Test.YtimiimedjfdlmalTxVal
namespace Go.Proofs.Ytimiimedjfdlmal
open Go.RowKit
set_option linter.unusedVariables false

/-- The five cells of an order at the head of the block B. -/
def TxAtL (w : World) (B : Nat) (t : Tx5) : Prop :=
  w.cell? ⟨B, 0, none⟩ = some (.int .i64 t.1) ∧ w.cell? ⟨B, 1, none⟩ = some (.string t.2.1) ∧ w.cell? ⟨B, 2, none⟩ = some (.string t.2.2.1) ∧ w.cell? ⟨B, 3, none⟩ = some (.int .i64 t.2.2.2.1) ∧ w.cell? ⟨B, 4, none⟩ = some (.int .i64 t.2.2.2.2)
theorem TxAtL.below {w w' : World} {B K : Nat} {t : Tx5} (h : TxAtL w B t) (hb : Below K w w') (hB : B < K) : TxAtL w' B t :=
  ⟨(hb.cell (p := ⟨B, 0, none⟩) hB).trans h.1, (hb.cell (p := ⟨B, 1, none⟩) hB).trans h.2.1, (hb.cell (p := ⟨B, 2, none⟩) hB).trans h.2.2.1, (hb.cell (p := ⟨B, 3, none⟩) hB).trans h.2.2.2.1, (hb.cell (p := ⟨B, 4, none⟩) hB).trans h.2.2.2.2⟩
end Go.Proofs.Ytimiimedjfdlmal
