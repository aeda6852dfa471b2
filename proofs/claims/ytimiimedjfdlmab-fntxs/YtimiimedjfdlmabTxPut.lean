/- The model's orders put behind bytes. -/
import Derived.Test.YtimiimedjfdlmabTxSpec
import Derived.Test.YtimiimedjfdlmabPutText
import Derived.Deep.RegionHeldLaw
namespace Go.Proofs.Ytimiimedjfdlmab
open Go.RowKit
set_option linter.unusedVariables false

/-- An order's bytes. -/
def txP (t : Tx5) : List UInt8 := numB t.1 ++ (textB t.2.1 ++ (textB t.2.2.1 ++ (numB t.2.2.2.1 ++ numB t.2.2.2.2)))
theorem textB_le5 (s : ByteArray) : (textB s).length ≤ 6 + s.size := by
  unfold textB
  have := numB_len (s.size : Int)
  simp
  omega
theorem txP_len (t : Tx5) : (txP t).length ≤ 30 + t.2.1.size + t.2.2.1.size := by
  unfold txP
  have h1 := numB_len t.1
  have h2 := numB_len t.2.2.2.1
  have h3 := numB_len t.2.2.2.2
  have h4 := textB_le5 t.2.1
  have h5 := textB_le5 t.2.2.1
  simp only [List.length_append]
  omega
/-- The five cells of an order at the head of a block. -/
def TxAt (W : World) (B : Nat) (t : Tx5) : Prop := W.cell? ⟨B, 0, none⟩ = some (.int .i64 t.1) ∧ W.cell? ⟨B, 1, none⟩ = some (.string t.2.1) ∧ W.cell? ⟨B, 2, none⟩ = some (.string t.2.2.1) ∧ W.cell? ⟨B, 3, none⟩ = some (.int .i64 t.2.2.2.1) ∧ W.cell? ⟨B, 4, none⟩ = some (.int .i64 t.2.2.2.2)
theorem TxAt.below {K : Nat} {w w' : World} {B : Nat} {t : Tx5} (h : TxAt w B t) (hb : Below K w w') (hB : B < K) : TxAt w' B t :=
  ⟨(hb.cell (p := ⟨B, 0, none⟩) hB).trans h.1, (hb.cell (p := ⟨B, 1, none⟩) hB).trans h.2.1, (hb.cell (p := ⟨B, 2, none⟩) hB).trans h.2.2.1, (hb.cell (p := ⟨B, 3, none⟩) hB).trans h.2.2.2.1, (hb.cell (p := ⟨B, 4, none⟩) hB).trans h.2.2.2.2⟩
theorem txAt_new (w : World) (t : Tx5) : TxAt (w.alloc (.cells #[.int .i64 t.1, .string t.2.1, .string t.2.2.1, .int .i64 t.2.2.2.1, .int .i64 t.2.2.2.2] 41)) w.heap.size t := by
  refine ⟨?_, ?_, ?_, ?_, ?_⟩ <;> (rw [World.cell?_alloc_at _ _ _ _ rfl]; rfl)

end Go.Proofs.Ytimiimedjfdlmab
