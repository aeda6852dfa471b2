/- A block of five cells that is written. -/
import Derived.Test.YtkpnhgikkanfmaaTxVal
import Derived.Test.YtkpnhgikkanfmaaFlat
namespace Go.Proofs.Ytkpnhgikkanfmaa
open Go.RowKit
set_option linter.unusedVariables false

theorem blk_put5 {W : World} {B : Nat} {t : TypeId} {a0 a1 a2 a3 a4 : Value} (h : Blk W B t [a0, a1, a2, a3, a4]) (y0 y1 y2 y3 y4 : Value) :
    Blk (((((W.setCell ⟨B, 0, none⟩ y0).setCell ⟨B, 1, none⟩ y1).setCell ⟨B, 2, none⟩ y2).setCell ⟨B, 3, none⟩ y3).setCell ⟨B, 4, none⟩ y4) B t [y0, y1, y2, y3, y4] := by
  have e0 : Blk (W.setCell ⟨B, 0, none⟩ y0) B t [y0, a1, a2, a3, a4] := heap_setCell_same W B 0 #[a0, a1, a2, a3, a4] t y0 h
  have e1 : Blk ((W.setCell ⟨B, 0, none⟩ y0).setCell ⟨B, 1, none⟩ y1) B t [y0, y1, a2, a3, a4] := heap_setCell_same _ B 1 #[y0, a1, a2, a3, a4] t y1 e0
  have e2 : Blk (((W.setCell ⟨B, 0, none⟩ y0).setCell ⟨B, 1, none⟩ y1).setCell ⟨B, 2, none⟩ y2) B t [y0, y1, y2, a3, a4] := heap_setCell_same _ B 2 #[y0, y1, a2, a3, a4] t y2 e1
  have e3 : Blk ((((W.setCell ⟨B, 0, none⟩ y0).setCell ⟨B, 1, none⟩ y1).setCell ⟨B, 2, none⟩ y2).setCell ⟨B, 3, none⟩ y3) B t [y0, y1, y2, y3, a4] := heap_setCell_same _ B 3 #[y0, y1, y2, a3, a4] t y3 e2
  exact heap_setCell_same _ B 4 #[y0, y1, y2, y3, a4] t y4 e3
theorem blk_other5 {W : World} {B b : Nat} {t : TypeId} {cs : List Value} (h : Blk W B t cs) (hne : B ≠ b) (y0 y1 y2 y3 y4 : Value) :
    Blk (((((W.setCell ⟨b, 0, none⟩ y0).setCell ⟨b, 1, none⟩ y1).setCell ⟨b, 2, none⟩ y2).setCell ⟨b, 3, none⟩ y3).setCell ⟨b, 4, none⟩ y4) B t cs := by
  unfold Blk
  rw [heap_setCell_other _ ⟨b, 4, none⟩ B _ hne, heap_setCell_other _ ⟨b, 3, none⟩ B _ hne, heap_setCell_other _ ⟨b, 2, none⟩ B _ hne, heap_setCell_other _ ⟨b, 1, none⟩ B _ hne, heap_setCell_other _ ⟨b, 0, none⟩ B _ hne]
  exact h
end Go.Proofs.Ytkpnhgikkanfmaa
