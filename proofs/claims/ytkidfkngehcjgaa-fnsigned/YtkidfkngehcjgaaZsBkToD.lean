/- Blocks made anew by the laws. A block copied: its two rows of texts lie apart. -/
import Derived.Test.YtkidfkngehcjgaaZsBkVal
import Derived.Test.YtkidfkngehcjgaaZsCtVal
namespace Go.Proofs.Ytkidfkngehcjgaa
open Go.RowKit
set_option linter.unusedVariables false

theorem OwnT.olderC {base : Nat} {w : World} {v : Value} {l : List Tx5} (h : OwnT base w v l) {g : Nat} (hg : g < base) (j : Nat) (u : Value) : OwnT base (w.setCell ⟨g, j, none⟩ u) v l :=
  World.ownsRow.kept h (grown_set w g j u) (.inr fun e => by have := (h.lt g e).1; omega)
theorem OwnV.olderC {base : Nat} {w : World} {v : Value} {l : List Vl} (h : OwnV base w v l) {g : Nat} (hg : g < base) (j : Nat) (u : Value) : OwnV base (w.setCell ⟨g, j, none⟩ u) v l :=
  World.ownsRow.kept h (grown_set w g j u) (.inr fun e => by have := h.ge g e; omega)
theorem OwnT.mono {base base' : Nat} {w : World} {v : Value} {l : List Tx5} (h : OwnT base w v l) (hB : base' ≤ base) : OwnT base' w v l := by
  refine ⟨h.1, ?_⟩
  rcases h.2 with h2 | ⟨g, cap, cur, e, hb, r⟩
  · exact .inl h2
  · exact .inr ⟨g, cap, cur, e, Nat.le_trans hB hb, r⟩
theorem OwnS.put14 {base : Nat} {w : World} {v : Value} {l : List ByteArray} (h : OwnS base w v l) {g : Nat} (hg : g < base) (y0 y1 y2 y3 y4 y5 y6 y7 y8 y9 y10 y11 y12 y13 : Value) : OwnS base (((((((((((((((w).setCell ⟨g, 0, none⟩ (y0)).setCell ⟨g, 1, none⟩ (y1)).setCell ⟨g, 2, none⟩ (y2)).setCell ⟨g, 3, none⟩ (y3)).setCell ⟨g, 4, none⟩ (y4)).setCell ⟨g, 5, none⟩ (y5)).setCell ⟨g, 6, none⟩ (y6)).setCell ⟨g, 7, none⟩ (y7)).setCell ⟨g, 8, none⟩ (y8)).setCell ⟨g, 9, none⟩ (y9)).setCell ⟨g, 10, none⟩ (y10)).setCell ⟨g, 11, none⟩ (y11)).setCell ⟨g, 12, none⟩ (y12)).setCell ⟨g, 13, none⟩ (y13)) v l := (((((((((((((h.olderC hg 0 y0).olderC hg 1 y1).olderC hg 2 y2).olderC hg 3 y3).olderC hg 4 y4).olderC hg 5 y5).olderC hg 6 y6).olderC hg 7 y7).olderC hg 8 y8).olderC hg 9 y9).olderC hg 10 y10).olderC hg 11 y11).olderC hg 12 y12).olderC hg 13 y13
theorem OwnI.put14 {base : Nat} {w : World} {v : Value} {l : List Int} (h : OwnI base w v l) {g : Nat} (hg : g < base) (y0 y1 y2 y3 y4 y5 y6 y7 y8 y9 y10 y11 y12 y13 : Value) : OwnI base (((((((((((((((w).setCell ⟨g, 0, none⟩ (y0)).setCell ⟨g, 1, none⟩ (y1)).setCell ⟨g, 2, none⟩ (y2)).setCell ⟨g, 3, none⟩ (y3)).setCell ⟨g, 4, none⟩ (y4)).setCell ⟨g, 5, none⟩ (y5)).setCell ⟨g, 6, none⟩ (y6)).setCell ⟨g, 7, none⟩ (y7)).setCell ⟨g, 8, none⟩ (y8)).setCell ⟨g, 9, none⟩ (y9)).setCell ⟨g, 10, none⟩ (y10)).setCell ⟨g, 11, none⟩ (y11)).setCell ⟨g, 12, none⟩ (y12)).setCell ⟨g, 13, none⟩ (y13)) v l := (((((((((((((h.olderC hg 0 y0).olderC hg 1 y1).olderC hg 2 y2).olderC hg 3 y3).olderC hg 4 y4).olderC hg 5 y5).olderC hg 6 y6).olderC hg 7 y7).olderC hg 8 y8).olderC hg 9 y9).olderC hg 10 y10).olderC hg 11 y11).olderC hg 12 y12).olderC hg 13 y13
theorem OwnT.put14 {base : Nat} {w : World} {v : Value} {l : List Tx5} (h : OwnT base w v l) {g : Nat} (hg : g < base) (y0 y1 y2 y3 y4 y5 y6 y7 y8 y9 y10 y11 y12 y13 : Value) : OwnT base (((((((((((((((w).setCell ⟨g, 0, none⟩ (y0)).setCell ⟨g, 1, none⟩ (y1)).setCell ⟨g, 2, none⟩ (y2)).setCell ⟨g, 3, none⟩ (y3)).setCell ⟨g, 4, none⟩ (y4)).setCell ⟨g, 5, none⟩ (y5)).setCell ⟨g, 6, none⟩ (y6)).setCell ⟨g, 7, none⟩ (y7)).setCell ⟨g, 8, none⟩ (y8)).setCell ⟨g, 9, none⟩ (y9)).setCell ⟨g, 10, none⟩ (y10)).setCell ⟨g, 11, none⟩ (y11)).setCell ⟨g, 12, none⟩ (y12)).setCell ⟨g, 13, none⟩ (y13)) v l := (((((((((((((h.olderC hg 0 y0).olderC hg 1 y1).olderC hg 2 y2).olderC hg 3 y3).olderC hg 4 y4).olderC hg 5 y5).olderC hg 6 y6).olderC hg 7 y7).olderC hg 8 y8).olderC hg 9 y9).olderC hg 10 y10).olderC hg 11 y11).olderC hg 12 y12).olderC hg 13 y13
theorem OwnV.put14 {base : Nat} {w : World} {v : Value} {l : List Vl} (h : OwnV base w v l) {g : Nat} (hg : g < base) (y0 y1 y2 y3 y4 y5 y6 y7 y8 y9 y10 y11 y12 y13 : Value) : OwnV base (((((((((((((((w).setCell ⟨g, 0, none⟩ (y0)).setCell ⟨g, 1, none⟩ (y1)).setCell ⟨g, 2, none⟩ (y2)).setCell ⟨g, 3, none⟩ (y3)).setCell ⟨g, 4, none⟩ (y4)).setCell ⟨g, 5, none⟩ (y5)).setCell ⟨g, 6, none⟩ (y6)).setCell ⟨g, 7, none⟩ (y7)).setCell ⟨g, 8, none⟩ (y8)).setCell ⟨g, 9, none⟩ (y9)).setCell ⟨g, 10, none⟩ (y10)).setCell ⟨g, 11, none⟩ (y11)).setCell ⟨g, 12, none⟩ (y12)).setCell ⟨g, 13, none⟩ (y13)) v l := (((((((((((((h.olderC hg 0 y0).olderC hg 1 y1).olderC hg 2 y2).olderC hg 3 y3).olderC hg 4 y4).olderC hg 5 y5).olderC hg 6 y6).olderC hg 7 y7).olderC hg 8 y8).olderC hg 9 y9).olderC hg 10 y10).olderC hg 11 y11).olderC hg 12 y12).olderC hg 13 y13
theorem below_put14 (W : World) (g : Nat) (y0 y1 y2 y3 y4 y5 y6 y7 y8 y9 y10 y11 y12 y13 : Value) : Below g W (((((((((((((((W).setCell ⟨g, 0, none⟩ (y0)).setCell ⟨g, 1, none⟩ (y1)).setCell ⟨g, 2, none⟩ (y2)).setCell ⟨g, 3, none⟩ (y3)).setCell ⟨g, 4, none⟩ (y4)).setCell ⟨g, 5, none⟩ (y5)).setCell ⟨g, 6, none⟩ (y6)).setCell ⟨g, 7, none⟩ (y7)).setCell ⟨g, 8, none⟩ (y8)).setCell ⟨g, 9, none⟩ (y9)).setCell ⟨g, 10, none⟩ (y10)).setCell ⟨g, 11, none⟩ (y11)).setCell ⟨g, 12, none⟩ (y12)).setCell ⟨g, 13, none⟩ (y13)) := ((((((((((((((Below.refl _ W).setCell (p := ⟨g, 0, none⟩) (Nat.le_refl _) y0).setCell (p := ⟨g, 1, none⟩) (Nat.le_refl _) y1).setCell (p := ⟨g, 2, none⟩) (Nat.le_refl _) y2).setCell (p := ⟨g, 3, none⟩) (Nat.le_refl _) y3).setCell (p := ⟨g, 4, none⟩) (Nat.le_refl _) y4).setCell (p := ⟨g, 5, none⟩) (Nat.le_refl _) y5).setCell (p := ⟨g, 6, none⟩) (Nat.le_refl _) y6).setCell (p := ⟨g, 7, none⟩) (Nat.le_refl _) y7).setCell (p := ⟨g, 8, none⟩) (Nat.le_refl _) y8).setCell (p := ⟨g, 9, none⟩) (Nat.le_refl _) y9).setCell (p := ⟨g, 10, none⟩) (Nat.le_refl _) y10).setCell (p := ⟨g, 11, none⟩) (Nat.le_refl _) y11).setCell (p := ⟨g, 12, none⟩) (Nat.le_refl _) y12).setCell (p := ⟨g, 13, none⟩) (Nat.le_refl _) y13
/-- The lists are the call's own from block 'base' on, and read as the block's. -/
structure OwnK (base : Nat) (w : World) (b : Bk) (v : Bv) : Prop where
  q : OwnS base w v.q b.qw
  p : OwnS base w v.w b.tw
  h : OwnI base w v.h b.th
  t : OwnT base w v.t b.ts
  n : OwnV base w v.n b.nx
theorem OwnK.rd {base : Nat} {w : World} {b : Bk} {v : Bv} (h : OwnK base w b v) : RdK w b v := ⟨h.q.rd, h.p.rd, h.h.rd, h.t.rd, h.n.rd⟩
end Go.Proofs.Ytkidfkngehcjgaa

namespace Go.Proofs.Ytkidfkngehcjgaa
open Go.RowKit
set_option linter.unusedVariables false

end Go.Proofs.Ytkidfkngehcjgaa
