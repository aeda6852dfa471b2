/- A certificate of leavings by value: made, held against another, its size; the greatest High. -/
import Derived.Test.YtmjnkcggomnnjaaZcInts
import Derived.Test.YtmjnkcggomnnjaaZcFlat
namespace Go.Proofs.Ytmjnkcggomnnjaa
open Go.RowKit
set_option linter.unusedVariables false

/-- Its value: its round, its names being vw, its Highs vh. -/
def tcV (r : Int) (vw vh : Value) : Value := .agg #[.int .i64 r, vw, vh]
theorem OwnS.olderC {base : Nat} {w : World} {v : Value} {l : List ByteArray} (h : OwnS base w v l) {g : Nat} (hg : g < base) (j : Nat) (u : Value) : OwnS base (w.setCell ⟨g, j, none⟩ u) v l :=
  row_set h g j u (fun k hk => by have := h.ge k hk; omega)
theorem OwnI.olderC {base : Nat} {w : World} {v : Value} {l : List Int} (h : OwnI base w v l) {g : Nat} (hg : g < base) (j : Nat) (u : Value) : OwnI base (w.setCell ⟨g, j, none⟩ u) v l :=
  row_set h g j u (fun k hk => by have := h.ge k hk; omega)
theorem Blk.setC {W : World} {B : Nat} {t : TypeId} {cs : List Value} (h : Blk W B t cs) (j : Nat) (u : Value) : Blk (W.setCell ⟨B, j, none⟩ u) B t (cs.set j u) := by
  have e := heap_setCell_same W B j cs.toArray t u h
  simpa [Blk] using e
theorem Blk.otherC {W : World} {B : Nat} {t : TypeId} {cs : List Value} (h : Blk W B t cs) (g j : Nat) (u : Value) (hne : B ≠ g) : Blk (W.setCell ⟨g, j, none⟩ u) B t cs := (heap_setCell_other W ⟨g, j, none⟩ B u hne).trans h
/-- The greatest of the numbers; 0. -/
def highI (hs : List Int) : Int := hs.foldl (fun n x => if n < x then x else n) 0
theorem high_snoc (hs : List Int) (k : Nat) (h : k < hs.length) : (hs.take (k + 1)).foldl (fun (n x : Int) => if n < x then x else n) 0 = (if (hs.take k).foldl (fun (n x : Int) => if n < x then x else n) 0 < hs[k] then hs[k] else (hs.take k).foldl (fun (n x : Int) => if n < x then x else n) 0) := by
  rw [List.take_succ_eq_append_getElem h, List.foldl_append]; rfl
end Go.Proofs.Ytmjnkcggomnnjaa
