/- Eight words as 32 bytes; blocks of bytes that can be read. -/
import Derived.Test.YtdelegamcebflaaDoorJoin8
import Derived.Test.YtdelegamcebflaaDoorAr
namespace Go.Proofs.YtdelegamcebflaaDoor
open Go.RowKit
set_option linter.unusedVariables false

def be4 (x : Nat) : List UInt8 := [UInt8.ofNat (x / 16777216 % 256), UInt8.ofNat (x / 65536 % 256), UInt8.ofNat (x / 256 % 256), UInt8.ofNat (x % 256)]
def bytesS (s : S8) : List UInt8 := s.list.flatMap be4
theorem bytesS_len (s : S8) : (bytesS s).length = 32 := rfl
theorem flat_snoc (l : List Nat) (k : Nat) (h : k < l.length) : (l.take (k + 1)).flatMap be4 = (l.take k).flatMap be4 ++ be4 l[k] := by
  rw [List.take_succ_eq_append_getElem h, List.flatMap_append]
  simp only [List.flatMap_cons, List.flatMap_nil, List.append_nil]
theorem flatB_len (l : List Nat) : (l.flatMap be4).length = 4 * l.length := by
  induction l with
  | nil => rfl
  | cons c t ih => simp only [List.flatMap_cons, List.length_append, List.length_cons, ih, be4, List.length_nil]; omega
theorem byte_at (x d : Nat) : (x : Int) / (d : Int) % 256 = ((UInt8.ofNat (x / d % 256)).toNat : Int) := by
  rw [UInt8.toNat_ofNat', Nat.mod_eq_of_lt (by omega)]
  simp
theorem byte_at1 (x : Nat) : (x : Int) % 256 = ((UInt8.ofNat (x % 256)).toNat : Int) := by
  rw [UInt8.toNat_ofNat', Nat.mod_eq_of_lt (by omega)]
  simp
/-- The block g can be read as the bytes l from its head on. -/
def Ab (w : World) (g : Nat) (l : List UInt8) : Prop := g < w.heap.size ∧ ∀ i (h : i < l.length), w.cell? ⟨g, i, none⟩ = some (.int .u8 (l[i].toNat : Int))
theorem Ab.below {B : Nat} {w w' : World} {g : Nat} {l : List UInt8} (h : Ab w g l) (hb : Below B w w') (hB : w.heap.size ≤ B) : Ab w' g l :=
  ⟨by have := hb.size; have := h.1; omega, fun i hi => (hb.cell (p := ⟨g, i, none⟩) (by have := h.1; show g < B; omega)).trans (h.2 i hi)⟩
theorem Ab.setsOther {w : World} {g : Nat} {l : List UInt8} (h : Ab w g l) (b o : Nat) (vs : List Value) (hb : g ≠ b) : Ab (w.setCells b o vs) g l :=
  ⟨by have := (below_setCells (Below.refl 0 w) b (Nat.zero_le _) vs o).size; have := h.1; omega, fun i hi => (World.cell?_setCells_out b vs o w ⟨g, i, none⟩ (fun e => absurd e hb)).trans (h.2 i hi)⟩
theorem OwnB.ab {base : Nat} {w : World} {v : Value} {l : List UInt8} {g n cap B : Nat} (h : OwnB base w v l) (hv : v = .slice (some ⟨g, 0, none⟩) n cap) (hB : B ≤ base) (hn : 0 < l.length) : Ab w g l ∧ B ≤ g ∧ cap ≤ maxLen := by
  rcases h.2 with ⟨hv', h0⟩ | ⟨g', cap', cur, hv', hb, hg, hnc, hcm, hcs, ht⟩
  · omega
  · have e := hv.symm.trans hv'
    simp only [Value.slice.injEq, Option.some.injEq, Addr.mk.injEq, and_true] at e
    obtain ⟨rfl, rfl, rfl⟩ := e
    subst hv
    exact ⟨⟨(Array.getElem?_eq_some_iff.1 hg).1, fun i hi => by
      rw [World.ownsRow.cellAt h i (by simpa using hi)]
      simp [hi, cb]⟩, by omega, hcm⟩
end Go.Proofs.YtdelegamcebflaaDoor
