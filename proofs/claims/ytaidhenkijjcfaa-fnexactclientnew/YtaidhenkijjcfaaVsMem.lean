/- Those who vote, a name and a weight each, over plain data and in memory. -/
import Derived.Test.YtaidhenkijjcfaaFlat
import Derived.Test.YtaidhenkijjcfaaStrs
namespace Go.Proofs.Ytaidhenkijjcfaa
open Go.RowKit
set_option linter.unusedVariables false

/-- One who votes: a name, a weight. -/
abbrev Vl := ByteArray × Int
/-- What the slice v reads as: names with weights. -/
def RdV (w : World) (v : Value) (l : List Vl) : Prop :=
  (∃ a cap, v = .slice a 0 cap ∧ l = [] ∧ (a = none → cap = 0)) ∨
  ∃ b off cap, l ≠ [] ∧ v = .slice (some ⟨b, off, none⟩) l.length cap ∧ l.length ≤ cap ∧ cap ≤ maxLen ∧ b < w.heap.size ∧
    ∀ i (h : i < l.length), w.cell? ⟨b, off + i * 2, none⟩ = some (.string l[i].1) ∧ w.cell? ⟨b, off + i * 2 + 1, none⟩ = some (.int .i64 l[i].2)
theorem RdV.shape {w : World} {v : Value} {l : List Vl} (h : RdV w v l) : ∃ a cap, v = .slice a l.length cap := by
  rcases h with ⟨a, cap, rfl, rfl, -⟩ | ⟨b, off, cap, h0, rfl, _⟩
  · exact ⟨a, cap, rfl⟩
  · exact ⟨_, cap, rfl⟩
theorem RdV.below {B : Nat} {w w' : World} {v : Value} {l : List Vl} (h : RdV w v l) (hb : Below B w w') (hB : w.heap.size ≤ B) : RdV w' v l := by
  rcases h with h | ⟨b, off, cap, h0, hv, h1, h2, h3, h4⟩
  · exact .inl h
  · exact .inr ⟨b, off, cap, h0, hv, h1, h2, by have := hb.size; omega, fun i hi => ⟨(hb.cell (p := ⟨b, off + i * 2, none⟩) (by show b < B; omega)).trans (h4 i hi).1, (hb.cell (p := ⟨b, off + i * 2 + 1, none⟩) (by show b < B; omega)).trans (h4 i hi).2⟩⟩
def vlC (p : Vl) : List Value := [.string p.1, .int .i64 p.2]
/-- The slice v, of the call's own from block 'base' on, reads as the pairs l. -/
def OwnV (base : Nat) (w : World) (v : Value) (l : List Vl) : Prop := w.ownsRow base 57 2 v l.length (l.map vlC).flatten
theorem Try.infoVl : (Try.prog.info? 57).map (fun i => (i.zero, i.size, i.bytes)) = some (some (.agg #[.string { data := #[] }, .int .i64 0]), 2, 24) := by kernel_rfl
theorem vlC_sz (p : Vl) : (vlC p).length = 2 := rfl
theorem vlP_sz (l : List Vl) (k : Nat) : ∀ x ∈ part vlC [Value.string { data := #[] }, Value.int .i64 0] l k, x.length = 2 := part_sz 2 _ _ _ _ vlC_sz rfl
theorem vlM_sz (l : List Vl) : ∀ x ∈ l.map vlC, x.length = 2 := fun x hx => by obtain ⟨p, _, rfl⟩ := List.mem_map.1 hx; rfl
theorem OwnV.rd {base : Nat} {w : World} {v : Value} {l : List Vl} (h : OwnV base w v l) : RdV w v l := by
  rcases h.2 with ⟨hv, hn⟩ | ⟨g, cap, cur, hv, hb, hg, hnc, hcm, hcs, ht⟩
  · exact .inl ⟨none, 0, hv, List.length_eq_zero_iff.1 hn, fun _ => rfl⟩
  · by_cases hl : l = []
    · subst hl; exact .inl ⟨_, _, hv, rfl, fun h => by cases h⟩
    · refine .inr ⟨g, 0, cap, hl, hv, hnc, hcm, (Array.getElem?_eq_some_iff.1 hg).1, ?_⟩
      intro i hi
      have h' : w.ownsRow base 57 2 (.slice (some ⟨g, 0, none⟩) l.length cap) l.length (l.map vlC).flatten := hv ▸ h
      have e0 := flat_get 2 (l.map vlC) i 0 (by simpa using hi) (vlM_sz l) (by omega)
      have e1 := flat_get 2 (l.map vlC) i 1 (by simpa using hi) (vlM_sz l) (by omega)
      rw [Nat.zero_add, h'.cellAt (i * 2) (by omega), h'.cellAt (i * 2 + 1) (by omega)]
      rw [Nat.add_zero] at e0
      rw [e0, e1]
      simp [vlC]

theorem OwnV.mono {base base' : Nat} {w : World} {v : Value} {l : List Vl} (h : OwnV base w v l) (hB : base' ≤ base) : OwnV base' w v l := by
  refine ⟨h.1, ?_⟩
  rcases h.2 with h' | ⟨g, cap, cur, hv, hbb, r⟩
  · exact .inl h'
  · exact .inr ⟨g, cap, cur, hv, by omega, r⟩
theorem OwnV.ge {base : Nat} {w : World} {v : Value} {l : List Vl} (h : OwnV base w v l) : ∀ k, v.ownBlock = some k → base ≤ k := fun k hk => (World.ownsRow.lt h k hk).1
theorem OwnV.lt {base : Nat} {w : World} {v : Value} {l : List Vl} (h : OwnV base w v l) : ∀ k, v.ownBlock = some k → k < w.heap.size := fun k hk => (World.ownsRow.lt h k hk).2
theorem OwnV.below {B base : Nat} {w w' : World} {v : Value} {l : List Vl} (h : OwnV base w v l) (hb : Below B w w') (hB : w.heap.size ≤ B) : OwnV base w' v l := row_below h hb hB
theorem OwnV.kept {base : Nat} {w w' : World} {v : Value} {l : List Vl} {row : Option Nat} (h : OwnV base w v l) (hg : w.grownBy w' row) (hne : v.ownBlock = none ∨ v.ownBlock ≠ row) : OwnV base w' v l := World.ownsRow.kept h hg hne

end Go.Proofs.Ytaidhenkijjcfaa
