/- Votes and leavings in memory: two numbers and a name each. Those who vote, a name and a weight each, over plain data and in memory. -/
import Derived.Test.YtkidfkngehcjgaaZsCtVal
import Derived.Test.YtkidfkngehcjgaaZsStrs
import Derived.Maps.AppendAt
import Derived.Laws.AppendOwnNone
namespace Go.Proofs.Ytkidfkngehcjgaa
open Go.RowKit
set_option linter.unusedVariables false

/-- Two numbers and a name. -/
abbrev Tr := Int × Int × ByteArray
def trV (p : Tr) : Value := .agg #[.int .i64 p.1, .int .i64 p.2.1, .string p.2.2]
def trC (p : Tr) : List Value := [.int .i64 p.1, .int .i64 p.2.1, .string p.2.2]
structure TrAt (w : World) (b o : Nat) (p : Tr) : Prop where
  c0 : w.cell? ⟨b, o, none⟩ = some (.int .i64 p.1)
  c1 : w.cell? ⟨b, o + 1, none⟩ = some (.int .i64 p.2.1)
  c2 : w.cell? ⟨b, o + 2, none⟩ = some (.string p.2.2)
theorem TrAt.below {w w' : World} {B b o : Nat} {p : Tr} (h : TrAt w b o p) (hb : Below B w w') (hB : b < B) : TrAt w' b o p :=
  ⟨(hb.cell (p := ⟨b, o, none⟩) hB).trans h.c0, (hb.cell (p := ⟨b, o + 1, none⟩) hB).trans h.c1, (hb.cell (p := ⟨b, o + 2, none⟩) hB).trans h.c2⟩
def RdR (w : World) (v : Value) (l : List Tr) : Prop :=
  (∃ a cap, v = .slice a 0 cap ∧ l = [] ∧ (a = none → cap = 0)) ∨
  ∃ b off cap, l ≠ [] ∧ v = .slice (some ⟨b, off, none⟩) l.length cap ∧ l.length ≤ cap ∧ cap ≤ maxLen ∧ b < w.heap.size ∧ ∀ i (h : i < l.length), TrAt w b (off + i * 3) l[i]
theorem RdR.shape {w : World} {v : Value} {l : List Tr} (h : RdR w v l) : ∃ a cap, v = .slice a l.length cap := by
  rcases h with ⟨a, cap, rfl, rfl, -⟩ | ⟨b, off, cap, h0, rfl, _⟩
  · exact ⟨a, cap, rfl⟩
  · exact ⟨_, cap, rfl⟩
theorem RdR.below {B : Nat} {w w' : World} {v : Value} {l : List Tr} (h : RdR w v l) (hb : Below B w w') (hB : w.heap.size ≤ B) : RdR w' v l := by
  rcases h with h | ⟨b, off, cap, h0, hv, h1, h2, h3, h4⟩
  · exact .inl h
  · exact .inr ⟨b, off, cap, h0, hv, h1, h2, by have := hb.size; omega, fun i hi => (h4 i hi).below hb (by omega)⟩
theorem RdR.at {w : World} {a : Option Addr} {cap k : Nat} {l : List Tr} (h : RdR w (.slice a l.length cap) l) (hk : k < l.length) :
    ∃ b off, a = some ⟨b, off, none⟩ ∧ l.length ≤ cap ∧ cap ≤ maxLen ∧ b < w.heap.size ∧ TrAt w b (off + k * 3) l[k] := by
  rcases h with ⟨a', cap', e, rfl, -⟩ | ⟨b, off, cap', h0, e, h1, h2, h3, h4⟩
  · simp at hk
  · simp only [Value.slice.injEq] at e
    obtain ⟨rfl, -, rfl⟩ := e
    exact ⟨b, off, rfl, h1, h2, h3, h4 k hk⟩
theorem trM_sz (l : List Tr) : ∀ x ∈ l.map trC, x.length = 3 := fun x hx => by obtain ⟨p, _, rfl⟩ := List.mem_map.1 hx; rfl
/-- The slice v, of the call's own from block 'base' on, reads as the triples l (t: their type). -/
def OwnR (t : TypeId) (base : Nat) (w : World) (v : Value) (l : List Tr) : Prop := w.ownsRow base t 3 v l.length (l.map trC).flatten
theorem OwnR.rd {t : TypeId} {base : Nat} {w : World} {v : Value} {l : List Tr} (h : OwnR t base w v l) : RdR w v l := by
  rcases h.2 with ⟨rfl, hn⟩ | ⟨g, cap, cur, rfl, hb, hg, hnc, hcm, hcs, ht⟩
  · have : l = [] := List.length_eq_zero_iff.1 hn
    subst this
    exact .inl ⟨_, _, rfl, rfl, fun _ => rfl⟩
  · by_cases hn : l = []
    · subst hn; exact .inl ⟨_, _, rfl, rfl, fun h => by cases h⟩
    · refine .inr ⟨g, 0, cap, hn, rfl, hnc, hcm, (Array.getElem?_eq_some_iff.1 hg).1, fun i hi => ?_⟩
      have cell : ∀ j, j < 3 → w.cell? ⟨g, 0 + i * 3 + j, none⟩ = (trC l[i])[j]? := fun j hj => by
        rw [Nat.zero_add, World.ownsRow.cellAt h (i * 3 + j) (by omega), flat_get 3 (l.map trC) i j (by simpa using hi) (trM_sz l) hj]
        simp
      exact ⟨by have := cell 0 (by omega); simpa [trC] using this, by have := cell 1 (by omega); simpa [trC] using this, by have := cell 2 (by omega); simpa [trC] using this⟩
theorem OwnR.below {t : TypeId} {B base : Nat} {w w' : World} {v : Value} {l : List Tr} (h : OwnR t base w v l) (hb : Below B w w') (hB : w.heap.size ≤ B) : OwnR t base w' v l := row_below h hb hB
theorem OwnR.ge {t : TypeId} {base : Nat} {w : World} {v : Value} {l : List Tr} (h : OwnR t base w v l) : ∀ k, v.ownBlock = some k → base ≤ k := fun k hk => (World.ownsRow.lt h k hk).1
theorem OwnR.lt {t : TypeId} {base : Nat} {w : World} {v : Value} {l : List Tr} (h : OwnR t base w v l) : ∀ k, v.ownBlock = some k → k < w.heap.size := fun k hk => (World.ownsRow.lt h k hk).2
theorem OwnR.alloc {t : TypeId} {base : Nat} {w : World} {v : Value} {l : List Tr} (h : OwnR t base w v l) (o : Obj) : OwnR t base (w.alloc o) v l := World.ownsRow.alloc h o
theorem OwnR.drew {t : TypeId} {base : Nat} {w : World} {v : Value} {l : List Tr} (h : OwnR t base w v l) : OwnR t base w.drew v l := h.below (Below.refl _ w).drew (Nat.le_refl _)
theorem OwnR.notg {t : TypeId} {base : Nat} {w w' : World} {v : Value} {l : List Tr} {g : Nat} (h : OwnR t base w v l) (hg : w.grownBy w' (some g)) (hb : g < base) : OwnR t base w' v l :=
  World.ownsRow.kept h hg (.inr fun e => by have := h.ge g e; omega)
theorem OwnR.kept {t : TypeId} {base : Nat} {w w' : World} {v : Value} {l : List Tr} {row : Option Nat} (h : OwnR t base w v l) (hg : w.grownBy w' row) (hne : v.ownBlock = none ∨ v.ownBlock ≠ row) : OwnR t base w' v l := World.ownsRow.kept h hg hne
theorem own_nilR (t : TypeId) (w : World) (base : Nat) (h : base ≤ w.heap.size) : OwnR t base (w.alloc (.cells #[] t)) (.slice (some ⟨w.heap.size, 0, none⟩) 0 0) [] :=
  World.ownsRow_lit w #[] 0 h (by unfold maxLen; omega) (by simp)
theorem add_flatR (b off i : Nat) : (⟨b, off, none⟩ : Addr).add i = ⟨b, off + i, none⟩ := by
  by_cases hz : i = 0
  · subst hz; simp [Addr.add]
  · simp [Addr.add, hz]
theorem Blk.newR (W : World) (t : TypeId) (cs : List Value) (n : Nat) (h : n = W.heap.size) : Blk (W.alloc (.cells cs.toArray t)) n t cs := by subst h; exact Blk.new W t cs
end Go.Proofs.Ytkidfkngehcjgaa

namespace Go.Proofs.Ytkidfkngehcjgaa
open Go.RowKit
set_option linter.unusedVariables false

/-- One who votes: a name, a weight. -/
abbrev Vl := ByteArray × Int
/-- What the slice v reads as: names with weights. -/
def RdV (w : World) (v : Value) (l : List Vl) : Prop :=
  (∃ a cap, v = .slice a 0 cap ∧ l = [] ∧ (a = none → cap = 0)) ∨
  ∃ b off cap, l ≠ [] ∧ v = .slice (some ⟨b, off, none⟩) l.length cap ∧ l.length ≤ cap ∧ cap ≤ maxLen ∧ b < w.heap.size ∧
    ∀ i (h : i < l.length), w.cell? ⟨b, off + i * 2, none⟩ = some (.string l[i].1) ∧ w.cell? ⟨b, off + i * 2 + 1, none⟩ = some (.int .i64 l[i].2)
theorem RdV.shape {w : World} {v : Value} {l : List Vl} (h : RdV w v l) : ∃ a cap, v = .slice a l.length cap := by
  rcases h with ⟨a, cap, rfl, rfl, -⟩ | ⟨b, off, cap, h0, rfl, _⟩
  · exact ⟨a, cap, rfl⟩
  · exact ⟨_, cap, rfl⟩
theorem RdV.below {B : Nat} {w w' : World} {v : Value} {l : List Vl} (h : RdV w v l) (hb : Below B w w') (hB : w.heap.size ≤ B) : RdV w' v l := by
  rcases h with h | ⟨b, off, cap, h0, hv, h1, h2, h3, h4⟩
  · exact .inl h
  · exact .inr ⟨b, off, cap, h0, hv, h1, h2, by have := hb.size; omega, fun i hi => ⟨(hb.cell (p := ⟨b, off + i * 2, none⟩) (by show b < B; omega)).trans (h4 i hi).1, (hb.cell (p := ⟨b, off + i * 2 + 1, none⟩) (by show b < B; omega)).trans (h4 i hi).2⟩⟩
def vlC (p : Vl) : List Value := [.string p.1, .int .i64 p.2]
/-- The slice v, of the call's own from block 'base' on, reads as the pairs l. -/
def OwnV (base : Nat) (w : World) (v : Value) (l : List Vl) : Prop := w.ownsRow base 87 2 v l.length (l.map vlC).flatten
theorem Try.infoVl : (Try.prog.info? 87).map (fun i => (i.zero, i.size, i.bytes)) = some (some (.agg #[.string { data := #[] }, .int .i64 0]), 2, 24) := by kernel_rfl
theorem vlC_sz (p : Vl) : (vlC p).length = 2 := rfl
theorem vlP_sz (l : List Vl) (k : Nat) : ∀ x ∈ part vlC [Value.string { data := #[] }, Value.int .i64 0] l k, x.length = 2 := part_sz 2 _ _ _ _ vlC_sz rfl
theorem vlM_sz (l : List Vl) : ∀ x ∈ l.map vlC, x.length = 2 := fun x hx => by obtain ⟨p, _, rfl⟩ := List.mem_map.1 hx; rfl
theorem OwnV.rd {base : Nat} {w : World} {v : Value} {l : List Vl} (h : OwnV base w v l) : RdV w v l := by
  rcases h.2 with ⟨hv, hn⟩ | ⟨g, cap, cur, hv, hb, hg, hnc, hcm, hcs, ht⟩
  · exact .inl ⟨none, 0, hv, List.length_eq_zero_iff.1 hn, fun _ => rfl⟩
  · by_cases hl : l = []
    · subst hl; exact .inl ⟨_, _, hv, rfl, fun h => by cases h⟩
    · refine .inr ⟨g, 0, cap, hl, hv, hnc, hcm, (Array.getElem?_eq_some_iff.1 hg).1, ?_⟩
      intro i hi
      have h' : w.ownsRow base 87 2 (.slice (some ⟨g, 0, none⟩) l.length cap) l.length (l.map vlC).flatten := hv ▸ h
      have e0 := flat_get 2 (l.map vlC) i 0 (by simpa using hi) (vlM_sz l) (by omega)
      have e1 := flat_get 2 (l.map vlC) i 1 (by simpa using hi) (vlM_sz l) (by omega)
      rw [Nat.zero_add, h'.cellAt (i * 2) (by omega), h'.cellAt (i * 2 + 1) (by omega)]
      rw [Nat.add_zero] at e0
      rw [e0, e1]
      simp [vlC]

theorem OwnV.mono {base base' : Nat} {w : World} {v : Value} {l : List Vl} (h : OwnV base w v l) (hB : base' ≤ base) : OwnV base' w v l := by
  refine ⟨h.1, ?_⟩
  rcases h.2 with h' | ⟨g, cap, cur, hv, hbb, r⟩
  · exact .inl h'
  · exact .inr ⟨g, cap, cur, hv, by omega, r⟩
theorem OwnV.ge {base : Nat} {w : World} {v : Value} {l : List Vl} (h : OwnV base w v l) : ∀ k, v.ownBlock = some k → base ≤ k := fun k hk => (World.ownsRow.lt h k hk).1
theorem OwnV.lt {base : Nat} {w : World} {v : Value} {l : List Vl} (h : OwnV base w v l) : ∀ k, v.ownBlock = some k → k < w.heap.size := fun k hk => (World.ownsRow.lt h k hk).2
theorem OwnV.below {B base : Nat} {w w' : World} {v : Value} {l : List Vl} (h : OwnV base w v l) (hb : Below B w w') (hB : w.heap.size ≤ B) : OwnV base w' v l := row_below h hb hB
theorem OwnV.kept {base : Nat} {w w' : World} {v : Value} {l : List Vl} {row : Option Nat} (h : OwnV base w v l) (hg : w.grownBy w' row) (hne : v.ownBlock = none ∨ v.ownBlock ≠ row) : OwnV base w' v l := World.ownsRow.kept h hg hne

end Go.Proofs.Ytkidfkngehcjgaa
