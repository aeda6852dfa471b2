/- What leaves, held against each other; its size. An account by value: made, held against another, its size. Accounts in memory: what a slice of them reads as, what a call owns of them, how they are made anew. -/
import Derived.Test.YtdelegamcebflaaDoorJoin3
import Derived.Deep.RegionHeldLaw
import Derived.Test.YtdelegamcebflaaDoorJoin2
namespace Go.Proofs.YtdelegamcebflaaDoor
open Go.RowKit
set_option linter.unusedVariables false


end Go.Proofs.YtdelegamcebflaaDoor

namespace Go.Proofs.YtdelegamcebflaaDoor
open Go.RowKit
set_option linter.unusedVariables false

/-- An account: its name, what is free, how many orders, what is at stake, what leaves. -/
abbrev Ac := ByteArray × Int × Int × Int × List (Int × Int)
/-- Its value, its list of what leaves being lv. -/
def acV (a : Ac) (lv : Value) : Value := .agg #[.string a.1, .int .i64 a.2.1, .int .i64 a.2.2.1, .int .i64 a.2.2.2.1, lv]


end Go.Proofs.YtdelegamcebflaaDoor

namespace Go.Proofs.YtdelegamcebflaaDoor
open Go.RowKit
set_option linter.unusedVariables false

/-- The account a, its list being lv, lies in block b from place o on. -/
structure AcAt (w : World) (b o : Nat) (a : Ac) (lv : Value) : Prop where
  c0 : w.cell? ⟨b, o, none⟩ = some (.string a.1)
  c1 : w.cell? ⟨b, o + 1, none⟩ = some (.int .i64 a.2.1)
  c2 : w.cell? ⟨b, o + 2, none⟩ = some (.int .i64 a.2.2.1)
  c3 : w.cell? ⟨b, o + 3, none⟩ = some (.int .i64 a.2.2.2.1)
  c4 : w.cell? ⟨b, o + 4, none⟩ = some lv
theorem AcAt.below {w w' : World} {B b o : Nat} {a : Ac} {lv : Value} (h : AcAt w b o a lv) (hb : Below B w w') (hB : b < B) : AcAt w' b o a lv :=
  ⟨(hb.cell (p := ⟨b, o, none⟩) hB).trans h.c0, (hb.cell (p := ⟨b, o + 1, none⟩) hB).trans h.c1, (hb.cell (p := ⟨b, o + 2, none⟩) hB).trans h.c2, (hb.cell (p := ⟨b, o + 3, none⟩) hB).trans h.c3, (hb.cell (p := ⟨b, o + 4, none⟩) hB).trans h.c4⟩
/-- The slice v reads as the accounts l. -/
def RdA (w : World) (v : Value) (l : List Ac) : Prop :=
  (∃ a cap, v = .slice a 0 cap ∧ l = [] ∧ (a = none → cap = 0)) ∨
  ∃ b off cap, l ≠ [] ∧ v = .slice (some ⟨b, off, none⟩) l.length cap ∧ l.length ≤ cap ∧ cap ≤ maxLen ∧ b < w.heap.size ∧
    ∀ i (h : i < l.length), ∃ lv, AcAt w b (off + i * 5) l[i] lv ∧ RdL w lv l[i].2.2.2.2
theorem RdA.shape {w : World} {v : Value} {l : List Ac} (h : RdA w v l) : ∃ a cap, v = .slice a l.length cap := by
  rcases h with ⟨a, cap, rfl, rfl, -⟩ | ⟨b, off, cap, h0, rfl, _⟩
  · exact ⟨a, cap, rfl⟩
  · exact ⟨_, cap, rfl⟩
theorem RdA.below {B : Nat} {w w' : World} {v : Value} {l : List Ac} (h : RdA w v l) (hb : Below B w w') (hB : w.heap.size ≤ B) : RdA w' v l := by
  rcases h with h | ⟨b, off, cap, h0, hv, h1, h2, h3, h4⟩
  · exact .inl h
  · refine .inr ⟨b, off, cap, h0, hv, h1, h2, by have := hb.size; omega, fun i hi => ?_⟩
    obtain ⟨lv, k1, k2⟩ := h4 i hi
    exact ⟨lv, k1.below hb (by omega), k2.below hb hB⟩

def acC (q : Ac × Value) : List Value := [.string q.1.1, .int .i64 q.1.2.1, .int .i64 q.1.2.2.1, .int .i64 q.1.2.2.2.1, q.2]
def acZ : List Value := [.string { data := #[] }, .int .i64 0, .int .i64 0, .int .i64 0, .slice none 0 0]
theorem acM_sz (l : List (Ac × Value)) : ∀ x ∈ l.map acC, x.length = 5 := fun x hx => by obtain ⟨p, _, rfl⟩ := List.mem_map.1 hx; rfl
/-- The lists of what leaves of the pairs Z (an account, and its list) are the call's own, each of its own block, which is not the block 'g'. -/
structure Lvs (base : Nat) (w : World) (g : Nat) (Z : List (Ac × Value)) : Prop where
  own : ∀ i (h : i < Z.length), OwnL base w Z[i].2 Z[i].1.2.2.2.2
  far : ∀ i (h : i < Z.length) k, Z[i].2.ownBlock = some k → k ≠ g
  apart : ∀ i j (hi : i < Z.length) (hj : j < Z.length), i ≠ j → ∀ k, Z[i].2.ownBlock = some k → Z[j].2.ownBlock ≠ some k
/-- The slice v, of the call's own from block 'base' on, reads as the accounts l; each one's list is the call's own, too, and no two share a block. -/
def OwnA (base : Nat) (w : World) (v : Value) (l : List Ac) : Prop :=
  ∃ (g cap : Nat) (Z : List (Ac × Value)), Z.map (·.1) = l ∧ v = .slice (some ⟨g, 0, none⟩) l.length cap ∧ w.ownsRow base 33 5 v l.length (Z.map acC).flatten ∧ Lvs base w g Z

theorem OwnA.rd {base : Nat} {w : World} {v : Value} {l : List Ac} (h : OwnA base w v l) : RdA w v l := by
  obtain ⟨g, cap, Z, hZ, rfl, ho, hl⟩ := h
  have hlen : Z.length = l.length := by rw [← hZ]; simp
  by_cases hn : l = []
  · subst hn; exact .inl ⟨_, _, rfl, rfl, fun h => by cases h⟩
  · rcases ho.2 with ⟨hv, _⟩ | ⟨g', cap', cur, hv, hb, hg, hnc, hcm, hcs, ht⟩
    · cases hv
    · simp only [Value.slice.injEq, Option.some.injEq, Addr.mk.injEq, and_true, true_and] at hv
      obtain ⟨rfl, rfl⟩ := hv
      refine .inr ⟨g, 0, cap, hn, rfl, hnc, hcm, (Array.getElem?_eq_some_iff.1 hg).1, fun i hi => ?_⟩
      have hi' : i < Z.length := by omega
      have e : l[i] = Z[i].1 := by subst hZ; simp
      refine ⟨Z[i].2, ?_, by rw [e]; exact (hl.own i hi').rd⟩
      have cell : ∀ j, j < 5 → w.cell? ⟨g, 0 + i * 5 + j, none⟩ = (acC Z[i])[j]? := fun j hj => by
        rw [Nat.zero_add, ho.cellAt (i * 5 + j) (by omega), flat_get 5 (Z.map acC) i j (by simpa using hi') (acM_sz Z) hj]
        simp
      rw [e]
      exact ⟨by have := cell 0 (by omega); simpa [acC] using this, by have := cell 1 (by omega); simpa [acC] using this, by have := cell 2 (by omega); simpa [acC] using this, by have := cell 3 (by omega); simpa [acC] using this, by have := cell 4 (by omega); simpa [acC] using this⟩

theorem Lvs.below {B base : Nat} {w w' : World} {g : Nat} {Z : List (Ac × Value)} (h : Lvs base w g Z) (hb : Below B w w') (hB : w.heap.size ≤ B) : Lvs base w' g Z :=
  ⟨fun i hi => (h.own i hi).below hb hB, h.far, h.apart⟩
theorem Lvs.set {base : Nat} {w : World} {g : Nat} {Z : List (Ac × Value)} (h : Lvs base w g Z) (j : Nat) (u : Value) : Lvs base (w.setCell ⟨g, j, none⟩ u) g Z :=
  ⟨fun i hi => row_set (h.own i hi) g j u (h.far i hi), h.far, h.apart⟩
theorem Lvs.snoc {base : Nat} {w : World} {g : Nat} {Z : List (Ac × Value)} (h : Lvs base w g Z) (q : Ac × Value) (ho : OwnL base w q.2 q.1.2.2.2.2) (hf : ∀ k, q.2.ownBlock = some k → k ≠ g)
    (hn : ∀ i (hi : i < Z.length) k, Z[i].2.ownBlock = some k → q.2.ownBlock ≠ some k) : Lvs base w g (Z ++ [q]) := by
  have at1 : ∀ i (hi : i < (Z ++ [q]).length), (∃ h' : i < Z.length, (Z ++ [q])[i] = Z[i]) ∨ (i = Z.length ∧ (Z ++ [q])[i] = q) := fun i hi => by
    by_cases h' : i < Z.length
    · exact .inl ⟨h', List.getElem_append_left h'⟩
    · have e : i = Z.length := by simp at hi; omega
      subst e
      exact .inr ⟨rfl, by simp⟩
  refine ⟨fun i hi => ?_, fun i hi k hk => ?_, fun i j hi hj hij k hk => ?_⟩
  · rcases at1 i hi with ⟨h', e⟩ | ⟨_, e⟩
    · rw [e]; exact h.own i h'
    · rw [e]; exact ho
  · rcases at1 i hi with ⟨h', e⟩ | ⟨_, e⟩
    · rw [e] at hk; exact h.far i h' k hk
    · rw [e] at hk; exact hf k hk
  · rcases at1 i hi with ⟨h', e⟩ | ⟨ei, e⟩ <;> rcases at1 j hj with ⟨h2, e2⟩ | ⟨ej, e2⟩
    · rw [e] at hk; rw [e2]; exact h.apart i j h' h2 hij k hk
    · rw [e] at hk; rw [e2]; exact hn i h' k hk
    · rw [e] at hk; rw [e2]; exact fun e3 => hn j h2 k e3 hk
    · omega
theorem OwnA.below {B base : Nat} {w w' : World} {v : Value} {l : List Ac} (h : OwnA base w v l) (hb : Below B w w') (hB : w.heap.size ≤ B) : OwnA base w' v l := by
  obtain ⟨g, cap, Z, hZ, hv, ho, hl⟩ := h
  exact ⟨g, cap, Z, hZ, hv, row_below ho hb hB, hl.below hb hB⟩
theorem Tryd.infoAc : (Tryd.prog.info? 33).map (fun i => (i.zero, i.size, i.bytes)) = some (some (.agg #[.string { data := #[] }, .int .i64 0, .int .i64 0, .int .i64 0, .slice none 0 0]), 5, 64) := by kernel_rfl

end Go.Proofs.YtdelegamcebflaaDoor
