/- What leaves, held against each other; its size. Texts in memory: what a slice of texts reads as, what a call owns of them. An account by value: made, held against another, its size. Accounts in memory: what a slice of them reads as, what a call owns of them, how they are made anew. Accounts held against each other; their size. -/
import Derived.Test.YtdelegamcebflaaGreatDoorJoin1
import Derived.Deep.RegionHeldLaw
import Derived.Test.YtdelegamcebflaaGreatDoorMem
namespace Go.Proofs.YtdelegamcebflaaGreatDoor
open Go.RowKit
set_option linter.unusedVariables false


end Go.Proofs.YtdelegamcebflaaGreatDoor

namespace Go.Proofs.YtdelegamcebflaaGreatDoor
open Go.RowKit
set_option linter.unusedVariables false

def tot (ls : List ByteArray) : Nat := (ls.map (fun s => s.size)).sum
theorem tot_take : ∀ (ls : List ByteArray) (k : Nat), tot (ls.take k) ≤ tot ls := by
  intro ls
  induction ls with
  | nil => intro k; simp [tot]
  | cons s t ih =>
    intro k
    cases k with
    | zero => simp [tot]
    | succ k =>
      have := ih k
      simp only [tot, List.take_succ_cons, List.map_cons, List.sum_cons] at this ⊢
      omega
theorem tot_at : ∀ (ls : List ByteArray) (k : Nat) (h : k < ls.length), ls[k].size ≤ tot ls := by
  intro ls
  induction ls with
  | nil => intro k h; simp at h
  | cons s t ih =>
    intro k h
    cases k with
    | zero => simp [tot]
    | succ k =>
      have := ih k (by simpa using h)
      simp only [tot, List.getElem_cons_succ, List.map_cons, List.sum_cons] at this ⊢
      omega
/-- The value v is a slice that reads as the texts ls. -/
def RdS (w : World) (v : Value) (l : List ByteArray) : Prop :=
  (∃ a cap, v = .slice a 0 cap ∧ l = [] ∧ (a = none → cap = 0)) ∨
  ∃ b off cap, l ≠ [] ∧ v = .slice (some ⟨b, off, none⟩) l.length cap ∧ l.length ≤ cap ∧ cap ≤ maxLen ∧ b < w.heap.size ∧ ∀ i (h : i < l.length), w.cell? ⟨b, off + i, none⟩ = some (.string l[i])

theorem RdS.shape {w : World} {v : Value} {l : List ByteArray} (h : RdS w v l) : ∃ a cap, v = .slice a l.length cap := by
  rcases h with ⟨a, cap, rfl, rfl, -⟩ | ⟨b, off, cap, h0, rfl, _⟩
  · exact ⟨a, cap, rfl⟩
  · exact ⟨_, cap, rfl⟩
theorem RdS.below {B : Nat} {w w' : World} {v : Value} {l : List ByteArray} (h : RdS w v l) (hb : Below B w w') (hB : w.heap.size ≤ B) : RdS w' v l := by
  rcases h with h | ⟨b, off, cap, h0, hv, h1, h2, h3, h4⟩
  · exact .inl h
  · exact .inr ⟨b, off, cap, h0, hv, h1, h2, by have := hb.size; omega, fun i hi => (hb.cell (p := ⟨b, off + i, none⟩) (by show b < B; omega)).trans (h4 i hi)⟩
theorem rd_one_str (w : World) (s : ByteArray) : RdS (w.alloc (.cells #[.string s] 9)) (.slice (some ⟨w.heap.size, 0, none⟩) 1 1) [s] := by
  refine .inr ⟨w.heap.size, 0, 1, by simp, rfl, by simp, by unfold maxLen; omega, by simp, ?_⟩
  intro i hi
  simp only [List.length_cons, List.length_nil] at hi
  have : i = 0 := by omega
  subst this
  simp [World.cell?_alloc_at]

/-- The value v is a slice of the call's own, from block 'base' on, that reads as the texts l. -/
def OwnS (base : Nat) (w : World) (v : Value) (l : List ByteArray) : Prop := w.ownsRow base 9 1 v l.length (l.map Value.string)

theorem OwnS.rd {base : Nat} {w : World} {v : Value} {l : List ByteArray} (h : OwnS base w v l) : RdS w v l := by
  rcases h.2 with ⟨hv, hn⟩ | ⟨g, cap, cur, hv, hb, hg, hnc, hcm, hcs, ht⟩
  · exact .inl ⟨none, 0, hv, List.length_eq_zero_iff.1 hn, fun _ => rfl⟩
  · by_cases hl : l = []
    · subst hl; exact .inl ⟨_, _, hv, rfl, fun h => by cases h⟩
    · refine .inr ⟨g, 0, cap, hl, hv, hnc, hcm, ?_, ?_⟩
      · exact (Array.getElem?_eq_some_iff.1 hg).1
      · intro i hi
        have h' : w.ownsRow base 9 1 (.slice (some ⟨g, 0, none⟩) l.length cap) l.length (l.map Value.string) := hv ▸ h
        rw [show 0 + i = i from by omega, h'.cellAt i (by omega)]
        simp [hi]
theorem OwnS.below {B base : Nat} {w w' : World} {v : Value} {l : List ByteArray} (h : OwnS base w v l) (hb : Below B w w') (hB : w.heap.size ≤ B) : OwnS base w' v l := by
  refine ⟨h.1, ?_⟩
  rcases h.2 with h' | ⟨g, cap, cur, hv, hbb, hg, r⟩
  · exact .inl h'
  · refine .inr ⟨g, cap, cur, hv, hbb, ?_, r⟩
    have hlt : g < w.heap.size := (Array.getElem?_eq_some_iff.1 hg).1
    rw [hb.block g (by omega)]; exact hg
theorem OwnS.mono {base base' : Nat} {w : World} {v : Value} {l : List ByteArray} (h : OwnS base w v l) (hB : base' ≤ base) : OwnS base' w v l := by
  refine ⟨h.1, ?_⟩
  rcases h.2 with h' | ⟨g, cap, cur, hv, hbb, r⟩
  · exact .inl h'
  · exact .inr ⟨g, cap, cur, hv, by omega, r⟩
theorem OwnS.kept {base : Nat} {w w' : World} {v : Value} {l : List ByteArray} {row : Option Nat} (h : OwnS base w v l) (hg : w.grownBy w' row) (hne : v.ownBlock = none ∨ v.ownBlock ≠ row) : OwnS base w' v l := World.ownsRow.kept h hg hne
theorem OwnS.ge {base : Nat} {w : World} {v : Value} {l : List ByteArray} (h : OwnS base w v l) : ∀ k, v.ownBlock = some k → base ≤ k := fun k hk => (World.ownsRow.lt h k hk).1
theorem OwnS.lt {base : Nat} {w : World} {v : Value} {l : List ByteArray} (h : OwnS base w v l) : ∀ k, v.ownBlock = some k → k < w.heap.size := fun k hk => (World.ownsRow.lt h k hk).2

theorem Tryz.infoStr : (Tryz.prog.info? 9).map (fun i => (i.zero, i.size, i.bytes)) = some (some (.string ByteArray.empty), 1, 16) := by kernel_rfl

theorem gen_set {α : Type} (M l : List α) (f : α → Value) (j : Nat) (hM : M.length = l.length) (h : j < M.length) : ((M.take j ++ l.drop j).map f).set j (f M[j]) = (M.take (j + 1) ++ l.drop (j + 1)).map f := by
  rw [List.take_succ_eq_append_getElem h, List.drop_eq_getElem_cons (show j < l.length from by omega)]
  simp only [List.map_append, List.map_cons, List.append_assoc, List.singleton_append]
  rw [List.set_append_right _ _ (by simp; omega)]
  simp [show min j M.length = j from by omega]

theorem bytes_ne {a b : ByteArray} (h : a ≠ b) : (a.toList == b.toList) = false := by
  rw [beq_eq_false_iff_ne]
  intro e
  rw [ByteArray.toList_eq, ByteArray.toList_eq] at e
  exact h (ByteArray.ext (Array.toList_inj.1 e))
end Go.Proofs.YtdelegamcebflaaGreatDoor

namespace Go.Proofs.YtdelegamcebflaaGreatDoor
open Go.RowKit
set_option linter.unusedVariables false

/-- An account: its name, what is free, how many orders, what is at stake, what leaves. -/
abbrev Ac := ByteArray × Int × Int × Int × List (Int × Int)
/-- Its value, its list of what leaves being lv. -/
def acV (a : Ac) (lv : Value) : Value := .agg #[.string a.1, .int .i64 a.2.1, .int .i64 a.2.2.1, .int .i64 a.2.2.2.1, lv]


end Go.Proofs.YtdelegamcebflaaGreatDoor

namespace Go.Proofs.YtdelegamcebflaaGreatDoor
open Go.RowKit
set_option linter.unusedVariables false

/-- The account a, its list being lv, lies in block b from place o on. -/
structure AcAt (w : World) (b o : Nat) (a : Ac) (lv : Value) : Prop where
  c0 : w.cell? ⟨b, o, none⟩ = some (.string a.1)
  c1 : w.cell? ⟨b, o + 1, none⟩ = some (.int .i64 a.2.1)
  c2 : w.cell? ⟨b, o + 2, none⟩ = some (.int .i64 a.2.2.1)
  c3 : w.cell? ⟨b, o + 3, none⟩ = some (.int .i64 a.2.2.2.1)
  c4 : w.cell? ⟨b, o + 4, none⟩ = some lv
theorem AcAt.below {w w' : World} {B b o : Nat} {a : Ac} {lv : Value} (h : AcAt w b o a lv) (hb : Below B w w') (hB : b < B) : AcAt w' b o a lv :=
  ⟨(hb.cell (p := ⟨b, o, none⟩) hB).trans h.c0, (hb.cell (p := ⟨b, o + 1, none⟩) hB).trans h.c1, (hb.cell (p := ⟨b, o + 2, none⟩) hB).trans h.c2, (hb.cell (p := ⟨b, o + 3, none⟩) hB).trans h.c3, (hb.cell (p := ⟨b, o + 4, none⟩) hB).trans h.c4⟩
/-- The slice v reads as the accounts l. -/
def RdA (w : World) (v : Value) (l : List Ac) : Prop :=
  (∃ a cap, v = .slice a 0 cap ∧ l = [] ∧ (a = none → cap = 0)) ∨
  ∃ b off cap, l ≠ [] ∧ v = .slice (some ⟨b, off, none⟩) l.length cap ∧ l.length ≤ cap ∧ cap ≤ maxLen ∧ b < w.heap.size ∧
    ∀ i (h : i < l.length), ∃ lv, AcAt w b (off + i * 5) l[i] lv ∧ RdL w lv l[i].2.2.2.2
theorem RdA.shape {w : World} {v : Value} {l : List Ac} (h : RdA w v l) : ∃ a cap, v = .slice a l.length cap := by
  rcases h with ⟨a, cap, rfl, rfl, -⟩ | ⟨b, off, cap, h0, rfl, _⟩
  · exact ⟨a, cap, rfl⟩
  · exact ⟨_, cap, rfl⟩
theorem RdA.below {B : Nat} {w w' : World} {v : Value} {l : List Ac} (h : RdA w v l) (hb : Below B w w') (hB : w.heap.size ≤ B) : RdA w' v l := by
  rcases h with h | ⟨b, off, cap, h0, hv, h1, h2, h3, h4⟩
  · exact .inl h
  · refine .inr ⟨b, off, cap, h0, hv, h1, h2, by have := hb.size; omega, fun i hi => ?_⟩
    obtain ⟨lv, k1, k2⟩ := h4 i hi
    exact ⟨lv, k1.below hb (by omega), k2.below hb hB⟩

def acC (q : Ac × Value) : List Value := [.string q.1.1, .int .i64 q.1.2.1, .int .i64 q.1.2.2.1, .int .i64 q.1.2.2.2.1, q.2]
def acZ : List Value := [.string { data := #[] }, .int .i64 0, .int .i64 0, .int .i64 0, .slice none 0 0]
theorem acM_sz (l : List (Ac × Value)) : ∀ x ∈ l.map acC, x.length = 5 := fun x hx => by obtain ⟨p, _, rfl⟩ := List.mem_map.1 hx; rfl
/-- The lists of what leaves of the pairs Z (an account, and its list) are the call's own, each of its own block, which is not the block 'g'. -/
structure Lvs (base : Nat) (w : World) (g : Nat) (Z : List (Ac × Value)) : Prop where
  own : ∀ i (h : i < Z.length), OwnL base w Z[i].2 Z[i].1.2.2.2.2
  far : ∀ i (h : i < Z.length) k, Z[i].2.ownBlock = some k → k ≠ g
  apart : ∀ i j (hi : i < Z.length) (hj : j < Z.length), i ≠ j → ∀ k, Z[i].2.ownBlock = some k → Z[j].2.ownBlock ≠ some k
/-- The slice v, of the call's own from block 'base' on, reads as the accounts l; each one's list is the call's own, too, and no two share a block. -/
def OwnA (base : Nat) (w : World) (v : Value) (l : List Ac) : Prop :=
  ∃ (g cap : Nat) (Z : List (Ac × Value)), Z.map (·.1) = l ∧ v = .slice (some ⟨g, 0, none⟩) l.length cap ∧ w.ownsRow base 36 5 v l.length (Z.map acC).flatten ∧ Lvs base w g Z

theorem OwnA.rd {base : Nat} {w : World} {v : Value} {l : List Ac} (h : OwnA base w v l) : RdA w v l := by
  obtain ⟨g, cap, Z, hZ, rfl, ho, hl⟩ := h
  have hlen : Z.length = l.length := by rw [← hZ]; simp
  by_cases hn : l = []
  · subst hn; exact .inl ⟨_, _, rfl, rfl, fun h => by cases h⟩
  · rcases ho.2 with ⟨hv, _⟩ | ⟨g', cap', cur, hv, hb, hg, hnc, hcm, hcs, ht⟩
    · cases hv
    · simp only [Value.slice.injEq, Option.some.injEq, Addr.mk.injEq, and_true, true_and] at hv
      obtain ⟨rfl, rfl⟩ := hv
      refine .inr ⟨g, 0, cap, hn, rfl, hnc, hcm, (Array.getElem?_eq_some_iff.1 hg).1, fun i hi => ?_⟩
      have hi' : i < Z.length := by omega
      have e : l[i] = Z[i].1 := by subst hZ; simp
      refine ⟨Z[i].2, ?_, by rw [e]; exact (hl.own i hi').rd⟩
      have cell : ∀ j, j < 5 → w.cell? ⟨g, 0 + i * 5 + j, none⟩ = (acC Z[i])[j]? := fun j hj => by
        rw [Nat.zero_add, ho.cellAt (i * 5 + j) (by omega), flat_get 5 (Z.map acC) i j (by simpa using hi') (acM_sz Z) hj]
        simp
      rw [e]
      exact ⟨by have := cell 0 (by omega); simpa [acC] using this, by have := cell 1 (by omega); simpa [acC] using this, by have := cell 2 (by omega); simpa [acC] using this, by have := cell 3 (by omega); simpa [acC] using this, by have := cell 4 (by omega); simpa [acC] using this⟩

theorem Lvs.below {B base : Nat} {w w' : World} {g : Nat} {Z : List (Ac × Value)} (h : Lvs base w g Z) (hb : Below B w w') (hB : w.heap.size ≤ B) : Lvs base w' g Z :=
  ⟨fun i hi => (h.own i hi).below hb hB, h.far, h.apart⟩
theorem Lvs.set {base : Nat} {w : World} {g : Nat} {Z : List (Ac × Value)} (h : Lvs base w g Z) (j : Nat) (u : Value) : Lvs base (w.setCell ⟨g, j, none⟩ u) g Z :=
  ⟨fun i hi => row_set (h.own i hi) g j u (h.far i hi), h.far, h.apart⟩
theorem Lvs.snoc {base : Nat} {w : World} {g : Nat} {Z : List (Ac × Value)} (h : Lvs base w g Z) (q : Ac × Value) (ho : OwnL base w q.2 q.1.2.2.2.2) (hf : ∀ k, q.2.ownBlock = some k → k ≠ g)
    (hn : ∀ i (hi : i < Z.length) k, Z[i].2.ownBlock = some k → q.2.ownBlock ≠ some k) : Lvs base w g (Z ++ [q]) := by
  have at1 : ∀ i (hi : i < (Z ++ [q]).length), (∃ h' : i < Z.length, (Z ++ [q])[i] = Z[i]) ∨ (i = Z.length ∧ (Z ++ [q])[i] = q) := fun i hi => by
    by_cases h' : i < Z.length
    · exact .inl ⟨h', List.getElem_append_left h'⟩
    · have e : i = Z.length := by simp at hi; omega
      subst e
      exact .inr ⟨rfl, by simp⟩
  refine ⟨fun i hi => ?_, fun i hi k hk => ?_, fun i j hi hj hij k hk => ?_⟩
  · rcases at1 i hi with ⟨h', e⟩ | ⟨_, e⟩
    · rw [e]; exact h.own i h'
    · rw [e]; exact ho
  · rcases at1 i hi with ⟨h', e⟩ | ⟨_, e⟩
    · rw [e] at hk; exact h.far i h' k hk
    · rw [e] at hk; exact hf k hk
  · rcases at1 i hi with ⟨h', e⟩ | ⟨ei, e⟩ <;> rcases at1 j hj with ⟨h2, e2⟩ | ⟨ej, e2⟩
    · rw [e] at hk; rw [e2]; exact h.apart i j h' h2 hij k hk
    · rw [e] at hk; rw [e2]; exact hn i h' k hk
    · rw [e] at hk; rw [e2]; exact fun e3 => hn j h2 k e3 hk
    · omega
theorem OwnA.below {B base : Nat} {w w' : World} {v : Value} {l : List Ac} (h : OwnA base w v l) (hb : Below B w w') (hB : w.heap.size ≤ B) : OwnA base w' v l := by
  obtain ⟨g, cap, Z, hZ, hv, ho, hl⟩ := h
  exact ⟨g, cap, Z, hZ, hv, row_below ho hb hB, hl.below hb hB⟩
theorem Tryz.infoAc : (Tryz.prog.info? 36).map (fun i => (i.zero, i.size, i.bytes)) = some (some (.agg #[.string { data := #[] }, .int .i64 0, .int .i64 0, .int .i64 0, .slice none 0 0]), 5, 64) := by kernel_rfl

end Go.Proofs.YtdelegamcebflaaGreatDoor

namespace Go.Proofs.YtdelegamcebflaaGreatDoor
open Go.RowKit
set_option linter.unusedVariables false

end Go.Proofs.YtdelegamcebflaaGreatDoor
