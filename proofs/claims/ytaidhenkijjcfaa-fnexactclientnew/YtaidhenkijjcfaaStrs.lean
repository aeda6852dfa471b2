/- Texts in memory: what a slice of texts reads as, what a call owns of them. -/
import Derived.Test.YtaidhenkijjcfaaMem
namespace Go.Proofs.Ytaidhenkijjcfaa
open Go.RowKit
set_option linter.unusedVariables false

def tot (ls : List ByteArray) : Nat := (ls.map (fun s => s.size)).sum
theorem tot_take : ∀ (ls : List ByteArray) (k : Nat), tot (ls.take k) ≤ tot ls := by
  intro ls
  induction ls with
  | nil => intro k; simp [tot]
  | cons s t ih =>
    intro k
    cases k with
    | zero => simp [tot]
    | succ k =>
      have := ih k
      simp only [tot, List.take_succ_cons, List.map_cons, List.sum_cons] at this ⊢
      omega
theorem tot_at : ∀ (ls : List ByteArray) (k : Nat) (h : k < ls.length), ls[k].size ≤ tot ls := by
  intro ls
  induction ls with
  | nil => intro k h; simp at h
  | cons s t ih =>
    intro k h
    cases k with
    | zero => simp [tot]
    | succ k =>
      have := ih k (by simpa using h)
      simp only [tot, List.getElem_cons_succ, List.map_cons, List.sum_cons] at this ⊢
      omega
/-- The value v is a slice that reads as the texts ls. -/
def RdS (w : World) (v : Value) (l : List ByteArray) : Prop :=
  (∃ a cap, v = .slice a 0 cap ∧ l = [] ∧ (a = none → cap = 0)) ∨
  ∃ b off cap, l ≠ [] ∧ v = .slice (some ⟨b, off, none⟩) l.length cap ∧ l.length ≤ cap ∧ cap ≤ maxLen ∧ b < w.heap.size ∧ ∀ i (h : i < l.length), w.cell? ⟨b, off + i, none⟩ = some (.string l[i])

theorem RdS.shape {w : World} {v : Value} {l : List ByteArray} (h : RdS w v l) : ∃ a cap, v = .slice a l.length cap := by
  rcases h with ⟨a, cap, rfl, rfl, -⟩ | ⟨b, off, cap, h0, rfl, _⟩
  · exact ⟨a, cap, rfl⟩
  · exact ⟨_, cap, rfl⟩
theorem RdS.below {B : Nat} {w w' : World} {v : Value} {l : List ByteArray} (h : RdS w v l) (hb : Below B w w') (hB : w.heap.size ≤ B) : RdS w' v l := by
  rcases h with h | ⟨b, off, cap, h0, hv, h1, h2, h3, h4⟩
  · exact .inl h
  · exact .inr ⟨b, off, cap, h0, hv, h1, h2, by have := hb.size; omega, fun i hi => (hb.cell (p := ⟨b, off + i, none⟩) (by show b < B; omega)).trans (h4 i hi)⟩
theorem rd_one_str (w : World) (s : ByteArray) : RdS (w.alloc (.cells #[.string s] 9)) (.slice (some ⟨w.heap.size, 0, none⟩) 1 1) [s] := by
  refine .inr ⟨w.heap.size, 0, 1, by simp, rfl, by simp, by unfold maxLen; omega, by simp, ?_⟩
  intro i hi
  simp only [List.length_cons, List.length_nil] at hi
  have : i = 0 := by omega
  subst this
  simp [World.cell?_alloc_at]

/-- The value v is a slice of the call's own, from block 'base' on, that reads as the texts l. -/
def OwnS (base : Nat) (w : World) (v : Value) (l : List ByteArray) : Prop := w.ownsRow base 9 1 v l.length (l.map Value.string)

theorem OwnS.rd {base : Nat} {w : World} {v : Value} {l : List ByteArray} (h : OwnS base w v l) : RdS w v l := by
  rcases h.2 with ⟨hv, hn⟩ | ⟨g, cap, cur, hv, hb, hg, hnc, hcm, hcs, ht⟩
  · exact .inl ⟨none, 0, hv, List.length_eq_zero_iff.1 hn, fun _ => rfl⟩
  · by_cases hl : l = []
    · subst hl; exact .inl ⟨_, _, hv, rfl, fun h => by cases h⟩
    · refine .inr ⟨g, 0, cap, hl, hv, hnc, hcm, ?_, ?_⟩
      · exact (Array.getElem?_eq_some_iff.1 hg).1
      · intro i hi
        have h' : w.ownsRow base 9 1 (.slice (some ⟨g, 0, none⟩) l.length cap) l.length (l.map Value.string) := hv ▸ h
        rw [show 0 + i = i from by omega, h'.cellAt i (by omega)]
        simp [hi]
theorem OwnS.below {B base : Nat} {w w' : World} {v : Value} {l : List ByteArray} (h : OwnS base w v l) (hb : Below B w w') (hB : w.heap.size ≤ B) : OwnS base w' v l := by
  refine ⟨h.1, ?_⟩
  rcases h.2 with h' | ⟨g, cap, cur, hv, hbb, hg, r⟩
  · exact .inl h'
  · refine .inr ⟨g, cap, cur, hv, hbb, ?_, r⟩
    have hlt : g < w.heap.size := (Array.getElem?_eq_some_iff.1 hg).1
    rw [hb.block g (by omega)]; exact hg
theorem OwnS.mono {base base' : Nat} {w : World} {v : Value} {l : List ByteArray} (h : OwnS base w v l) (hB : base' ≤ base) : OwnS base' w v l := by
  refine ⟨h.1, ?_⟩
  rcases h.2 with h' | ⟨g, cap, cur, hv, hbb, r⟩
  · exact .inl h'
  · exact .inr ⟨g, cap, cur, hv, by omega, r⟩
theorem OwnS.kept {base : Nat} {w w' : World} {v : Value} {l : List ByteArray} {row : Option Nat} (h : OwnS base w v l) (hg : w.grownBy w' row) (hne : v.ownBlock = none ∨ v.ownBlock ≠ row) : OwnS base w' v l := World.ownsRow.kept h hg hne
theorem OwnS.ge {base : Nat} {w : World} {v : Value} {l : List ByteArray} (h : OwnS base w v l) : ∀ k, v.ownBlock = some k → base ≤ k := fun k hk => (World.ownsRow.lt h k hk).1
theorem OwnS.lt {base : Nat} {w : World} {v : Value} {l : List ByteArray} (h : OwnS base w v l) : ∀ k, v.ownBlock = some k → k < w.heap.size := fun k hk => (World.ownsRow.lt h k hk).2

theorem Try.infoStr : (Try.prog.info? 9).map (fun i => (i.zero, i.size, i.bytes)) = some (some (.string ByteArray.empty), 1, 16) := by kernel_rfl

theorem gen_set {α : Type} (M l : List α) (f : α → Value) (j : Nat) (hM : M.length = l.length) (h : j < M.length) : ((M.take j ++ l.drop j).map f).set j (f M[j]) = (M.take (j + 1) ++ l.drop (j + 1)).map f := by
  rw [List.take_succ_eq_append_getElem h, List.drop_eq_getElem_cons (show j < l.length from by omega)]
  simp only [List.map_append, List.map_cons, List.append_assoc, List.singleton_append]
  rw [List.set_append_right _ _ (by simp; omega)]
  simp [show min j M.length = j from by omega]

theorem bytes_ne {a b : ByteArray} (h : a ≠ b) : (a.toList == b.toList) = false := by
  rw [beq_eq_false_iff_ne]
  intro e
  rw [ByteArray.toList_eq, ByteArray.toList_eq] at e
  exact h (ByteArray.ext (Array.toList_inj.1 e))
end Go.Proofs.Ytaidhenkijjcfaa
