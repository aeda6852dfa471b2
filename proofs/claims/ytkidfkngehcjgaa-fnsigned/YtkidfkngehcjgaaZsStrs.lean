/- Whether a code is too long for the laws; the shape of what a call owns. Texts in memory: what a slice of texts reads as, what a call owns of them. -/
import Derived.Test.YtkidfkngehcjgaaZsRow
namespace Go.Proofs.Ytkidfkngehcjgaa
open Go.RowKit
set_option linter.unusedVariables false

set_option maxRecDepth 20000 in
theorem big_any (v : Value) (l : List UInt8) (w : World) (hr : RdB w v l) (hl : l.length ≤ 9223372036854775807) :
    Calls Try.prog 4 #[v] w fun e w' => e = .returned (.bool (decide (1048576 < l.length))) ∧ w' = w := by
  obtain ⟨a, cap, rfl⟩ := hr.shape
  clear hr
  by_cases h : 1048576 < l.length
  · have hd := hide (decide_eq_true h)
    go_enter Try.func4, Try.ntmps4
    go_wp2
    go_ret
    exact ⟨ret_bool (by rw [hd.out]; simp; omega), rfl⟩
  · have hd := hide (decide_eq_false h)
    go_enter Try.func4, Try.ntmps4
    go_wp2
    go_ret
    exact ⟨ret_bool (by rw [hd.out]; simp; omega), rfl⟩

theorem OwnB.shape {base : Nat} {w : World} {v : Value} {l : List UInt8} (h : OwnB base w v l) (hl : l ≠ []) : ∃ g cap, v = .slice (some ⟨g, 0, none⟩) l.length cap ∧ l.length ≤ cap ∧ cap ≤ 9223372036854775807 := by
  rcases h.2 with ⟨hv, hn⟩ | ⟨g, cap, cur, hv, hb, hg, hnc, hcm, hcs, ht⟩
  · exact absurd (List.length_eq_zero_iff.1 hn) hl
  · exact ⟨g, cap, hv, hnc, by unfold maxLen at hcm; omega⟩

theorem RdB.cut {w : World} {g cap : Nat} {l : List UInt8} (h : RdB w (.slice (some ⟨g, 0, none⟩) l.length cap) l) (k : Nat) (hk : k ≤ l.length) : RdB w (.slice (some ⟨g, 0, none⟩) k cap) (l.take k) := by
  have hlen : (l.take k).length = k := by simp; omega
  rcases h with ⟨a, c, hv, rfl, hn⟩ | ⟨b, off, c, h0, hv, h1, h2, h3, h4⟩
  · have : k = 0 := by simpa using hk
    subst this
    exact .inl ⟨_, _, rfl, by simp, fun h => by cases h⟩
  · simp only [Value.slice.injEq, Option.some.injEq, Addr.mk.injEq, and_true, true_and] at hv
    obtain ⟨⟨rfl, rfl⟩, rfl⟩ := hv
    by_cases hk0 : k = 0
    · subst hk0; exact .inl ⟨_, _, rfl, by simp, fun h => by cases h⟩
    · refine .inr ⟨g, 0, cap, ?_, by rw [hlen], by omega, h2, h3, ?_⟩
      · intro e; rw [e] at hlen; simp at hlen; omega
      · intro i hi
        rw [h4 i (by omega)]
        simp
end Go.Proofs.Ytkidfkngehcjgaa

namespace Go.Proofs.Ytkidfkngehcjgaa
open Go.RowKit
set_option linter.unusedVariables false

def tot (ls : List ByteArray) : Nat := (ls.map (fun s => s.size)).sum
theorem tot_take : ∀ (ls : List ByteArray) (k : Nat), tot (ls.take k) ≤ tot ls := by
  intro ls
  induction ls with
  | nil => intro k; simp [tot]
  | cons s t ih =>
    intro k
    cases k with
    | zero => simp [tot]
    | succ k =>
      have := ih k
      simp only [tot, List.take_succ_cons, List.map_cons, List.sum_cons] at this ⊢
      omega
theorem tot_at : ∀ (ls : List ByteArray) (k : Nat) (h : k < ls.length), ls[k].size ≤ tot ls := by
  intro ls
  induction ls with
  | nil => intro k h; simp at h
  | cons s t ih =>
    intro k h
    cases k with
    | zero => simp [tot]
    | succ k =>
      have := ih k (by simpa using h)
      simp only [tot, List.getElem_cons_succ, List.map_cons, List.sum_cons] at this ⊢
      omega
/-- The value v is a slice that reads as the texts ls. -/
def RdS (w : World) (v : Value) (l : List ByteArray) : Prop :=
  (∃ a cap, v = .slice a 0 cap ∧ l = [] ∧ (a = none → cap = 0)) ∨
  ∃ b off cap, l ≠ [] ∧ v = .slice (some ⟨b, off, none⟩) l.length cap ∧ l.length ≤ cap ∧ cap ≤ maxLen ∧ b < w.heap.size ∧ ∀ i (h : i < l.length), w.cell? ⟨b, off + i, none⟩ = some (.string l[i])

theorem RdS.shape {w : World} {v : Value} {l : List ByteArray} (h : RdS w v l) : ∃ a cap, v = .slice a l.length cap := by
  rcases h with ⟨a, cap, rfl, rfl, -⟩ | ⟨b, off, cap, h0, rfl, _⟩
  · exact ⟨a, cap, rfl⟩
  · exact ⟨_, cap, rfl⟩
theorem RdS.below {B : Nat} {w w' : World} {v : Value} {l : List ByteArray} (h : RdS w v l) (hb : Below B w w') (hB : w.heap.size ≤ B) : RdS w' v l := by
  rcases h with h | ⟨b, off, cap, h0, hv, h1, h2, h3, h4⟩
  · exact .inl h
  · exact .inr ⟨b, off, cap, h0, hv, h1, h2, by have := hb.size; omega, fun i hi => (hb.cell (p := ⟨b, off + i, none⟩) (by show b < B; omega)).trans (h4 i hi)⟩
theorem rd_one_str (w : World) (s : ByteArray) : RdS (w.alloc (.cells #[.string s] 9)) (.slice (some ⟨w.heap.size, 0, none⟩) 1 1) [s] := by
  refine .inr ⟨w.heap.size, 0, 1, by simp, rfl, by simp, by unfold maxLen; omega, by simp, ?_⟩
  intro i hi
  simp only [List.length_cons, List.length_nil] at hi
  have : i = 0 := by omega
  subst this
  simp [World.cell?_alloc_at]

/-- The value v is a slice of the call's own, from block 'base' on, that reads as the texts l. -/
def OwnS (base : Nat) (w : World) (v : Value) (l : List ByteArray) : Prop := w.ownsRow base 9 1 v l.length (l.map Value.string)

theorem OwnS.rd {base : Nat} {w : World} {v : Value} {l : List ByteArray} (h : OwnS base w v l) : RdS w v l := by
  rcases h.2 with ⟨hv, hn⟩ | ⟨g, cap, cur, hv, hb, hg, hnc, hcm, hcs, ht⟩
  · exact .inl ⟨none, 0, hv, List.length_eq_zero_iff.1 hn, fun _ => rfl⟩
  · by_cases hl : l = []
    · subst hl; exact .inl ⟨_, _, hv, rfl, fun h => by cases h⟩
    · refine .inr ⟨g, 0, cap, hl, hv, hnc, hcm, ?_, ?_⟩
      · exact (Array.getElem?_eq_some_iff.1 hg).1
      · intro i hi
        have h' : w.ownsRow base 9 1 (.slice (some ⟨g, 0, none⟩) l.length cap) l.length (l.map Value.string) := hv ▸ h
        rw [show 0 + i = i from by omega, h'.cellAt i (by omega)]
        simp [hi]
theorem OwnS.below {B base : Nat} {w w' : World} {v : Value} {l : List ByteArray} (h : OwnS base w v l) (hb : Below B w w') (hB : w.heap.size ≤ B) : OwnS base w' v l := by
  refine ⟨h.1, ?_⟩
  rcases h.2 with h' | ⟨g, cap, cur, hv, hbb, hg, r⟩
  · exact .inl h'
  · refine .inr ⟨g, cap, cur, hv, hbb, ?_, r⟩
    have hlt : g < w.heap.size := (Array.getElem?_eq_some_iff.1 hg).1
    rw [hb.block g (by omega)]; exact hg
theorem OwnS.mono {base base' : Nat} {w : World} {v : Value} {l : List ByteArray} (h : OwnS base w v l) (hB : base' ≤ base) : OwnS base' w v l := by
  refine ⟨h.1, ?_⟩
  rcases h.2 with h' | ⟨g, cap, cur, hv, hbb, r⟩
  · exact .inl h'
  · exact .inr ⟨g, cap, cur, hv, by omega, r⟩
theorem OwnS.kept {base : Nat} {w w' : World} {v : Value} {l : List ByteArray} {row : Option Nat} (h : OwnS base w v l) (hg : w.grownBy w' row) (hne : v.ownBlock = none ∨ v.ownBlock ≠ row) : OwnS base w' v l := World.ownsRow.kept h hg hne
theorem OwnS.ge {base : Nat} {w : World} {v : Value} {l : List ByteArray} (h : OwnS base w v l) : ∀ k, v.ownBlock = some k → base ≤ k := fun k hk => (World.ownsRow.lt h k hk).1
theorem OwnS.lt {base : Nat} {w : World} {v : Value} {l : List ByteArray} (h : OwnS base w v l) : ∀ k, v.ownBlock = some k → k < w.heap.size := fun k hk => (World.ownsRow.lt h k hk).2

theorem Try.infoStr : (Try.prog.info? 9).map (fun i => (i.zero, i.size, i.bytes)) = some (some (.string ByteArray.empty), 1, 16) := by kernel_rfl

theorem gen_set {α : Type} (M l : List α) (f : α → Value) (j : Nat) (hM : M.length = l.length) (h : j < M.length) : ((M.take j ++ l.drop j).map f).set j (f M[j]) = (M.take (j + 1) ++ l.drop (j + 1)).map f := by
  rw [List.take_succ_eq_append_getElem h, List.drop_eq_getElem_cons (show j < l.length from by omega)]
  simp only [List.map_append, List.map_cons, List.append_assoc, List.singleton_append]
  rw [List.set_append_right _ _ (by simp; omega)]
  simp [show min j M.length = j from by omega]

theorem bytes_ne {a b : ByteArray} (h : a ≠ b) : (a.toList == b.toList) = false := by
  rw [beq_eq_false_iff_ne]
  intro e
  rw [ByteArray.toList_eq, ByteArray.toList_eq] at e
  exact h (ByteArray.ext (Array.toList_inj.1 e))
end Go.Proofs.Ytkidfkngehcjgaa
