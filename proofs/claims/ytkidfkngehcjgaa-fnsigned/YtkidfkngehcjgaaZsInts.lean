/- The laws' own helpers over texts: how much there is of them, a copy, and whether two are the same. Slices of numbers: what they read as, what a call owns of them; made anew, held against each other, their size. -/
import Derived.Test.YtkidfkngehcjgaaZsStrs
namespace Go.Proofs.Ytkidfkngehcjgaa
open Go.RowKit
set_option linter.unusedVariables false

def szR (ls : List ByteArray) (m : Nat) : Int := if ls.length + tot ls ≤ m then (m : Int) - ls.length - tot ls else -1

theorem tot_snoc (ls : List ByteArray) (k : Nat) (h : k < ls.length) : tot (ls.take (k + 1)) = tot (ls.take k) + ls[k].size := by
  rw [List.take_succ_eq_append_getElem h]; simp only [tot, List.map_append, List.map_cons, List.map_nil, List.sum_append, List.sum_cons, List.sum_nil]; omega
theorem tot_two (ls : List ByteArray) (k : Nat) (h : k < ls.length) : tot (ls.take k) + ls[k].size ≤ tot ls := by
  rw [← tot_snoc ls k h]; exact tot_take ls _



end Go.Proofs.Ytkidfkngehcjgaa

namespace Go.Proofs.Ytkidfkngehcjgaa
open Go.RowKit
set_option linter.unusedVariables false

theorem int_ne {a b : Int} (h : a ≠ b) : (a != b) = true := by rw [bne_iff_ne]; exact h
/-- The value v is a slice that reads as the numbers l. -/
def RdI (w : World) (v : Value) (l : List Int) : Prop :=
  (∃ a cap, v = .slice a 0 cap ∧ l = [] ∧ (a = none → cap = 0)) ∨
  ∃ b off cap, l ≠ [] ∧ v = .slice (some ⟨b, off, none⟩) l.length cap ∧ l.length ≤ cap ∧ cap ≤ maxLen ∧ b < w.heap.size ∧ ∀ i (h : i < l.length), w.cell? ⟨b, off + i, none⟩ = some (.int .i64 l[i])

theorem RdI.shape {w : World} {v : Value} {l : List Int} (h : RdI w v l) : ∃ a cap, v = .slice a l.length cap := by
  rcases h with ⟨a, cap, rfl, rfl, -⟩ | ⟨b, off, cap, h0, rfl, _⟩
  · exact ⟨a, cap, rfl⟩
  · exact ⟨_, cap, rfl⟩
theorem RdI.below {B : Nat} {w w' : World} {v : Value} {l : List Int} (h : RdI w v l) (hb : Below B w w') (hB : w.heap.size ≤ B) : RdI w' v l := by
  rcases h with h | ⟨b, off, cap, h0, hv, h1, h2, h3, h4⟩
  · exact .inl h
  · exact .inr ⟨b, off, cap, h0, hv, h1, h2, by have := hb.size; omega, fun i hi => (hb.cell (p := ⟨b, off + i, none⟩) (by show b < B; omega)).trans (h4 i hi)⟩
/-- The value v is a slice of the call's own, from block 'base' on, that reads as the numbers l. -/
def OwnI (base : Nat) (w : World) (v : Value) (l : List Int) : Prop := w.ownsRow base 3 1 v l.length (l.map (Value.int .i64))

theorem OwnI.rd {base : Nat} {w : World} {v : Value} {l : List Int} (h : OwnI base w v l) : RdI w v l := by
  rcases h.2 with ⟨hv, hn⟩ | ⟨g, cap, cur, hv, hb, hg, hnc, hcm, hcs, ht⟩
  · exact .inl ⟨none, 0, hv, List.length_eq_zero_iff.1 hn, fun _ => rfl⟩
  · by_cases hl : l = []
    · subst hl; exact .inl ⟨_, _, hv, rfl, fun h => by cases h⟩
    · refine .inr ⟨g, 0, cap, hl, hv, hnc, hcm, ?_, ?_⟩
      · exact (Array.getElem?_eq_some_iff.1 hg).1
      · intro i hi
        have h' : w.ownsRow base 3 1 (.slice (some ⟨g, 0, none⟩) l.length cap) l.length (l.map (Value.int .i64)) := hv ▸ h
        rw [show 0 + i = i from by omega, h'.cellAt i (by omega)]
        simp [hi]
theorem OwnI.below {B base : Nat} {w w' : World} {v : Value} {l : List Int} (h : OwnI base w v l) (hb : Below B w w') (hB : w.heap.size ≤ B) : OwnI base w' v l := by
  refine ⟨h.1, ?_⟩
  rcases h.2 with h' | ⟨g, cap, cur, hv, hbb, hg, r⟩
  · exact .inl h'
  · refine .inr ⟨g, cap, cur, hv, hbb, ?_, r⟩
    have hlt : g < w.heap.size := (Array.getElem?_eq_some_iff.1 hg).1
    rw [hb.block g (by omega)]; exact hg
theorem OwnI.mono {base base' : Nat} {w : World} {v : Value} {l : List Int} (h : OwnI base w v l) (hB : base' ≤ base) : OwnI base' w v l := by
  refine ⟨h.1, ?_⟩
  rcases h.2 with h' | ⟨g, cap, cur, hv, hbb, r⟩
  · exact .inl h'
  · exact .inr ⟨g, cap, cur, hv, by omega, r⟩
theorem OwnI.kept {base : Nat} {w w' : World} {v : Value} {l : List Int} {row : Option Nat} (h : OwnI base w v l) (hg : w.grownBy w' row) (hne : v.ownBlock = none ∨ v.ownBlock ≠ row) : OwnI base w' v l := World.ownsRow.kept h hg hne
theorem OwnI.ge {base : Nat} {w : World} {v : Value} {l : List Int} (h : OwnI base w v l) : ∀ k, v.ownBlock = some k → base ≤ k := fun k hk => (World.ownsRow.lt h k hk).1
theorem OwnI.lt {base : Nat} {w : World} {v : Value} {l : List Int} (h : OwnI base w v l) : ∀ k, v.ownBlock = some k → k < w.heap.size := fun k hk => (World.ownsRow.lt h k hk).2

theorem Try.infoI : (Try.prog.info? 3).map (fun i => (i.zero, i.size, i.bytes)) = some (some (.int .i64 0), 1, 8) := by kernel_rfl
end Go.Proofs.Ytkidfkngehcjgaa
