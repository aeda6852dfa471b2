/- Chains in a tree, and what extends what, by the model. -/
import Derived.Test.YtkidfkngehcjgaaZsTrSpec
import Derived.Test.YtkidfkngehcjgaaZsTrChain
import Derived.Test.YtkidfkngehcjgaaZsIntApp
namespace Go.Proofs.Ytkidfkngehcjgaa
open Go.RowKit
set_option linter.unusedVariables false

theorem RdKs.parts9 {w : World} {a : Option Addr} {cap : Nat} {l : List Bk} (h : RdKs w (.slice a l.length cap) l) (hl : 0 < l.length) : ∃ b off, a = some ⟨b, off, none⟩ ∧ b < w.heap.size ∧ ∀ i (h : i < l.length), ∃ bv, BkAt w b (off + i * 14) l[i] bv ∧ RdK w l[i] bv := by
  rcases h with ⟨a', cap', e, rfl, hn⟩ | ⟨b, off, cap', h0, e, h1, h2, h3, h4⟩
  · simp at hl
  · simp only [Value.slice.injEq] at e
    exact ⟨b, off, e.1, h3, h4⟩
/-- A place as a number. -/
def ofN (i : Nat) : Int := (i : Int)
/-- How far the walk up a chain is: 'out' is its end, and what is left is the chain of id. -/
structure UpTo (l : List Bk) (id0 id : Int) (O : List Nat) : Prop where
  all : chA l id0 = chA l id ++ O
  there : O = [] ∨ id < 0 ∨ 0 ≤ atI l id
theorem UpTo.next {l : List Bk} (ht : treeP l) {id0 id : Int} {O : List Nat} (h : UpTo l id0 id O) {k : Nat} (hk : k < l.length) (e : atI l id = (k : Int)) : UpTo l id0 l[k].qb (k :: O) := by
  refine ⟨?_, ?_⟩
  · rw [h.all, chA_step ht hk e, List.append_assoc]; rfl
  · rcases par ht hk with ⟨_, q⟩ | ⟨j, hj, q, _⟩
    · exact .inr (.inl (by omega))
    · exact .inr (.inr (by omega))
theorem UpTo.len {l : List Bk} (ht : treeP l) {id0 id : Int} {O : List Nat} (h : UpTo l id0 id O) : O.length ≤ l.length := by
  have := chA_len ht id0
  rw [h.all] at this
  simp at this
  omega
theorem RdI.cellI {w : World} {a : Option Addr} {cap : Nat} {l : List Int} {n : Nat} (h : RdI w (.slice a n cap) l) (hn : n = l.length) {k : Nat} (hk : k < l.length) : ∃ b off, a = some ⟨b, off, none⟩ ∧ b < w.heap.size ∧ w.cell? ⟨b, off + k, none⟩ = some (.int .i64 l[k]) := by
  rcases h with ⟨a', cap', e, rfl, hn⟩ | ⟨b, off, cap', h0, e, h1, h2, h3, h4⟩
  · simp at hk
  · simp only [Value.slice.injEq] at e
    exact ⟨b, off, e.1, h3, h4 k hk⟩
end Go.Proofs.Ytkidfkngehcjgaa
