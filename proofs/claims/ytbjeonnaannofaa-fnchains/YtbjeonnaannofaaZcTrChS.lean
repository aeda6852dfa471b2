/- Chains in a tree, plainly. Chains in a tree, and what extends what, by the model. -/
import Derived.Test.YtbjeonnaannofaaZcTrPure
import Derived.Test.YtbjeonnaannofaaZcTrSpec
import Derived.Test.YtbjeonnaannofaaZcIntApp
namespace Go.Proofs.Ytbjeonnaannofaa
open Go.RowKit
set_option linter.unusedVariables false

theorem low_id {b : Bk} (h : blB b = true) : 0 ≤ b.id := by
  unfold blB inB at h
  simp only [Bool.and_eq_true, decide_eq_true_eq] at h
  omega
theorem root_qb {r b : Int} {ws : List ByteArray} (h : rootB r b ws = true) : b = -1 := by
  unfold rootB at h
  simp only [Bool.and_eq_true, decide_eq_true_eq] at h
  omega
def qbAt (l : List Bk) (i : Nat) : Int := (l[i]?.map (·.qb)).getD (-1)
def idAt (l : List Bk) (i : Nat) : Int := (l[i]?.map (·.id)).getD 0
theorem qbAt_eq {l : List Bk} {i : Nat} (h : i < l.length) : qbAt l i = l[i].qb := by simp [qbAt, h]
theorem idAt_eq {l : List Bk} {i : Nat} (h : i < l.length) : idAt l i = l[i].id := by simp [idAt, h]
/-- The places from the i-th up to the first one behind the root, at most n. -/
def upI (l : List Bk) : Nat → Nat → List Nat
  | 0, _ => []
  | n + 1, i => i :: (if atI l (qbAt l i) < 0 then [] else upI l n (atI l (qbAt l i)).toNat)
def upN (l : List Bk) (i : Nat) : List Nat := upI l (i + 1) i
theorem tree_asc {l : List Bk} (h : treeP l) : AscP l l.length := asc_of (fun i hi _ => h.2 i hi)
theorem at_low {l : List Bk} (h : treeP l) {id : Int} (hi : id < 0) : atI l id = -1 :=
  atI_eq (.inl ⟨rfl, fun j hj e => by have := low_id (h.2 j hj).1; omega⟩)
/-- What the i-th comes behind. -/
theorem par {l : List Bk} (h : treeP l) {i : Nat} (hi : i < l.length) : (atI l l[i].qb = -1 ∧ l[i].qb = -1) ∨ ∃ j, ∃ hj : j < i, atI l l[i].qb = (j : Int) ∧ (l[j]'(by omega)).id = l[i].qb := by
  rcases (h.2 i hi).2.2.2 with r | ⟨j, hj, e, _⟩
  · have := root_qb r
    exact .inl ⟨by rw [this]; exact at_low h (by omega), this⟩
  · exact .inr ⟨j, hj, by rw [← e]; exact atI_asc (tree_asc h) (by omega), e⟩
theorem up_fuel {l : List Bk} (h : treeP l) : ∀ (i n m : Nat), i < l.length → i < n → i < m → upI l n i = upI l m i := by
  intro i
  induction i using Nat.strongRecOn with
  | ind i ih =>
    intro n m hi hn hm
    match n, m, hn, hm with
    | n + 1, m + 1, hn, hm =>
      rw [upI, upI, qbAt_eq hi]
      rcases par h hi with ⟨e, _⟩ | ⟨j, hj, e, _⟩
      · rw [e, if_pos (by omega), if_pos (by omega)]
      · rw [e, if_neg (by omega), if_neg (by omega)]
        simp only [Int.toNat_natCast]
        rw [ih j hj n m (by omega) (by omega) (by omega)]
theorem up_root {l : List Bk} (h : treeP l) {i : Nat} (hi : i < l.length) (e : atI l l[i].qb = -1) : upN l i = [i] := by
  rw [upN, upI, qbAt_eq hi, e, if_pos (by omega)]
theorem up_step {l : List Bk} (h : treeP l) {i j : Nat} (hi : i < l.length) (hj : j < i) (e : atI l l[i].qb = (j : Int)) : upN l i = i :: upN l j := by
  rw [upN, upI, qbAt_eq hi, e, if_neg (by omega), Int.toNat_natCast, up_fuel h j i (j + 1) (by omega) hj (by omega)]
  rfl
theorem up_pos {l : List Bk} (i : Nat) : 0 < (upN l i).length := by rw [upN, upI]; simp
theorem up_mem {l : List Bk} (h : treeP l) : ∀ (i : Nat), i < l.length → ∀ x ∈ upN l i, x ≤ i := by
  intro i
  induction i using Nat.strongRecOn with
  | ind i ih =>
    intro hi x hx
    rcases par h hi with ⟨e, _⟩ | ⟨j, hj, e, _⟩
    · rw [up_root h hi e] at hx
      simp at hx; omega
    · rw [up_step h hi hj e] at hx
      rcases List.mem_cons.1 hx with rfl | hx
      · omega
      · have := ih j hj (by omega) x hx; omega
theorem up_len {l : List Bk} (h : treeP l) : ∀ (i : Nat), i < l.length → (upN l i).length ≤ i + 1 := by
  intro i
  induction i using Nat.strongRecOn with
  | ind i ih =>
    intro hi
    rcases par h hi with ⟨e, _⟩ | ⟨j, hj, e, _⟩
    · rw [up_root h hi e]; simp
    · rw [up_step h hi hj e]
      have := ih j hj (by omega)
      simp; omega
/-- The places from the first one behind the root to the number id. -/
def chA (l : List Bk) (id : Int) : List Nat := if atI l id < 0 then [] else (upN l (atI l id).toNat).reverse
theorem at_lt {l : List Bk} {id : Int} (h : 0 ≤ atI l id) : ∃ k, ∃ hk : k < l.length, atI l id = (k : Int) ∧ l[k].id = id := by
  rcases atI_is l id with ⟨e, _⟩ | ⟨k, hk, e, f, _⟩
  · omega
  · exact ⟨k, hk, e, f⟩
theorem chA_none {l : List Bk} {id : Int} (h : atI l id < 0) : chA l id = [] := by rw [chA, if_pos h]
theorem chA_step {l : List Bk} (h : treeP l) {id : Int} {k : Nat} (hk : k < l.length) (e : atI l id = (k : Int)) : chA l id = chA l l[k].qb ++ [k] := by
  rw [chA, if_neg (by omega), e, Int.toNat_natCast]
  rcases par h hk with ⟨e2, _⟩ | ⟨j, hj, e2, _⟩
  · rw [up_root h hk e2, chA_none (by omega)]; rfl
  · rw [up_step h hk hj e2, chA, e2, if_neg (by omega), Int.toNat_natCast, List.reverse_cons]
theorem chA_len {l : List Bk} (h : treeP l) (id : Int) : (chA l id).length ≤ l.length := by
  by_cases hn : atI l id < 0
  · rw [chA_none hn]; simp
  · obtain ⟨k, hk, e, _⟩ := at_lt (l := l) (id := id) (by omega)
    rw [chA, if_neg hn, e, Int.toNat_natCast, List.length_reverse]
    have := up_len h k hk
    omega
theorem chA_lt {l : List Bk} (h : treeP l) (id : Int) : ∀ x ∈ chA l id, x < l.length := by
  intro x hx
  by_cases hn : atI l id < 0
  · rw [chA_none hn] at hx; simp at hx
  · obtain ⟨k, hk, e, _⟩ := at_lt (l := l) (id := id) (by omega)
    rw [chA, if_neg hn, e, Int.toNat_natCast, List.mem_reverse] at hx
    have := up_mem h k hk x hx
    omega
/-- What ChainOf answers. -/
def coA (l : List Bk) (id : Int) : List Int := if treeB l = true then (chA l id).map (idAt l) else []
/-- What Extends answers. -/
def exB (l : List Bk) (a b : Int) : Bool := treeB l && (if a = -1 then (decide (b = -1) || decide (0 ≤ atI l b)) else ((chA l b).map (idAt l)).any (fun x => decide (x = a)))
/-- The length of a slice. -/
def slen : Value → Nat
  | .slice _ n _ => n
  | _ => 0
end Go.Proofs.Ytbjeonnaannofaa

namespace Go.Proofs.Ytbjeonnaannofaa
open Go.RowKit
set_option linter.unusedVariables false

theorem RdKs.parts9 {w : World} {a : Option Addr} {cap : Nat} {l : List Bk} (h : RdKs w (.slice a l.length cap) l) (hl : 0 < l.length) : ∃ b off, a = some ⟨b, off, none⟩ ∧ b < w.heap.size ∧ ∀ i (h : i < l.length), ∃ bv, BkAt w b (off + i * 14) l[i] bv ∧ RdK w l[i] bv := by
  rcases h with ⟨a', cap', e, rfl, hn⟩ | ⟨b, off, cap', h0, e, h1, h2, h3, h4⟩
  · simp at hl
  · simp only [Value.slice.injEq] at e
    exact ⟨b, off, e.1, h3, h4⟩
/-- A place as a number. -/
def ofN (i : Nat) : Int := (i : Int)
/-- How far the walk up a chain is: 'out' is its end, and what is left is the chain of id. -/
structure UpTo (l : List Bk) (id0 id : Int) (O : List Nat) : Prop where
  all : chA l id0 = chA l id ++ O
  there : O = [] ∨ id < 0 ∨ 0 ≤ atI l id
theorem UpTo.next {l : List Bk} (ht : treeP l) {id0 id : Int} {O : List Nat} (h : UpTo l id0 id O) {k : Nat} (hk : k < l.length) (e : atI l id = (k : Int)) : UpTo l id0 l[k].qb (k :: O) := by
  refine ⟨?_, ?_⟩
  · rw [h.all, chA_step ht hk e, List.append_assoc]; rfl
  · rcases par ht hk with ⟨_, q⟩ | ⟨j, hj, q, _⟩
    · exact .inr (.inl (by omega))
    · exact .inr (.inr (by omega))
theorem UpTo.len {l : List Bk} (ht : treeP l) {id0 id : Int} {O : List Nat} (h : UpTo l id0 id O) : O.length ≤ l.length := by
  have := chA_len ht id0
  rw [h.all] at this
  simp at this
  omega
theorem RdI.cellI {w : World} {a : Option Addr} {cap : Nat} {l : List Int} {n : Nat} (h : RdI w (.slice a n cap) l) (hn : n = l.length) {k : Nat} (hk : k < l.length) : ∃ b off, a = some ⟨b, off, none⟩ ∧ b < w.heap.size ∧ w.cell? ⟨b, off + k, none⟩ = some (.int .i64 l[k]) := by
  rcases h with ⟨a', cap', e, rfl, hn⟩ | ⟨b, off, cap', h0, e, h1, h2, h3, h4⟩
  · simp at hk
  · simp only [Value.slice.injEq] at e
    exact ⟨b, off, e.1, h3, h4 k hk⟩
end Go.Proofs.Ytbjeonnaannofaa
