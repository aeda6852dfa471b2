/- Where a block comes in a tree: the place that the code takes and the place that the model takes (plain). -/
import Derived.Test.YtbjeonnaannofaaZdKsAdd
namespace Go.Proofs.Ytbjeonnaannofaa
open Go.RowKit
set_option linter.unusedVariables false

/-- The first place whose number is not below. -/
def fiF (l : List Bk) (d : Int) : Nat := l.findIdx (fun x => decide (d ≤ x.id))
theorem fiF_le (l : List Bk) (d : Int) : fiF l d ≤ l.length := List.findIdx_le_length
/-- What the code's AddTo answers. -/
def adI (l : List Bk) (b : Bk) : List Bk × Bool := if treeB (insK (fiF l b.id) b l) = true then (insK (fiF l b.id) b l, true) else (l, false)
theorem asc_pair {l : List Bk} (h : AscP l l.length) {i j : Nat} (hi : i < l.length) (hj : j < l.length) (hij : i < j) : l[i].id < l[j].id := h i j hi hj hij hj
/-- Where what comes is a tree, the numbers ahead of b are below, those behind it above. -/
theorem ins_sides {l : List Bk} {b : Bk} {k : Nat} (hk : k ≤ l.length) (ht : treeP (insK k b l)) : (∀ i (h : i < l.length), i < k → l[i].id < b.id) ∧ ∀ i (h : i < l.length), k ≤ i → b.id < l[i].id := by
  have ha := tree_asc ht
  have hl : (insK k b l).length = l.length + 1 := insK_len
  have hb : (insK k b l)[k]'(by omega) = b := insK_at hk (by omega)
  refine ⟨fun i h hik => ?_, fun i h hik => ?_⟩
  · have h1 := asc_pair ha (i := i) (j := k) (by omega) (by omega) hik
    have e1 : (insK k b l)[i]'(by omega) = l[i] := by
      have := insK_get (b := b) hk i
      rw [if_pos hik, List.getElem?_eq_getElem (show i < (insK k b l).length by omega), List.getElem?_eq_getElem h] at this
      exact Option.some.inj this
    rw [e1, hb] at h1
    exact h1
  · have h1 := asc_pair ha (i := k) (j := i + 1) (by omega) (by omega) (by omega)
    have e1 : (insK k b l)[i + 1]'(by omega) = l[i] := by
      have := insK_get (b := b) hk (i + 1)
      rw [if_neg (by omega), if_neg (by omega), Nat.add_sub_cancel, List.getElem?_eq_getElem (show i + 1 < (insK k b l).length by omega), List.getElem?_eq_getElem h] at this
      exact Option.some.inj this
    rw [e1, hb] at h1
    exact h1
theorem fi_is {l : List Bk} {d : Int} {k : Nat} (hk : k ≤ l.length) (h1 : ∀ i (h : i < l.length), i < k → l[i].id < d) (h2 : ∀ i (h : i < l.length), k ≤ i → d < l[i].id) : fiF l d = k := by
  unfold fiF
  by_cases h : k < l.length
  · rw [List.findIdx_eq h]
    refine ⟨by have := h2 k h (Nat.le_refl _); simp; omega, fun j hj => ?_⟩
    have := h1 j (by omega) hj
    simp; omega
  · obtain rfl : k = l.length := by omega
    rw [List.findIdx_eq_length]
    intro x hx
    obtain ⟨i, hi, rfl⟩ := List.mem_iff_getElem.1 hx
    have := h1 i hi hi
    simp; omega
theorem bu_is {l : List Bk} {d : Int} {k : Nat} (h1 : ∀ i (h : i < l.length), i < k → l[i].id < d) (h2 : ∀ i (h : i < l.length), k ≤ i → d < l[i].id) : ∀ n, n ≤ l.length → k ≤ n → buF l d n = k
  | 0, _, hk => by unfold buF; omega
  | n + 1, hn, hk => by
    show (if d < idAt l n then buF l d n else n + 1) = k
    rw [idAt_eq (show n < l.length by omega)]
    by_cases h : k ≤ n
    · rw [if_pos (h2 n (by omega) h)]
      exact bu_is h1 h2 n (by omega) h
    · have h3 := h1 n (by omega) (by omega)
      rw [if_neg (by omega)]
      omega
theorem at_none {l : List Bk} {d : Int} {k : Nat} (h1 : ∀ i (h : i < l.length), i < k → l[i].id < d) (h2 : ∀ i (h : i < l.length), k ≤ i → d < l[i].id) : atI l d = -1 :=
  atI_eq (.inl ⟨rfl, fun j hj e => by
    by_cases h : j < k
    · have := h1 j hj h; omega
    · have := h2 j hj (by omega); omega⟩)
/-- Both answer alike. -/
theorem ad_same (l : List Bk) (b : Bk) : adI l b = adS l b := by
  unfold adI adS
  by_cases hF : treeB (insK (fiF l b.id) b l) = true
  · obtain ⟨h1, h2⟩ := ins_sides (fiF_le l b.id) (treeP_of hF)
    have e1 := bu_is h1 h2 l.length (Nat.le_refl _) (fiF_le l b.id)
    have e2 := at_none h1 h2
    rw [if_pos hF, e2, if_neg (by omega), e1, if_pos hF]
  · rw [if_neg hF]
    by_cases ha : 0 ≤ atI l b.id
    · rw [if_pos ha]
    · rw [if_neg ha]
      by_cases hK : treeB (insK (buF l b.id l.length) b l) = true
      · obtain ⟨h1, h2⟩ := ins_sides (buF_le l b.id l.length) (treeP_of hK)
        have e1 := fi_is (buF_le l b.id l.length) h1 h2
        rw [e1] at hF
        exact absurd hK hF
      · rw [if_neg hK]
end Go.Proofs.Ytbjeonnaannofaa
