/- What the next epoch frees (plain facts). -/
import Derived.Test.YtknmjahipekgpaaLgNext
import Derived.Test.YtknmjahipekgpaaLgRow
namespace Go.Proofs.Ytknmjahipekgpaa
open Go.RowKit
set_option linter.unusedVariables false

theorem frF_cons (e z : Int) (p : Int × Int) (l : List (Int × Int)) : frF e z (p :: l) = frF e (if p.2 ≤ e then wrap64 (z + p.1) else z) l := rfl
theorem frF_up (e : Int) : ∀ (l : List (Int × Int)) (z : Int), (∀ p ∈ l, 1 ≤ p.1 ∧ p.1 ≤ 1000000) → 0 ≤ z → z + 1000000 * (l.length : Int) ≤ 1000000000000 → z ≤ frF e z l
  | [], z, _, _, _ => Int.le_refl _
  | p :: l, z, h, h0, h1 => by
    have hp := h p List.mem_cons_self
    have hr : ∀ q ∈ l, 1 ≤ q.1 ∧ q.1 ≤ 1000000 := fun q hq => h q (List.mem_cons_of_mem _ hq)
    simp only [List.length_cons] at h1
    rw [frF_cons]
    split
    · have hw : wrap64 (z + p.1) = z + p.1 := by unfold wrap64; omega
      rw [hw]
      have := frF_up e l (z + p.1) hr (by omega) (by omega)
      omega
    · exact frF_up e l z hr h0 (by omega)
theorem lvs_in {l : List (Int × Int)} (h : lvsB l = true) : ∀ p ∈ l, 1 ≤ p.1 ∧ p.1 ≤ 1000000 := by
  intro p hp
  obtain ⟨j, hj, rfl⟩ := List.mem_iff_getElem.1 hp
  unfold lvsB at h
  rw [List.all_eq_true] at h
  have := h j (List.mem_range.2 hj)
  unfold lvAt at this
  rw [List.getD_eq_getElem?_getD, List.getElem?_eq_getElem hj] at this
  simp only [Bool.and_eq_true] at this
  have h1 := this.1
  unfold inB at h1
  simpa using h1
theorem ac_some {a : Ac} (h : acB a = true) : 0 ≤ a.2.1 ∧ a.2.1 ≤ 1000000 ∧ a.2.2.2.2.length ≤ 4 ∧ lvsB a.2.2.2.2 = true := by
  unfold acB inB at h
  simp only [Bool.and_eq_true, decide_eq_true_eq] at h
  exact ⟨h.2.1.1, h.2.1.2, h.2.2.2.2.1, h.2.2.2.2.2⟩
theorem frA_up {a : Ac} (e : Int) (h : acB a = true) : a.2.1 ≤ (frA e a).2.1 := by
  obtain ⟨h1, h2, h3, h4⟩ := ac_some h
  exact frF_up e a.2.2.2.2 a.2.1 (lvs_in h4) h1 (by omega)
theorem stL_late (e : Int) (l : List (Int × Int)) : ∀ p ∈ stL e l, e < p.2 := fun p hp => by
  unfold stL at hp
  simpa using (List.mem_filter.1 hp).2
/-- What the law asks of the accounts of the next epoch. -/
def Fr (E : Int) (l P : List Ac) : Prop := P.length = l.length ∧ ∀ i (h : i < l.length) (h' : i < P.length), P[i].2.2.2.1 = l[i].2.2.2.1 ∧ l[i].2.1 ≤ P[i].2.1 ∧ ∀ p ∈ P[i].2.2.2.2, E < p.2
theorem ne_len (e : Int) (l : List Ac) : (neA e l).2.length = l.length := by
  unfold neA
  split <;> simp
theorem ne_fr {e : Int} {l : List Ac} (h : (neA e l).1 ≠ e) : (neA e l).1 = e + 1 ∧ wrap64 (e + 1) = e + 1 ∧ Fr (neA e l).1 l (neA e l).2 := by
  unfold neA at h ⊢
  split
  · rename_i hc
    rw [if_pos hc] at h
    rw [Bool.and_eq_true] at hc
    have hl := hc.1
    unfold lgB at hl
    rw [Bool.and_eq_true] at hl
    have he : 0 ≤ e ∧ e ≤ 900 := by have := hl.1; unfold inB at this; simpa using this
    have hw : wrap64 (e + 1) = e + 1 := by unfold wrap64; omega
    refine ⟨hw, hw, by simp, fun i hi hi' => ?_⟩
    have hac : acB l[i] = true := by
      have h2 := hl.2
      unfold acsB at h2
      rw [Bool.and_eq_true, List.all_eq_true] at h2
      have := h2.1 i (List.mem_range.2 hi)
      rw [acAt_eq l i l[i] hi rfl, Bool.and_eq_true] at this
      exact this.1
    simp only [List.getElem_map]
    exact ⟨rfl, frA_up _ hac, fun p hp => stL_late _ _ p hp⟩
  · rename_i hc
    rw [if_neg hc] at h
    exact absurd rfl h
theorem RdA.at {w : World} {a : Option Addr} {cap i : Nat} {l : List Ac} (h : RdA w (.slice a l.length cap) l) (hi : i < l.length) :
    ∃ b off lv, a = some ⟨b, off, none⟩ ∧ l.length ≤ cap ∧ cap ≤ maxLen ∧ b < w.heap.size ∧ AcAt w b (off + i * 5) l[i] lv ∧ RdL w lv l[i].2.2.2.2 := by
  rcases h with ⟨a', cap', e, rfl, -⟩ | ⟨b, off, cap', h0, e, h1, h2, h3, h4⟩
  · simp at hi
  · simp only [Value.slice.injEq, true_and] at e
    obtain ⟨rfl, rfl⟩ := e
    obtain ⟨lv, q1, q2⟩ := h4 i hi
    exact ⟨b, off, lv, rfl, h1, h2, h3, q1, q2⟩
end Go.Proofs.Ytknmjahipekgpaa
