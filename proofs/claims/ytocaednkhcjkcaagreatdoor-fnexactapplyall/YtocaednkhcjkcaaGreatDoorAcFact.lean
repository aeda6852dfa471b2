/- What is given is there, and is all that is more (plain facts on Credit's answer). -/
import Derived.Test.YtocaednkhcjkcaaGreatDoorAcCrImpl
namespace Go.Proofs.YtocaednkhcjkcaaGreatDoor
open Go.RowKit
set_option linter.unusedVariables false

theorem getA_ins (a : Ac) : ∀ l : List Ac, getA a.1 (insA a l) = some a
  | [] => by simp [insA, getA]
  | x :: t => by
    by_cases hl : Lt x.1 a.1
    · rw [insA_lt hl, getA, if_neg (fun e => by rw [e] at hl; exact lt_no _ hl)]
      exact getA_ins a t
    · by_cases he : x.1 = a.1
      · rw [insA_eq he, getA, if_pos rfl]
      · rw [insA_gt (lt_or hl he), getA, if_pos rfl]
theorem getA_ins_other (a : Ac) (s : ByteArray) (hs : s ≠ a.1) : ∀ l : List Ac, getA s (insA a l) = getA s l
  | [] => by simp [insA, getA, hs.symm]
  | x :: t => by
    by_cases hl : Lt x.1 a.1
    · rw [insA_lt hl, getA, getA, getA_ins_other a s hs t]
    · by_cases he : x.1 = a.1
      · rw [insA_eq he, getA, if_neg (fun e => hs e.symm), getA, if_neg (fun e => hs (by rw [← e, he]))]
      · rw [insA_gt (lt_or hl he), getA, if_neg (fun e => hs e.symm)]
theorem getA_at : ∀ {l : List Ac}, AscA l → ∀ k (h : k < l.length), getA l[k].1 l = some l[k]
  | [], _, k, h => by simp at h
  | x :: t, ha, 0, h => by simp [getA]
  | x :: t, ha, k + 1, h => by
    obtain ⟨h1, h2⟩ := List.pairwise_cons.1 ha
    have hk : k < t.length := by simpa using h
    have hlt := h1 t[k] (List.getElem_mem hk)
    simp only [List.getElem_cons_succ]
    unfold getA
    rw [if_neg (fun e => by rw [e] at hlt; exact lt_no _ hlt)]
    exact getA_at h2 k hk
/-- All that an account has, and all accounts, as whole numbers. -/
def amI (l : List (Int × Int)) : Int := (l.map (·.1)).sum
def ofI (a : Ac) : Int := a.2.1 + a.2.2.2.1 + amI a.2.2.2.2
def wsI (l : List Ac) : Int := (l.map ofI).sum
theorem amI_fold : ∀ (l : List (Int × Int)) (z : Int), l.foldl (fun s p => wrap64 (s + p.1)) (wrap64 z) = wrap64 (z + amI l)
  | [], z => by simp [amI]
  | p :: t, z => by
    rw [List.foldl_cons, wrap64_add', amI_fold t (z + p.1)]
    congr 1
    simp [amI]
    omega
theorem ofA_is (a : Ac) : ofA a = wrap64 (ofI a) := by
  unfold ofA ofI
  exact amI_fold _ _
theorem wealth_fold : ∀ (l : List Ac) (z : Int), l.foldl (fun s a => wrap64 (s + ofA a)) (wrap64 z) = wrap64 (z + wsI l)
  | [], z => by simp [wsI]
  | a :: t, z => by
    rw [List.foldl_cons, wrap64_add', ofA_is, wrap64_add, wealth_fold t (z + ofI a)]
    congr 1
    simp [wsI]
    omega
theorem wealth_is (l : List Ac) : wealthA l = wrap64 (wsI l) := by
  have := wealth_fold l 0
  rw [Int.zero_add, show wrap64 0 = 0 from by unfold wrap64; omega] at this
  exact this
theorem wsI_ins (a : Ac) : ∀ l : List Ac, AscA l → wsI (insA a l) = wsI l + ofI a - (match getA a.1 l with
    | some b => ofI b
    | none => 0)
  | [], _ => by simp [insA, getA, wsI]
  | x :: t, h => by
    obtain ⟨h1, h2⟩ := List.pairwise_cons.1 h
    by_cases hl : Lt x.1 a.1
    · have ih := wsI_ins a t h2
      rw [insA_lt hl, getA, if_neg (fun e => by rw [e] at hl; exact lt_no _ hl)]
      simp only [wsI, List.map_cons, List.sum_cons] at ih ⊢
      omega
    · by_cases he : x.1 = a.1
      · rw [insA_eq he, getA, if_pos he]
        simp only [wsI, List.map_cons, List.sum_cons]
        omega
      · have hlt := lt_or hl he
        have hn : getA a.1 t = none := by
          cases hg : getA a.1 t with
          | none => rfl
          | some b =>
            have hb := getA_some hg
            have := lt_tr hlt (h1 b hb.2)
            rw [hb.1] at this
            exact absurd this (lt_no _)
        rw [insA_gt hlt, getA, if_neg he, hn]
        simp only [wsI, List.map_cons, List.sum_cons]
        omega
/-- What was free at the name. -/
def oldA (l : List Ac) (s : ByteArray) : Int := match getA s l with
  | some a => a.2.1
  | none => 0
theorem aft_free (l : List Ac) (s : ByteArray) (n : Int) : (aftA l s n).2.1 = wrap64 (oldA l s + n) := by
  unfold aftA oldA
  cases getA s l <;> rfl
theorem wealth_given (l : List Ac) (s : ByteArray) (n : Int) (ha : AscA l) : wealthA (insA (aftA l s n) l) = wrap64 (wealthA l + n) := by
  rw [wealth_is, wealth_is, wrap64_add', wsI_ins _ l ha, aftA_name]
  unfold aftA
  cases hg : getA s l with
  | some a =>
    simp only [ofI]
    rw [show wsI l + (wrap64 (a.2.1 + n) + a.2.2.2.1 + amI a.2.2.2.2) - (a.2.1 + a.2.2.2.1 + amI a.2.2.2.2) = (wsI l - a.2.1) + wrap64 (a.2.1 + n) from by omega, wrap64_add]
    congr 1
    omega
  | none =>
    simp only [ofI, amI, List.map_nil, List.sum_nil]
    rw [show wsI l + (wrap64 (0 + n) + 0 + 0) - 0 = wsI l + wrap64 (0 + n) from by omega, wrap64_add]
    congr 1
    omega
theorem crA_false {l : List Ac} {s : ByteArray} {n : Int} (h : (crA l s n).2 = false) : (crA l s n).1 = l := by
  unfold crA at h ⊢
  split
  · rename_i h1
    rw [if_pos h1] at h
    split
    · rename_i h2
      rw [if_pos h2] at h
      cases h
    · rfl
  · rfl
theorem crA_true {l : List Ac} {s : ByteArray} {n : Int} (h : (crA l s n).2 = true) : (crA l s n).1 = insA (aftA l s n) l ∧ acsB l = true ∧ acsB (insA (aftA l s n) l) = true := by
  unfold crA at h ⊢
  split at h
  · rename_i h1
    split at h
    · rename_i h2
      rw [if_pos h1, if_pos h2]
      simp only [Bool.and_eq_true] at h1
      exact ⟨rfl, h1.1.1, h2⟩
    · cases h
  · cases h
theorem acs_mem' {l : List Ac} (h : acsB l = true) : ∀ a ∈ l, a.2.2.2.2.length ≤ 4 := by
  intro a ha
  obtain ⟨j, hj, rfl⟩ := List.mem_iff_getElem.1 ha
  unfold acsB at h
  rw [Bool.and_eq_true, List.all_eq_true] at h
  have := h.1 j (List.mem_range.2 hj)
  rw [acAt_eq l j l[j] hj rfl, Bool.and_eq_true] at this
  have h2 := this.1
  unfold acB at h2
  simp only [Bool.and_eq_true, decide_eq_true_eq] at h2
  exact h2.2.2.2.2.1
theorem acs_at {l : List Ac} (h : acsB l = true) (j : Nat) (hj : j < l.length) : acB l[j] = true := by
  unfold acsB at h
  rw [Bool.and_eq_true, List.all_eq_true] at h
  have := h.1 j (List.mem_range.2 hj)
  rw [acAt_eq l j l[j] hj rfl, Bool.and_eq_true] at this
  exact this.1
end Go.Proofs.YtocaednkhcjkcaaGreatDoor
