/- The landed code's Credit. What is given is there, and is all that is more (plain facts on Credit's answer). -/
import Derived.Test.YtggkonpboahdeaaGreatDoorZlAcGive
namespace Go.Proofs.YtggkonpboahdeaaGreatDoor
open Go.RowKit Go.Maps
set_option linter.unusedVariables false

theorem crA_good {l : List Ac} {s : ByteArray} {n : Int} (h : (acsB l && nmB s && inB n 0 1000000) = true) : crA l s n = (leftA l (insA (aftA l s n) l), acsB (insA (aftA l s n) l)) := by
  cases h' : acsB (insA (aftA l s n) l)
  · rw [crA_bad h h', leftA_no h']
  · rw [crA_yes h h', leftA_yes h']
theorem acs_len {l : List Ac} (h : acsB l = true) : l.length ≤ 12 := by
  unfold acsB at h
  simp only [Bool.and_eq_true, decide_eq_true_eq] at h
  exact h.2.1
theorem insA_mem (q : Ac) : ∀ (Z : List Ac) (p : Ac), p ∈ insA q Z → p = q ∨ p ∈ Z
  | [], p, h => by simp [insA] at h; exact .inl h
  | x :: t, p, h => by
    unfold insA at h
    split at h
    · rcases List.mem_cons.1 h with rfl | h
      · exact .inr List.mem_cons_self
      · rcases insA_mem q t p h with h | h
        · exact .inl h
        · exact .inr (List.mem_cons_of_mem _ h)
    · split at h
      · rcases List.mem_cons.1 h with rfl | h
        · exact .inl rfl
        · exact .inr (List.mem_cons_of_mem _ h)
      · rcases List.mem_cons.1 h with rfl | h
        · exact .inl rfl
        · exact .inr h
theorem insA_len (q : Ac) : ∀ Z : List Ac, (insA q Z).length ≤ Z.length + 1
  | [] => by simp [insA]
  | x :: t => by
    have := insA_len q t
    unfold insA
    split
    · simp; omega
    · split <;> simp
theorem aftA_name (l : List Ac) (s : ByteArray) (n : Int) : (aftA l s n).1 = s := by
  unfold aftA
  cases getA s l <;> rfl
theorem leftA_len (l : List Ac) (s : ByteArray) (n : Int) : (leftA l (insA (aftA l s n) l)).length ≤ l.length + 1 := by
  unfold leftA
  split
  · exact insA_len _ _
  · omega
theorem leftA_mem {l : List Ac} {s : ByteArray} {n : Int} {p : Ac} (h : p ∈ leftA l (insA (aftA l s n) l)) : p.1 = s ∨ p ∈ l := by
  unfold leftA at h
  split at h
  · rcases insA_mem _ _ _ h with rfl | h
    · exact .inl (aftA_name l s n)
    · exact .inr h
  · exact .inr h

set_option maxRecDepth 20000 in
set_option maxHeartbeats 2000000 in
theorem implCredit_any (v : Value) (l : List Ac) (s : ByteArray) (n : Int) (w : World) (hr : RdA w v l) (hl : l.length ≤ 3999999) (hall : ∀ a ∈ l, a.1.size ≤ maxLen ∧ a.2.2.2.2.length ≤ 4000000) (hs : s.size ≤ maxLen) :
    Calls Tryz.prog 131 #[v, .string s, .int .i64 n] w fun e w' => ∃ v', e = .returned (.tuple #[v', .bool (crA l s n).2]) ∧ OwnA w.heap.size w' v' (crA l s n).1 ∧ Below w.heap.size w w' := by
  have hall2 : ∀ a ∈ l, a.2.2.2.2.length ≤ 4000000 := fun a ha => (hall a ha).2
  have HOk := hide (implAcctsOk_any v l w hr (by omega) hall)
  have HC := hide (fun w h => implCopiedS_any v l w h (by omega) hall2)
  have Hr := hide hr
  have Hall := hide hall
  clear hr hall hall2
  cases h1 : acsB l
  · have Hcr := hide (crA_no (l := l) (s := s) (n := n) (by rw [h1]; rfl))
    rw [h1] at HOk
    clear h1
    rw [Hcr.out]
    go_enter Tryz.func131, Tryz.ntmps131
    go_wp2_with fail
    refine HOk.out.mono ?_
    rintro e w1 ⟨rfl, hb1⟩
    go_wp2_with fail
    refine (HC.out _ (Hr.out.below hb1 (Nat.le_refl _))).mono ?_
    rintro e w2 ⟨v2, rfl, ho2, hb2⟩
    have Ho2 := hide (OwnA.mono ho2 hb1.size)
    have HB := hide (hb1.trans (hb2.mono hb1.size))
    clear ho2 hb1 hb2
    go_wp2
    go_ret2
    exact ⟨v2, rfl, Ho2.out, HB.out⟩
  · rw [h1] at HOk
    cases h2 : nmB s
    · have Hcr := hide (crA_no (l := l) (s := s) (n := n) (by rw [h1, h2]; rfl))
      clear h1
      rw [Hcr.out]
      go_enter Tryz.func131, Tryz.ntmps131
      go_wp2_with fail
      refine HOk.out.mono ?_
      rintro e w1 ⟨rfl, hb1⟩
      go_wp2_with fail
      refine (implNameOk_any s _ hs).mono ?_
      rintro e w1 ⟨rfl, rfl⟩
      rw [h2]
      go_wp2_with fail
      refine (HC.out _ (Hr.out.below hb1 (Nat.le_refl _))).mono ?_
      rintro e w2 ⟨v2, rfl, ho2, hb2⟩
      have Ho2 := hide (OwnA.mono ho2 hb1.size)
      have HB := hide (hb1.trans (hb2.mono hb1.size))
      clear ho2 hb1 hb2
      go_wp2
      go_ret2
      exact ⟨v2, rfl, Ho2.out, HB.out⟩
    · cases h3 : inB n 0 1000000
      · have Hcr := hide (crA_no (l := l) (s := s) (n := n) (by rw [h1, h2, h3]; rfl))
        clear h1
        rw [Hcr.out]
        go_enter Tryz.func131, Tryz.ntmps131
        go_wp2_with fail
        refine HOk.out.mono ?_
        rintro e w1 ⟨rfl, hb1⟩
        go_wp2_with fail
        refine (implNameOk_any s _ hs).mono ?_
        rintro e w1 ⟨rfl, rfl⟩
        rw [h2]
        go_wp2_with fail
        refine (implWithin_any _ _ _ _).mono ?_
        rintro e w1 ⟨rfl, rfl⟩
        rw [h3]
        go_wp2_with fail
        refine (HC.out _ (Hr.out.below hb1 (Nat.le_refl _))).mono ?_
        rintro e w2 ⟨v2, rfl, ho2, hb2⟩
        have Ho2 := hide (OwnA.mono ho2 hb1.size)
        have HB := hide (hb1.trans (hb2.mono hb1.size))
        clear ho2 hb1 hb2
        go_wp2
        go_ret2
        exact ⟨v2, rfl, Ho2.out, HB.out⟩
      · have hasc := asc_of_ok l h1
        have hl12 := acs_len h1
        rw [crA_good (show (acsB l && nmB s && inB n 0 1000000) = true from by rw [h1, h2, h3]; rfl)]
        have HBk := hide (fun w h => bookOf_any v l w h hasc (by omega) Hall.out)
        have Hlen := hide (leftA_len l s n)
        have Hmem := hide (fun p => leftA_mem (l := l) (s := s) (n := n) (p := p))
        have Hasc := hide hasc
        clear h1 hasc HC
        go_enter Tryz.func131, Tryz.ntmps131
        go_wp2_with fail
        refine HOk.out.mono ?_
        rintro e w1 ⟨rfl, hb1⟩
        go_wp2_with fail
        refine (implNameOk_any s _ hs).mono ?_
        rintro e w1 ⟨rfl, rfl⟩
        rw [h2]
        go_wp2_with fail
        refine (implWithin_any _ _ _ _).mono ?_
        rintro e w1 ⟨rfl, rfl⟩
        rw [h3]
        go_wp2_with fail
        refine (HBk.out _ (Hr.out.below hb1 (Nat.le_refl _))).mono ?_
        rintro e w2 ⟨Z, rfl, hZ, hown2, hlv2, hb2⟩
        have hZl : Z.length = l.length := by rw [← hZ]; simp
        have HG := hide (give_any w1.heap.size l.length Z s n (w1.heap.size + 1) w2 hown2 ((asc_map Z).2 (by rw [hZ]; exact Hasc.out)) hlv2 (by omega) (by omega) (fun q hq => Hall.out q.1 (by rw [← hZ]; exact List.mem_map_of_mem hq)) hs)
        rw [hZ] at HG
        have hB2 : Below w.heap.size w w2 := hb1.trans (hb2.mono hb1.size)
        have hs1 := hb1.size
        have hs2 := hb2.size
        clear hown2 hlv2 hZ hZl hb1 hb2
        go_wp2_with fail
        refine HG.out.mono ?_
        rintro e w3 ⟨Z3, rfl, hown3, hlv3, hasc3, hZ3, hb3⟩
        have hB3 : Below w.heap.size w w3 := hB2.trans (hb3.mono hs1)
        have hlen3 : Z3.length ≤ l.length + 1 := by have := congrArg List.length hZ3; simp at this; rw [this]; exact Hlen.out
        have HLs := hide (listed_any w1.heap.size (l.length + 2) Z3 w3 hown3 hasc3 (by omega) (fun q hq => by
          have hm : q.1 ∈ Z3.map (·.1) := List.mem_map_of_mem hq
          rw [hZ3] at hm
          rcases Hmem.out _ hm with h | h
          · rw [h]; exact hs
          · exact (Hall.out _ h).1) (fun q hq => by
          obtain ⟨i, hi, e⟩ := List.mem_iff_getElem.1 hq
          obtain ⟨a'', c'', e'⟩ := (hlv3.own i hi).rd.shape
          exact ⟨a'', _, c'', by rw [← e]; exact e'⟩))
        have Hlv3 := hide hlv3
        have HZ3 := hide hZ3
        have hs3 := hb3.size
        clear hown3 hlv3 hZ3 hb3 hB2 HG
        go_wp2_with fail
        refine HLs.out.mono ?_
        rintro e w4 ⟨g, cap, rfl, hrow4, hb4⟩
        have hgw : w3.heap.size ≤ g := hrow4.ge g rfl
        have HO := hide (OwnA.of_row (hrow4.mono (show w.heap.size ≤ w3.heap.size by omega)) ((Hlv3.out.mono (show w.heap.size ≤ w1.heap.size + 1 by omega)).to hb4 hgw))
        rw [HZ3.out] at HO
        have HB4 := hide (hB3.trans (hb4.mono (by omega)))
        clear hrow4 hb4 hB3
        go_wp2
        go_ret2
        exact ⟨_, rfl, HO.out, HB4.out⟩
end Go.Proofs.YtggkonpboahdeaaGreatDoor

namespace Go.Proofs.YtggkonpboahdeaaGreatDoor
open Go.RowKit
set_option linter.unusedVariables false

theorem getA_ins (a : Ac) : ∀ l : List Ac, getA a.1 (insA a l) = some a
  | [] => by simp [insA, getA]
  | x :: t => by
    by_cases hl : Lt x.1 a.1
    · rw [insA_lt hl, getA, if_neg (fun e => by rw [e] at hl; exact lt_no _ hl)]
      exact getA_ins a t
    · by_cases he : x.1 = a.1
      · rw [insA_eq he, getA, if_pos rfl]
      · rw [insA_gt (lt_or hl he), getA, if_pos rfl]
theorem getA_ins_other (a : Ac) (s : ByteArray) (hs : s ≠ a.1) : ∀ l : List Ac, getA s (insA a l) = getA s l
  | [] => by simp [insA, getA, hs.symm]
  | x :: t => by
    by_cases hl : Lt x.1 a.1
    · rw [insA_lt hl, getA, getA, getA_ins_other a s hs t]
    · by_cases he : x.1 = a.1
      · rw [insA_eq he, getA, if_neg (fun e => hs e.symm), getA, if_neg (fun e => hs (by rw [← e, he]))]
      · rw [insA_gt (lt_or hl he), getA, if_neg (fun e => hs e.symm)]
theorem getA_at : ∀ {l : List Ac}, AscA l → ∀ k (h : k < l.length), getA l[k].1 l = some l[k]
  | [], _, k, h => by simp at h
  | x :: t, ha, 0, h => by simp [getA]
  | x :: t, ha, k + 1, h => by
    obtain ⟨h1, h2⟩ := List.pairwise_cons.1 ha
    have hk : k < t.length := by simpa using h
    have hlt := h1 t[k] (List.getElem_mem hk)
    simp only [List.getElem_cons_succ]
    unfold getA
    rw [if_neg (fun e => by rw [e] at hlt; exact lt_no _ hlt)]
    exact getA_at h2 k hk
/-- All that an account has, and all accounts, as whole numbers. -/
def amI (l : List (Int × Int)) : Int := (l.map (·.1)).sum
def ofI (a : Ac) : Int := a.2.1 + a.2.2.2.1 + amI a.2.2.2.2
def wsI (l : List Ac) : Int := (l.map ofI).sum
theorem amI_fold : ∀ (l : List (Int × Int)) (z : Int), l.foldl (fun s p => wrap64 (s + p.1)) (wrap64 z) = wrap64 (z + amI l)
  | [], z => by simp [amI]
  | p :: t, z => by
    rw [List.foldl_cons, wrap64_add', amI_fold t (z + p.1)]
    congr 1
    simp [amI]
    omega
theorem ofA_is (a : Ac) : ofA a = wrap64 (ofI a) := by
  unfold ofA ofI
  exact amI_fold _ _
theorem wealth_fold : ∀ (l : List Ac) (z : Int), l.foldl (fun s a => wrap64 (s + ofA a)) (wrap64 z) = wrap64 (z + wsI l)
  | [], z => by simp [wsI]
  | a :: t, z => by
    rw [List.foldl_cons, wrap64_add', ofA_is, wrap64_add, wealth_fold t (z + ofI a)]
    congr 1
    simp [wsI]
    omega
theorem wealth_is (l : List Ac) : wealthA l = wrap64 (wsI l) := by
  have := wealth_fold l 0
  rw [Int.zero_add, show wrap64 0 = 0 from by unfold wrap64; omega] at this
  exact this
theorem wsI_ins (a : Ac) : ∀ l : List Ac, AscA l → wsI (insA a l) = wsI l + ofI a - (match getA a.1 l with
    | some b => ofI b
    | none => 0)
  | [], _ => by simp [insA, getA, wsI]
  | x :: t, h => by
    obtain ⟨h1, h2⟩ := List.pairwise_cons.1 h
    by_cases hl : Lt x.1 a.1
    · have ih := wsI_ins a t h2
      rw [insA_lt hl, getA, if_neg (fun e => by rw [e] at hl; exact lt_no _ hl)]
      simp only [wsI, List.map_cons, List.sum_cons] at ih ⊢
      omega
    · by_cases he : x.1 = a.1
      · rw [insA_eq he, getA, if_pos he]
        simp only [wsI, List.map_cons, List.sum_cons]
        omega
      · have hlt := lt_or hl he
        have hn : getA a.1 t = none := by
          cases hg : getA a.1 t with
          | none => rfl
          | some b =>
            have hb := getA_some hg
            have := lt_tr hlt (h1 b hb.2)
            rw [hb.1] at this
            exact absurd this (lt_no _)
        rw [insA_gt hlt, getA, if_neg he, hn]
        simp only [wsI, List.map_cons, List.sum_cons]
        omega
/-- What was free at the name. -/
def oldA (l : List Ac) (s : ByteArray) : Int := match getA s l with
  | some a => a.2.1
  | none => 0
theorem aft_free (l : List Ac) (s : ByteArray) (n : Int) : (aftA l s n).2.1 = wrap64 (oldA l s + n) := by
  unfold aftA oldA
  cases getA s l <;> rfl
theorem wealth_given (l : List Ac) (s : ByteArray) (n : Int) (ha : AscA l) : wealthA (insA (aftA l s n) l) = wrap64 (wealthA l + n) := by
  rw [wealth_is, wealth_is, wrap64_add', wsI_ins _ l ha, aftA_name]
  unfold aftA
  cases hg : getA s l with
  | some a =>
    simp only [ofI]
    rw [show wsI l + (wrap64 (a.2.1 + n) + a.2.2.2.1 + amI a.2.2.2.2) - (a.2.1 + a.2.2.2.1 + amI a.2.2.2.2) = (wsI l - a.2.1) + wrap64 (a.2.1 + n) from by omega, wrap64_add]
    congr 1
    omega
  | none =>
    simp only [ofI, amI, List.map_nil, List.sum_nil]
    rw [show wsI l + (wrap64 (0 + n) + 0 + 0) - 0 = wsI l + wrap64 (0 + n) from by omega, wrap64_add]
    congr 1
    omega
theorem crA_false {l : List Ac} {s : ByteArray} {n : Int} (h : (crA l s n).2 = false) : (crA l s n).1 = l := by
  unfold crA at h ⊢
  split
  · rename_i h1
    rw [if_pos h1] at h
    split
    · rename_i h2
      rw [if_pos h2] at h
      cases h
    · rfl
  · rfl
theorem crA_true {l : List Ac} {s : ByteArray} {n : Int} (h : (crA l s n).2 = true) : (crA l s n).1 = insA (aftA l s n) l ∧ acsB l = true ∧ acsB (insA (aftA l s n) l) = true := by
  unfold crA at h ⊢
  split at h
  · rename_i h1
    split at h
    · rename_i h2
      rw [if_pos h1, if_pos h2]
      simp only [Bool.and_eq_true] at h1
      exact ⟨rfl, h1.1.1, h2⟩
    · cases h
  · cases h
theorem acs_mem' {l : List Ac} (h : acsB l = true) : ∀ a ∈ l, a.2.2.2.2.length ≤ 4 := by
  intro a ha
  obtain ⟨j, hj, rfl⟩ := List.mem_iff_getElem.1 ha
  unfold acsB at h
  rw [Bool.and_eq_true, List.all_eq_true] at h
  have := h.1 j (List.mem_range.2 hj)
  rw [acAt_eq l j l[j] hj rfl, Bool.and_eq_true] at this
  have h2 := this.1
  unfold acB at h2
  simp only [Bool.and_eq_true, decide_eq_true_eq] at h2
  exact h2.2.2.2.2.1
theorem acs_at {l : List Ac} (h : acsB l = true) (j : Nat) (hj : j < l.length) : acB l[j] = true := by
  unfold acsB at h
  rw [Bool.and_eq_true, List.all_eq_true] at h
  have := h.1 j (List.mem_range.2 hj)
  rw [acAt_eq l j l[j] hj rfl, Bool.and_eq_true] at this
  exact this.1
end Go.Proofs.YtggkonpboahdeaaGreatDoor
