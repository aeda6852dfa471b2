/- What an order leaves: as much as there was, and what it does to the account of the one who gave it (plain facts). -/
import Derived.Test.YtdelegamcebflaaGreatDoorJoin8
namespace Go.Proofs.YtdelegamcebflaaGreatDoor
open Go.RowKit
set_option linter.unusedVariables false

theorem amI_lvP (n t : Int) : ∀ l : List (Int × Int), (∀ p ∈ l, 0 ≤ p.1 ∧ p.1 ≤ 1000000) → (0 ≤ n ∧ n ≤ 1000000) → amI (lvP n t l) = amI l + n
  | [], _, _ => by simp [lvP, amI]
  | x :: r, h, hn => by
    have hx := h x List.mem_cons_self
    have ih := amI_lvP n t r (fun p hp => h p (List.mem_cons_of_mem _ hp)) hn
    rw [lvP]
    by_cases e1 : x.2 = t
    · rw [if_pos e1, show wrap64 (x.1 + n) = x.1 + n from by unfold wrap64; omega]
      simp only [amI, List.map_cons, List.sum_cons]
      omega
    · rw [if_neg e1]
      by_cases e2 : t < x.2
      · rw [if_pos e2]; simp only [amI, List.map_cons, List.sum_cons]; omega
      · rw [if_neg e2]; simp only [amI, List.map_cons, List.sum_cons] at ih ⊢; omega
/-- What an order that is good does to the one who gave it: a ahead of it, b behind it. -/
structure Gave (t : Tx5) (a b : Ac) : Prop where
  bf : 0 ≤ a.2.1 ∧ a.2.1 ≤ 1000000
  bn : 0 ≤ a.2.2.1 ∧ a.2.2.1 ≤ 10000
  bs : 0 ≤ a.2.2.2.1 ∧ a.2.2.2.1 ≤ 1000000
  bm : 1 ≤ t.2.2.2.1 ∧ t.2.2.2.1 ≤ 1000000
  nonce : b.2.2.1 = a.2.2.1 + 1
  bond : t.1 = 2 → b.2.2.2.1 = a.2.2.2.1 + t.2.2.2.1 ∧ b.2.1 = a.2.1 - t.2.2.2.1
  unbond : t.1 = 3 → b.2.2.2.1 = a.2.2.2.1 - t.2.2.2.1 ∧ b.2.1 = a.2.1
  pay : t.1 ≠ 2 → t.1 ≠ 3 → (t.2.2.1 ≠ t.2.1 → b.2.1 = a.2.1 - t.2.2.2.1) ∧ b.2.2.2.1 = a.2.2.2.1
theorem doA_facts {e : Int} {l : List Ac} {t : Tx5} {k : Nat} (hl : lgB e l = true) (ht : txB t = true) (hk : k < l.length) (hn : l[k].1 = t.2.1) (h3 : ¬ hasA t l[k] < t.2.2.2.1) :
    wealthA (doA e t l k) = wealthA l ∧ ∃ b, getA t.2.1 (doA e t l k) = some b ∧ Gave t l[k] b := by
  have hac : acsB l = true := by unfold lgB at hl; rw [Bool.and_eq_true] at hl; exact hl.2
  obtain ⟨-, hm, -, hkind⟩ := tx_parts ht
  have hall := acs_all hac
  have hasc := asc_of_ok l hac
  have hkk := hall l[k] (List.getElem_mem _)
  obtain ⟨p1, p2, p3, p4, p5, p6⟩ := ac_parts hkk
  have hasc' := ascA_set hasc k (gvA e t l[k]) hk (gvA_name _ _ _)
  have hgk : getA t.2.1 (l.set k (gvA e t l[k])) = some (gvA e t l[k]) := by
    have := getA_at hasc' k (by simpa using hk)
    simpa [gvA_name, hn] using this
  have w1 : wrap64 (l[k].2.2.1 + 1) = l[k].2.2.1 + 1 := by unfold wrap64; omega
  rcases hkind with h1 | h1 | h1
  · have hs : t.2.2.2.1 ≤ l[k].2.1 := by unfold hasA at h3; rw [if_neg (by omega)] at h3; omega
    have w2 : wrap64 (l[k].2.1 - t.2.2.2.1) = l[k].2.1 - t.2.2.2.1 := by unfold wrap64; omega
    have hg : gvA e t l[k] = (l[k].1, l[k].2.1 - t.2.2.2.1, l[k].2.2.1 + 1, l[k].2.2.2.1, l[k].2.2.2.2) := by
      unfold gvA; rw [if_pos h1, w1, w2]
    have hd : doA e t l k = insA (aftA (l.set k (gvA e t l[k])) t.2.2.1 t.2.2.2.1) (l.set k (gvA e t l[k])) := by unfold doA; rw [if_pos h1, getD_at l k hk]
    rw [hd]
    constructor
    · rw [wealth_given _ _ _ hasc', wealth_is, wealth_is, wsI_set l k _ hk, hg]
      unfold ofI
      show wrap64 (wrap64 (wsI l - (l[k].2.1 + l[k].2.2.2.1 + amI l[k].2.2.2.2) + (l[k].2.1 - t.2.2.2.1 + l[k].2.2.2.1 + amI l[k].2.2.2.2)) + t.2.2.2.1) = wrap64 (wsI l)
      unfold wrap64
      omega
    · by_cases hs2 : t.2.2.1 = t.2.1
      · refine ⟨aftA (l.set k (gvA e t l[k])) t.2.2.1 t.2.2.2.1, ?_, ⟨p2, p3, p4, hm, ?_, fun h => by omega, fun h => by omega, fun _ _ => ⟨fun h => absurd hs2 h, ?_⟩⟩⟩
        · have := getA_ins (aftA (l.set k (gvA e t l[k])) t.2.2.1 t.2.2.2.1) (l.set k (gvA e t l[k]))
          rw [aftA_name] at this
          exact (congrArg (fun s => getA s _) hs2.symm).trans this
        · unfold aftA; rw [hs2, hgk, hg]
        · unfold aftA; rw [hs2, hgk, hg]
      · refine ⟨gvA e t l[k], ?_, ⟨p2, p3, p4, hm, by rw [hg], fun h => by omega, fun h => by omega, fun _ _ => ⟨fun _ => by rw [hg], by rw [hg]⟩⟩⟩
        rw [getA_ins_other _ _ (by rw [aftA_name]; exact fun h => hs2 h.symm), hgk]
  · have hs : t.2.2.2.1 ≤ l[k].2.1 := by unfold hasA at h3; rw [if_neg (by omega)] at h3; omega
    have w2 : wrap64 (l[k].2.1 - t.2.2.2.1) = l[k].2.1 - t.2.2.2.1 := by unfold wrap64; omega
    have w3 : wrap64 (l[k].2.2.2.1 + t.2.2.2.1) = l[k].2.2.2.1 + t.2.2.2.1 := by unfold wrap64; omega
    have hg : gvA e t l[k] = (l[k].1, l[k].2.1 - t.2.2.2.1, l[k].2.2.1 + 1, l[k].2.2.2.1 + t.2.2.2.1, l[k].2.2.2.2) := by
      unfold gvA; rw [if_neg (by omega), if_pos h1, w1, w2, w3]
    have hd : doA e t l k = l.set k (gvA e t l[k]) := by unfold doA; rw [if_neg (by omega), getD_at l k hk]
    rw [hd]
    refine ⟨?_, gvA e t l[k], hgk, ⟨p2, p3, p4, hm, by rw [hg], fun _ => by rw [hg]; exact ⟨rfl, rfl⟩, fun h => by omega, fun h => absurd h1 h⟩⟩
    rw [wealth_is, wealth_is, wsI_set l k _ hk, hg]
    unfold ofI
    show wrap64 (wsI l - (l[k].2.1 + l[k].2.2.2.1 + amI l[k].2.2.2.2) + (l[k].2.1 - t.2.2.2.1 + (l[k].2.2.2.1 + t.2.2.2.1) + amI l[k].2.2.2.2)) = wrap64 (wsI l)
    congr 1
    omega
  · have hs : t.2.2.2.1 ≤ l[k].2.2.2.1 := by unfold hasA at h3; rw [if_pos h1] at h3; omega
    have w3 : wrap64 (l[k].2.2.2.1 - t.2.2.2.1) = l[k].2.2.2.1 - t.2.2.2.1 := by unfold wrap64; omega
    have hg : gvA e t l[k] = (l[k].1, l[k].2.1, l[k].2.2.1 + 1, l[k].2.2.2.1 - t.2.2.2.1, lvP t.2.2.2.1 (wrap64 (e + 2)) l[k].2.2.2.2) := by
      unfold gvA; rw [if_neg (by omega), if_neg (by omega), w1, w3]
    have hd : doA e t l k = l.set k (gvA e t l[k]) := by unfold doA; rw [if_neg (by omega), getD_at l k hk]
    rw [hd]
    refine ⟨?_, gvA e t l[k], hgk, ⟨p2, p3, p4, hm, by rw [hg], fun h => by omega, fun _ => by rw [hg]; exact ⟨rfl, rfl⟩, fun _ h => absurd h1 h⟩⟩
    rw [wealth_is, wealth_is, wsI_set l k _ hk, hg]
    unfold ofI
    show wrap64 (wsI l - (l[k].2.1 + l[k].2.2.2.1 + amI l[k].2.2.2.2) + (l[k].2.1 + (l[k].2.2.2.1 - t.2.2.2.1) + amI (lvP t.2.2.2.1 (wrap64 (e + 2)) l[k].2.2.2.2))) = wrap64 (wsI l)
    rw [amI_lvP _ _ _ (fun p hp => by have := lvs_mem p6 p hp; omega) (by omega)]
    congr 1
    omega
/-- What Apply answers, told: refused, and all is as it was; or good. -/
theorem apA_told (e : Int) (l : List Ac) (t : Tx5) : ((apA e l t).2 ≠ 0 ∧ (apA e l t).1 = l) ∨ ((apA e l t).2 = 0 ∧ lgB e (apA e l t).1 = true ∧ lgB e l = true ∧ wealthA (apA e l t).1 = wealthA l ∧ ∃ (k : Nat) (hk : k < l.length) (j : Nat) (hj : j < (apA e l t).1.length), atA l t.2.1 = (k : Int) ∧ atA (apA e l t).1 t.2.1 = (j : Int) ∧ Gave t l[k] (apA e l t).1[j]) := by
  cases h0 : (lgB e l && txB t)
  · rw [apA_form h0]; exact .inl ⟨by simp, rfl⟩
  · have h0' := h0
    rw [Bool.and_eq_true] at h0
    rcases at_cases l t.2.1 with h1 | ⟨k, hk, h1, hn, -⟩
    · rw [apA_none h0' (by omega)]; exact .inl ⟨by simp, rfl⟩
    · have hgd := getD_at l k hk
      by_cases h2 : (l.getD k ac0).2.2.1 = t.2.2.2.2
      · by_cases h3 : hasA t (l.getD k ac0) < t.2.2.2.1
        · rw [apA_short h0' h1 h2 h3]; exact .inl ⟨by simp, rfl⟩
        · cases h4 : lgB e (doA e t l k)
          · rw [apA_full h0' h1 h2 h3 h4]; exact .inl ⟨by simp, rfl⟩
          · rw [apA_good h0' h1 h2 h3 h4]
            rw [hgd] at h3
            obtain ⟨hw, b, hb, hG⟩ := doA_facts h0.1 h0.2 hk hn h3
            obtain ⟨j, hj, e1, e2, -⟩ := at_get hb
            exact .inr ⟨rfl, h4, h0.1, hw, k, hk, j, hj, h1, e1, by rw [e2]; exact hG⟩
      · rw [apA_nonce h0' h1 h2]; exact .inl ⟨by simp, rfl⟩
theorem apA_wealth (e : Int) (l : List Ac) (t : Tx5) : wealthA (apA e l t).1 = wealthA l := by
  rcases apA_told e l t with ⟨-, h⟩ | ⟨-, -, -, h, -⟩
  · rw [h]
  · exact h
end Go.Proofs.YtdelegamcebflaaGreatDoor
