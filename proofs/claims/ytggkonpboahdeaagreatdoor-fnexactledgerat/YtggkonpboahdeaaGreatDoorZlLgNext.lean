/- What an order does to accounts (plain facts). What the next epoch makes of accounts, and what leaves with one more as the landed code puts it (plain facts). -/
import Derived.Test.YtggkonpboahdeaaGreatDoorZlLgLeave
import Derived.Test.YtggkonpboahdeaaGreatDoorZlAcFact
import Derived.Test.YtggkonpboahdeaaGreatDoorZlTxVal
namespace Go.Proofs.YtggkonpboahdeaaGreatDoor
open Go.RowKit
set_option linter.unusedVariables false

/-- What leaves ascends. -/
theorem asc_lv {l : List (Int × Int)} (h : lvsB l = true) : l.Pairwise (fun x y => x.2 < y.2) := by
  have hat : ∀ j, j < l.length → lvAt l j = true := by
    unfold lvsB at h
    rw [List.all_eq_true] at h
    exact fun j hj => h j (List.mem_range.2 hj)
  have step : ∀ j (hj : j + 1 < l.length), (l[j]'(by omega)).2 < l[j + 1].2 := fun j hj => by
    have := hat (j + 1) hj
    unfold lvAt at this
    simp only [Bool.and_eq_true, Bool.or_eq_true, decide_eq_true_eq, Nat.add_eq_zero_iff, Nat.succ_ne_self, and_false, false_or, Nat.add_sub_cancel] at this
    have h2 := this.2.2
    rw [List.getD_eq_getElem?_getD, List.getD_eq_getElem?_getD, List.getElem?_eq_getElem hj, List.getElem?_eq_getElem (show j < l.length by omega)] at h2
    exact h2
  have far : ∀ d i (hi : i + 1 + d < l.length), (l[i]'(by omega)).2 < l[i + 1 + d].2 := fun d => by
    induction d with
    | zero => exact fun i hi => step i hi
    | succ d ih => exact fun i hi => Int.lt_trans (ih i (by omega)) (step (i + 1 + d) hi)
  refine List.pairwise_iff_getElem.2 fun i j hi hj hij => ?_
  obtain ⟨d, rfl⟩ : ∃ d, j = i + 1 + d := ⟨j - (i + 1), by omega⟩
  exact far d i hj
/-- The amount that leaves at t, with n more. -/
def amF (n t : Int) (l : List (Int × Int)) : Int := l.foldl (fun s y => if y.2 = t then wrap64 (s + y.1) else s) n
def ahL (t : Int) (l : List (Int × Int)) : List (Int × Int) := l.filter (fun x => decide (x.2 < t))
def beL (t : Int) (l : List (Int × Int)) : List (Int × Int) := l.filter (fun x => decide (t < x.2))
/-- What leaves with one more, as it is put together of what is ahead and what is behind. -/
def wlP (n t : Int) (l : List (Int × Int)) : List (Int × Int) := ahL t l ++ (amF n t l, t) :: beL t l
theorem amF_none (n t : Int) : ∀ l : List (Int × Int), (∀ x ∈ l, x.2 ≠ t) → amF n t l = n
  | [], _ => rfl
  | x :: r, h => by
    have e : amF n t (x :: r) = amF (if x.2 = t then wrap64 (n + x.1) else n) t r := rfl
    rw [e, if_neg (h x List.mem_cons_self)]
    exact amF_none n t r (fun y hy => h y (List.mem_cons_of_mem _ hy))
theorem wl_lv (n t : Int) : ∀ l : List (Int × Int), l.Pairwise (fun x y => x.2 < y.2) → wlP n t l = lvP n t l
  | [], _ => rfl
  | x :: r, h => by
    obtain ⟨h1, h2⟩ := List.pairwise_cons.1 h
    have ih := wl_lv n t r h2
    have e : amF n t (x :: r) = amF (if x.2 = t then wrap64 (n + x.1) else n) t r := rfl
    rw [lvP]
    unfold wlP ahL beL at ih ⊢
    by_cases hx : x.2 = t
    · rw [if_pos hx, e, if_pos hx, amF_none _ _ r (fun y hy => by have := h1 y hy; omega), List.filter_cons_of_neg (by simp; omega), List.filter_cons_of_neg (by simp; omega), List.filter_eq_nil_iff.2 (fun y hy => by have := h1 y hy; simp; omega), List.filter_eq_self.2 (fun y hy => by have := h1 y hy; simp; omega), Int.add_comm, hx]
      rfl
    · rw [if_neg hx, e, if_neg hx]
      by_cases hl : t < x.2
      · rw [if_pos hl, amF_none _ _ r (fun y hy => by have := h1 y hy; omega), List.filter_cons_of_neg (by simp; omega), List.filter_cons_of_pos (by simpa using hl), List.filter_eq_nil_iff.2 (fun y hy => by have := h1 y hy; simp; omega), List.filter_eq_self.2 (fun y hy => by have := h1 y hy; simp; omega)]
        rfl
      · rw [if_neg hl, List.filter_cons_of_pos (by simp; omega), List.filter_cons_of_neg (by simp; omega), List.cons_append, ih]
theorem wlP_len (n t : Int) (l : List (Int × Int)) : (wlP n t l).length ≤ 2 * l.length + 1 := by
  unfold wlP ahL beL
  have h1 := List.length_filter_le (fun x : Int × Int => decide (x.2 < t)) l
  have h2 := List.length_filter_le (fun x : Int × Int => decide (t < x.2)) l
  simp only [List.length_append, List.length_cons]
  omega

/-- The account of one who gave the order t in the epoch e, behind it (what is paid is on its way). -/
def gvA (e : Int) (t : Tx5) (a : Ac) : Ac :=
  if t.1 = 1 then (a.1, wrap64 (a.2.1 - t.2.2.2.1), wrap64 (a.2.2.1 + 1), a.2.2.2.1, a.2.2.2.2)
  else if t.1 = 2 then (a.1, wrap64 (a.2.1 - t.2.2.2.1), wrap64 (a.2.2.1 + 1), wrap64 (a.2.2.2.1 + t.2.2.2.1), a.2.2.2.2)
  else (a.1, a.2.1, wrap64 (a.2.2.1 + 1), wrap64 (a.2.2.2.1 - t.2.2.2.1), lvP t.2.2.2.1 (wrap64 (e + 2)) a.2.2.2.2)
theorem gvA_name (e : Int) (t : Tx5) (a : Ac) : (gvA e t a).1 = a.1 := by
  unfold gvA
  split
  · rfl
  · split <;> rfl
/-- What may be spent by the order t. -/
def hasA (t : Tx5) (a : Ac) : Int := if t.1 = 3 then a.2.2.2.1 else a.2.1
/-- What comes of the order t of the k-th account. -/
def doA (e : Int) (t : Tx5) (l : List Ac) (k : Nat) : List Ac :=
  if t.1 = 1 then insA (aftA (l.set k (gvA e t (l.getD k ac0))) t.2.2.1 t.2.2.2.1) (l.set k (gvA e t (l.getD k ac0))) else l.set k (gvA e t (l.getD k ac0))
/-- What Apply answers: the accounts, and the code. -/
def apA (e : Int) (l : List Ac) (t : Tx5) : List Ac × Int :=
  if (lgB e l && txB t) = false then (l, 1)
  else if atA l t.2.1 < 0 then (l, 2)
  else if (l.getD (atA l t.2.1).toNat ac0).2.2.1 ≠ t.2.2.2.2 then (l, 3)
  else if hasA t (l.getD (atA l t.2.1).toNat ac0) < t.2.2.2.1 then (l, 4)
  else if lgB e (doA e t l (atA l t.2.1).toNat) = false then (l, 5)
  else (doA e t l (atA l t.2.1).toNat, 0)
theorem apA_form {e : Int} {l : List Ac} {t : Tx5} (h : (lgB e l && txB t) = false) : apA e l t = (l, 1) := by unfold apA; rw [if_pos h]
theorem apA_none {e : Int} {l : List Ac} {t : Tx5} (h : (lgB e l && txB t) = true) (h1 : atA l t.2.1 < 0) : apA e l t = (l, 2) := by unfold apA; rw [if_neg (by rw [h]; decide), if_pos h1]
theorem apA_nonce {e : Int} {l : List Ac} {t : Tx5} {k : Nat} (h : (lgB e l && txB t) = true) (h1 : atA l t.2.1 = (k : Int)) (h2 : (l.getD k ac0).2.2.1 ≠ t.2.2.2.2) : apA e l t = (l, 3) := by
  unfold apA; rw [if_neg (by rw [h]; decide), h1, if_neg (by omega), Int.toNat_natCast, if_pos h2]
theorem apA_short {e : Int} {l : List Ac} {t : Tx5} {k : Nat} (h : (lgB e l && txB t) = true) (h1 : atA l t.2.1 = (k : Int)) (h2 : (l.getD k ac0).2.2.1 = t.2.2.2.2) (h3 : hasA t (l.getD k ac0) < t.2.2.2.1) : apA e l t = (l, 4) := by
  unfold apA; rw [if_neg (by rw [h]; decide), h1, if_neg (by omega), Int.toNat_natCast, if_neg (by rw [h2]; exact fun h => h rfl), if_pos h3]
theorem apA_full {e : Int} {l : List Ac} {t : Tx5} {k : Nat} (h : (lgB e l && txB t) = true) (h1 : atA l t.2.1 = (k : Int)) (h2 : (l.getD k ac0).2.2.1 = t.2.2.2.2) (h3 : ¬ hasA t (l.getD k ac0) < t.2.2.2.1) (h4 : lgB e (doA e t l k) = false) : apA e l t = (l, 5) := by
  unfold apA; rw [if_neg (by rw [h]; decide), h1, if_neg (by omega), Int.toNat_natCast, if_neg (by rw [h2]; exact fun h => h rfl), if_neg h3, if_pos h4]
theorem apA_good {e : Int} {l : List Ac} {t : Tx5} {k : Nat} (h : (lgB e l && txB t) = true) (h1 : atA l t.2.1 = (k : Int)) (h2 : (l.getD k ac0).2.2.1 = t.2.2.2.2) (h3 : ¬ hasA t (l.getD k ac0) < t.2.2.2.1) (h4 : lgB e (doA e t l k) = true) : apA e l t = (doA e t l k, 0) := by
  unfold apA; rw [if_neg (by rw [h]; decide), h1, if_neg (by omega), Int.toNat_natCast, if_neg (by rw [h2]; exact fun h => h rfl), if_neg h3, if_neg (by rw [h4]; decide)]
theorem at_cases (l : List Ac) (s : ByteArray) : atA l s = -1 ∨ ∃ (k : Nat) (h : k < l.length), atA l s = (k : Int) ∧ l[k].1 = s ∧ ∀ j (hj : j < k), (l[j]'(by omega)).1 ≠ s := by
  cases hg : getA s l with
  | none => exact .inl (at_not hg)
  | some a =>
    obtain ⟨k, hk, h1, h2, h3, h4⟩ := at_get hg
    exact .inr ⟨k, hk, h1, by rw [h2]; exact h3, h4⟩
theorem getD_at (l : List Ac) (k : Nat) (h : k < l.length) : l.getD k ac0 = l[k] := by rw [List.getD_eq_getElem?_getD, List.getElem?_eq_getElem h]; rfl

/-! ### How much there is -/
theorem amI_bd : ∀ l : List (Int × Int), (∀ p ∈ l, 0 ≤ p.1 ∧ p.1 ≤ 1000000) → 0 ≤ amI l ∧ amI l ≤ 1000000 * (l.length : Int)
  | [], _ => by simp [amI]
  | p :: r, h => by
    have h1 := h p List.mem_cons_self
    have h2 := amI_bd r (fun q hq => h q (List.mem_cons_of_mem _ hq))
    simp only [amI, List.map_cons, List.sum_cons, List.length_cons] at h2 ⊢
    omega
theorem lvs_mem {l : List (Int × Int)} (h : lvsB l = true) : ∀ p ∈ l, 1 ≤ p.1 ∧ p.1 ≤ 1000000 := by
  intro p hp
  obtain ⟨j, hj, rfl⟩ := List.mem_iff_getElem.1 hp
  unfold lvsB at h
  rw [List.all_eq_true] at h
  have := h j (List.mem_range.2 hj)
  unfold lvAt at this
  rw [List.getD_eq_getElem?_getD, List.getElem?_eq_getElem hj] at this
  simp only [Bool.and_eq_true] at this
  have h1 := this.1
  unfold inB at h1
  simpa using h1
theorem ac_parts {a : Ac} (h : acB a = true) : nmB a.1 = true ∧ (0 ≤ a.2.1 ∧ a.2.1 ≤ 1000000) ∧ (0 ≤ a.2.2.1 ∧ a.2.2.1 ≤ 10000) ∧ (0 ≤ a.2.2.2.1 ∧ a.2.2.2.1 ≤ 1000000) ∧ a.2.2.2.2.length ≤ 4 ∧ lvsB a.2.2.2.2 = true := by
  unfold acB inB at h
  simpa only [Bool.and_eq_true, decide_eq_true_eq] using h
theorem ac_mk {a : Ac} (h : nmB a.1 = true ∧ (0 ≤ a.2.1 ∧ a.2.1 ≤ 1000000) ∧ (0 ≤ a.2.2.1 ∧ a.2.2.1 ≤ 10000) ∧ (0 ≤ a.2.2.2.1 ∧ a.2.2.2.1 ≤ 1000000) ∧ a.2.2.2.2.length ≤ 4 ∧ lvsB a.2.2.2.2 = true) : acB a = true := by
  unfold acB inB
  simpa only [Bool.and_eq_true, decide_eq_true_eq] using h
theorem ofI_bd {a : Ac} (h : acB a = true) : 0 ≤ ofI a ∧ ofI a ≤ 6000000 := by
  obtain ⟨-, h1, -, h2, h3, h4⟩ := ac_parts h
  have h5 := amI_bd a.2.2.2.2 (fun p hp => by have := lvs_mem h4 p hp; omega)
  unfold ofI
  omega
theorem wsI_bd : ∀ l : List Ac, (∀ a ∈ l, acB a = true) → 0 ≤ wsI l ∧ wsI l ≤ 6000000 * (l.length : Int)
  | [], _ => by simp [wsI]
  | a :: r, h => by
    have h1 := ofI_bd (h a List.mem_cons_self)
    have h2 := wsI_bd r (fun q hq => h q (List.mem_cons_of_mem _ hq))
    simp only [wsI, List.map_cons, List.sum_cons, List.length_cons] at h2 ⊢
    omega
theorem acs_all {l : List Ac} (h : acsB l = true) : ∀ a ∈ l, acB a = true := by
  intro a ha
  obtain ⟨j, hj, rfl⟩ := List.mem_iff_getElem.1 ha
  exact acs_at h j hj
theorem acs_parts {l : List Ac} (h : acsB l = true) : l.length ≤ 12 ∧ wealthA l ≤ 1000000 := by
  unfold acsB at h
  simp only [Bool.and_eq_true, decide_eq_true_eq] at h
  exact h.2
theorem wealth_small {l : List Ac} (h : ∀ a ∈ l, acB a = true) (hl : l.length ≤ 12) : wealthA l = wsI l := by
  have h1 := wsI_bd l h
  rw [wealth_is]
  unfold wrap64
  omega
theorem wsI_set : ∀ (l : List Ac) (k : Nat) (b : Ac) (h : k < l.length), wsI (l.set k b) = wsI l - ofI l[k] + ofI b
  | [], k, b, h => by simp at h
  | x :: r, 0, b, h => by simp only [List.set_cons_zero, wsI, List.map_cons, List.sum_cons, List.getElem_cons_zero]; omega
  | x :: r, k + 1, b, h => by
    have := wsI_set r k b (by simpa using h)
    simp only [List.set_cons_succ, wsI, List.map_cons, List.sum_cons, List.getElem_cons_succ] at this ⊢
    omega
/-- Accounts are right that ascend, are right each, few, and have not too much. -/
theorem acs_mk {l : List Ac} (h1 : ∀ a ∈ l, acB a = true) (h2 : AscA l) (h3 : l.length ≤ 12) (h4 : wsI l ≤ 1000000) : acsB l = true := by
  rw [acs_yes l, decide_eq_true h3, decide_eq_true (by rw [wealth_small h1 h3]; exact h4)]
  · rfl
  · intro j hj
    rw [acAt_eq l j l[j] hj rfl, h1 _ (List.getElem_mem _), Bool.true_and]
    by_cases h0 : j = 0
    · rw [decide_eq_true h0]; rfl
    · have := List.pairwise_iff_getElem.1 h2 (j - 1) j (by omega) hj (by omega)
      rw [getD_at l (j - 1) (by omega)]
      unfold Lt at this
      rw [this, Bool.or_true]
theorem ascA_set {l : List Ac} (h : AscA l) (k : Nat) (b : Ac) (hk : k < l.length) (hb : b.1 = l[k].1) : AscA (l.set k b) := by
  have hn : (l.set k b).map (·.1) = l.map (·.1) := by
    rw [List.map_set, hb]
    apply List.ext_getElem (by simp)
    intro i h1 h2
    simp only [List.getElem_set]
    split
    · rename_i e; subst e; simp
    · rfl
  have e : ∀ m : List Ac, AscA m ↔ (m.map (·.1)).Pairwise Lt := fun m => by unfold AscA; rw [List.pairwise_map]
  rw [e, hn, ← e]
  exact h
theorem tx_parts {t : Tx5} (h : txB t = true) : nmB t.2.1 = true ∧ (1 ≤ t.2.2.2.1 ∧ t.2.2.2.1 ≤ 1000000) ∧ (t.1 = 1 → nmB t.2.2.1 = true) ∧ (t.1 = 1 ∨ t.1 = 2 ∨ t.1 = 3) := by
  unfold txB inB at h
  simp only [Bool.and_eq_true, decide_eq_true_eq] at h
  obtain ⟨h1, h2, h3, h4⟩ := h
  refine ⟨h1, h2, fun e => by rw [if_pos e] at h4; exact h4, ?_⟩
  split at h4
  · exact .inl ‹_›
  · simp only [Bool.and_eq_true, decide_eq_true_eq] at h4
    omega
/-- What Credit answers behind a payment that was taken away is as what comes says: it is paid, and the accounts that come are right, just if what comes is right. -/
theorem pay_full {e : Int} {l : List Ac} {t : Tx5} {k : Nat} (hl : lgB e l = true) (ht : txB t = true) (h1 : t.1 = 1) (hk : k < l.length) (h3 : t.2.2.2.1 ≤ l[k].2.1) :
    (crA (l.set k (gvA e t l[k])) t.2.2.1 t.2.2.2.1).2 = lgB e (doA e t l k) ∧ ((crA (l.set k (gvA e t l[k])) t.2.2.1 t.2.2.2.1).2 = true → (crA (l.set k (gvA e t l[k])) t.2.2.1 t.2.2.2.1).1 = doA e t l k) := by
  have hac : acsB l = true := by unfold lgB at hl; rw [Bool.and_eq_true] at hl; exact hl.2
  have hep : inB e 0 900 = true := by unfold lgB at hl; rw [Bool.and_eq_true] at hl; exact hl.1
  obtain ⟨-, hn, hto, -⟩ := tx_parts ht
  have hall := acs_all hac
  have hasc := asc_of_ok l hac
  obtain ⟨hlen, hw⟩ := acs_parts hac
  rw [wealth_small hall hlen] at hw
  have hkk := hall l[k] (List.getElem_mem _)
  obtain ⟨p1, p2, p3, p4, p5, p6⟩ := ac_parts hkk
  have hg : gvA e t l[k] = (l[k].1, l[k].2.1 - t.2.2.2.1, l[k].2.2.1 + 1, l[k].2.2.2.1, l[k].2.2.2.2) := by
    unfold gvA
    rw [if_pos h1, show wrap64 (l[k].2.1 - t.2.2.2.1) = l[k].2.1 - t.2.2.2.1 from by unfold wrap64; omega, show wrap64 (l[k].2.2.1 + 1) = l[k].2.2.1 + 1 from by unfold wrap64; omega]
  have hd : doA e t l k = insA (aftA (l.set k (gvA e t l[k])) t.2.2.1 t.2.2.2.1) (l.set k (gvA e t l[k])) := by unfold doA; rw [if_pos h1, getD_at l k hk]
  have hasc' := ascA_set hasc k (gvA e t l[k]) hk (gvA_name _ _ _)
  have hnm : nmB t.2.2.1 = true := hto h1
  have hin : inB t.2.2.2.1 0 1000000 = true := by unfold inB; simp; omega
  have hlg : lgB e (doA e t l k) = acsB (doA e t l k) := by unfold lgB; rw [hep, Bool.true_and]
  rw [hlg, hd]
  by_cases hno : l[k].2.2.1 + 1 ≤ 10000
  · have hok : acsB (l.set k (gvA e t l[k])) = true := by
      refine acs_mk ?_ hasc' (by simpa using hlen) ?_
      · intro a ha
        rcases List.mem_or_eq_of_mem_set ha with h | h
        · exact hall a h
        · subst h
          rw [hg]
          exact ac_mk ⟨p1, ⟨by show 0 ≤ l[k].2.1 - t.2.2.2.1; omega, by show l[k].2.1 - t.2.2.2.1 ≤ 1000000; omega⟩, ⟨by show 0 ≤ l[k].2.2.1 + 1; omega, hno⟩, p4, p5, p6⟩
      · rw [wsI_set l k _ hk, hg]
        unfold ofI
        show wsI l - (l[k].2.1 + l[k].2.2.2.1 + amI l[k].2.2.2.2) + (l[k].2.1 - t.2.2.2.1 + l[k].2.2.2.1 + amI l[k].2.2.2.2) ≤ 1000000
        omega
    have hand : (acsB (l.set k (gvA e t l[k])) && nmB t.2.2.1 && inB t.2.2.2.1 0 1000000) = true := by rw [hok, hnm, hin]; rfl
    cases hx : acsB (insA (aftA (l.set k (gvA e t l[k])) t.2.2.1 t.2.2.2.1) (l.set k (gvA e t l[k])))
    · rw [crA_bad hand hx]; exact ⟨rfl, fun h => by cases h⟩
    · rw [crA_yes hand hx]; exact ⟨rfl, fun _ => rfl⟩
  · have hbadk : ∀ (a : Ac), a.2.2.1 = l[k].2.2.1 + 1 → acB a = false := fun a ha => by
      cases hb : acB a
      · rfl
      · have := (ac_parts hb).2.2.1; omega
    have hbad : acsB (l.set k (gvA e t l[k])) = false := by
      cases hb : acsB (l.set k (gvA e t l[k]))
      · rfl
      · have := acs_all hb (gvA e t l[k]) (List.mem_iff_getElem.2 ⟨k, by simpa using hk, by simp⟩)
        rw [hbadk _ (by rw [hg])] at this
        cases this
    have hbad2 : acsB (insA (aftA (l.set k (gvA e t l[k])) t.2.2.1 t.2.2.2.1) (l.set k (gvA e t l[k]))) = false := by
      cases hb : acsB (insA (aftA (l.set k (gvA e t l[k])) t.2.2.1 t.2.2.2.1) (l.set k (gvA e t l[k])))
      · rfl
      · have hgk : getA l[k].1 (l.set k (gvA e t l[k])) = some (gvA e t l[k]) := by
          have := getA_at hasc' k (by simpa using hk)
          simpa [gvA_name] using this
        by_cases hs : t.2.2.1 = l[k].1
        · have hm := getA_some (getA_ins (aftA (l.set k (gvA e t l[k])) t.2.2.1 t.2.2.2.1) (l.set k (gvA e t l[k])))
          have := acs_all hb _ hm.2
          rw [hbadk] at this
          · cases this
          · unfold aftA
            rw [hs, hgk, hg]
        · have hm := getA_ins_other (aftA (l.set k (gvA e t l[k])) t.2.2.1 t.2.2.2.1) l[k].1 (by rw [aftA_name]; exact fun h => hs h.symm) (l.set k (gvA e t l[k]))
          rw [hgk] at hm
          have := acs_all hb _ (getA_some hm).2
          rw [hbadk _ (by rw [hg])] at this
          cases this
    rw [crA_no (by rw [hbad]; rfl), hbad2]
    exact ⟨rfl, fun h => by cases h⟩
end Go.Proofs.YtggkonpboahdeaaGreatDoor

namespace Go.Proofs.YtggkonpboahdeaaGreatDoor
open Go.RowKit
set_option linter.unusedVariables false

/-- What is free of what leaves, at the epoch e, beside z. -/
def frF (e z : Int) (l : List (Int × Int)) : Int := l.foldl (fun s x => if x.2 ≤ e then wrap64 (s + x.1) else s) z
/-- What still leaves. -/
def stL (e : Int) (l : List (Int × Int)) : List (Int × Int) := l.filter (fun x => decide (e < x.2))
theorem frF_snoc (e z : Int) (l : List (Int × Int)) (k : Nat) (h : k < l.length) : frF e z (l.take (k + 1)) = if l[k].2 ≤ e then wrap64 (frF e z (l.take k) + l[k].1) else frF e z (l.take k) := by
  unfold frF
  rw [List.take_succ_eq_append_getElem h, List.foldl_append]
  rfl
theorem stL_snoc (e : Int) (l : List (Int × Int)) (k : Nat) (h : k < l.length) : stL e (l.take (k + 1)) = if l[k].2 ≤ e then stL e (l.take k) else stL e (l.take k) ++ [l[k]] := by
  unfold stL
  rw [List.take_succ_eq_append_getElem h, List.filter_append]
  by_cases hh : l[k].2 ≤ e
  · rw [if_pos hh, List.filter_cons_of_neg (by simp; omega), List.filter_nil, List.append_nil]
  · rw [if_neg hh, List.filter_cons_of_pos (by simp; omega), List.filter_nil]
theorem stL_len (e : Int) (l : List (Int × Int)) : (stL e l).length ≤ l.length := List.length_filter_le _ _
/-- An account in the epoch e. -/
def frA (e : Int) (a : Ac) : Ac := (a.1, frF e a.2.1 a.2.2.2.2, a.2.2.1, a.2.2.2.1, stL e a.2.2.2.2)
/-- What NextEpoch answers. -/
def neA (e : Int) (l : List Ac) : Int × List Ac := if (lgB e l && lgB (wrap64 (e + 1)) (l.map (frA (wrap64 (e + 1))))) = true then (wrap64 (e + 1), l.map (frA (wrap64 (e + 1)))) else (e, l)
theorem neA_old {e : Int} {l : List Ac} (h : lgB e l = false) : neA e l = (e, l) := by unfold neA; rw [h]; rfl
theorem neA_new {e : Int} {l : List Ac} (h : lgB (wrap64 (e + 1)) (l.map (frA (wrap64 (e + 1)))) = false) : neA e l = (e, l) := by unfold neA; rw [h, Bool.and_false]; rfl
theorem neA_yes {e : Int} {l : List Ac} (h : lgB e l = true) (h' : lgB (wrap64 (e + 1)) (l.map (frA (wrap64 (e + 1)))) = true) : neA e l = (wrap64 (e + 1), l.map (frA (wrap64 (e + 1)))) := by unfold neA; rw [h, h']; rfl
theorem frA_name (e : Int) (a : Ac) : (frA e a).1 = a.1 := rfl
theorem frA_len (e : Int) (a : Ac) : (frA e a).2.2.2.2.length ≤ a.2.2.2.2.length := stL_len _ _
theorem fr_all (e : Int) (l : List Ac) (h : ∀ a ∈ l, a.1.size ≤ maxLen ∧ a.2.2.2.2.length ≤ 4000000) : ∀ a ∈ l.map (frA e), a.1.size ≤ maxLen ∧ a.2.2.2.2.length ≤ 4000000 := by
  intro a ha
  obtain ⟨b, hb, rfl⟩ := List.mem_map.1 ha
  exact ⟨(h b hb).1, Nat.le_trans (frA_len e b) (h b hb).2⟩
/-- The first k accounts are in the epoch e already. -/
def frK (e : Int) (l : List Ac) (k : Nat) : List Ac := (l.take k).map (frA e) ++ l.drop k
theorem frK_zero (e : Int) (l : List Ac) : frK e l 0 = l := by simp [frK]
theorem frK_all (e : Int) (l : List Ac) : frK e l l.length = l.map (frA e) := by simp [frK]
theorem frK_len (e : Int) (l : List Ac) (k : Nat) : (frK e l k).length = l.length := by simp [frK]; omega
theorem frK_at (e : Int) (l : List Ac) (k : Nat) (h : k < l.length) : (frK e l k)[k]'(by rw [frK_len]; exact h) = l[k] := by
  unfold frK
  rw [List.getElem_append_right (by simp; omega), List.getElem_drop]
  congr 1
  simp
  omega
theorem frK_next (e : Int) (l : List Ac) (k : Nat) (h : k < l.length) : (frK e l k).set k (frA e l[k]) = frK e l (k + 1) := by
  unfold frK
  rw [List.take_succ_eq_append_getElem h, List.map_append, List.append_assoc, List.set_append_right _ _ (by simp; omega), show k - ((l.take k).map (frA e)).length = 0 from by simp; omega, List.drop_eq_getElem_cons h]
  rfl
end Go.Proofs.YtggkonpboahdeaaGreatDoor
