/- Accounts that ascend by their names: one put among them, and what is given to a name (plain facts). -/
import Derived.Test.YtaidhenkijjcfaaAcsOk
import Derived.Test.YtaidhenkijjcfaaAcApp
import Derived.Sort.Walk0
namespace Go.Proofs.Ytaidhenkijjcfaa
open Go.RowKit
set_option linter.unusedVariables false

/-- One name is less than another. -/
def Lt (s t : ByteArray) : Prop := Op.bytesLess s.toList t.toList = true
theorem lt_iff (s t : ByteArray) : Lt s t ↔ s.toList < t.toList := by unfold Lt; rw [Go.Proofs.bytesLess_eq, decide_eq_true_iff]
theorem lt_no (s : ByteArray) : ¬ Lt s s := fun h => List.lt_irrefl _ ((lt_iff _ _).1 h)
theorem lt_tr {s t u : ByteArray} (h : Lt s t) (h' : Lt t u) : Lt s u := (lt_iff _ _).2 (List.lt_trans ((lt_iff _ _).1 h) ((lt_iff _ _).1 h'))
theorem lt_as {s t : ByteArray} (h : Lt s t) : ¬ Lt t s := fun h' => lt_no _ (lt_tr h h')
theorem toList_inj' {s t : ByteArray} (h : s.toList = t.toList) : s = t := by
  rw [ByteArray.toList_eq, ByteArray.toList_eq] at h
  exact ByteArray.ext (Array.toList_inj.1 h)
theorem lt_or {s t : ByteArray} (h : ¬ Lt s t) (hn : s ≠ t) : Lt t s := by
  rw [lt_iff] at h ⊢
  by_cases h' : t.toList < s.toList
  · exact h'
  · exact absurd (toList_inj' (List.le_antisymm (List.not_lt.1 h') (List.not_lt.1 h))) hn
theorem lt_false {s t : ByteArray} (h : ¬ Lt s t) : Op.bytesLess s.toList t.toList = false := by unfold Lt at h; simpa using h

variable {β : Type}
/-- Ascending by name. -/
def Asc (Z : List (Ac × β)) : Prop := Z.Pairwise (fun x y => Lt x.1.1 y.1.1)
/-- q put among accounts that ascend: in the place of one of its name, or between two. -/
def insZ (q : Ac × β) : List (Ac × β) → List (Ac × β)
  | [] => [q]
  | x :: t => if Op.bytesLess x.1.1.toList q.1.1.toList = true then x :: insZ q t else if x.1.1 = q.1.1 then q :: t else q :: x :: t
def insA (a : Ac) : List Ac → List Ac
  | [] => [a]
  | x :: t => if Op.bytesLess x.1.toList a.1.toList = true then x :: insA a t else if x.1 = a.1 then a :: t else a :: x :: t
theorem insZ_lt {q x : Ac × β} {t : List (Ac × β)} (h : Lt x.1.1 q.1.1) : insZ q (x :: t) = x :: insZ q t := by rw [insZ]; exact if_pos h
theorem insZ_eq {q x : Ac × β} {t : List (Ac × β)} (h : x.1.1 = q.1.1) : insZ q (x :: t) = q :: t := by
  rw [insZ, if_pos h]
  exact if_neg (show ¬ Lt x.1.1 q.1.1 from by rw [h]; exact lt_no _)
theorem insZ_gt {q x : Ac × β} {t : List (Ac × β)} (h : Lt q.1.1 x.1.1) : insZ q (x :: t) = q :: x :: t := by
  rw [insZ, if_neg (show ¬ x.1.1 = q.1.1 from fun e => by rw [e] at h; exact lt_no _ h)]
  exact if_neg (lt_as h)
theorem insA_lt {q x : Ac} {t : List Ac} (h : Lt x.1 q.1) : insA q (x :: t) = x :: insA q t := by rw [insA]; exact if_pos h
theorem insA_eq {q x : Ac} {t : List Ac} (h : x.1 = q.1) : insA q (x :: t) = q :: t := by
  rw [insA, if_pos h]
  exact if_neg (show ¬ Lt x.1 q.1 from by rw [h]; exact lt_no _)
theorem insA_gt {q x : Ac} {t : List Ac} (h : Lt q.1 x.1) : insA q (x :: t) = q :: x :: t := by
  rw [insA, if_neg (show ¬ x.1 = q.1 from fun e => by rw [e] at h; exact lt_no _ h)]
  exact if_neg (lt_as h)
theorem insZ_fst (q : Ac × β) : ∀ Z : List (Ac × β), (insZ q Z).map (·.1) = insA q.1 (Z.map (·.1))
  | [] => rfl
  | x :: t => by
    unfold insZ insA
    simp only [List.map_cons]
    split
    · rw [List.map_cons, insZ_fst q t]
    · split <;> rfl
theorem insZ_mem (q : Ac × β) : ∀ (Z : List (Ac × β)) (p : Ac × β), p ∈ insZ q Z → p = q ∨ p ∈ Z
  | [], p, h => by simp [insZ] at h; exact .inl h
  | x :: t, p, h => by
    unfold insZ at h
    split at h
    · rcases List.mem_cons.1 h with rfl | h
      · exact .inr List.mem_cons_self
      · rcases insZ_mem q t p h with h | h
        · exact .inl h
        · exact .inr (List.mem_cons_of_mem _ h)
    · split at h
      · rcases List.mem_cons.1 h with rfl | h
        · exact .inl rfl
        · exact .inr (List.mem_cons_of_mem _ h)
      · rcases List.mem_cons.1 h with rfl | h
        · exact .inl rfl
        · exact .inr h
theorem insZ_asc (q : Ac × β) : ∀ Z : List (Ac × β), Asc Z → Asc (insZ q Z)
  | [], _ => by simp [insZ, Asc]
  | x :: t, h => by
    obtain ⟨h1, h2⟩ := List.pairwise_cons.1 h
    unfold insZ
    split
    · rename_i hl
      refine List.pairwise_cons.2 ⟨fun y hy => ?_, insZ_asc q t h2⟩
      rcases insZ_mem q t y hy with rfl | hy
      · exact hl
      · exact h1 y hy
    · rename_i hl
      split
      · rename_i he
        refine List.pairwise_cons.2 ⟨fun y hy => ?_, h2⟩
        rw [← he]; exact h1 y hy
      · rename_i he
        have hlt : Lt q.1.1 x.1.1 := lt_or hl he
        refine List.pairwise_cons.2 ⟨fun y hy => ?_, h⟩
        rcases List.mem_cons.1 hy with rfl | hy
        · exact hlt
        · exact lt_tr hlt (h1 y hy)
/-- The account of a name. -/
def getZ (s : ByteArray) : List (Ac × β) → Option (Ac × β)
  | [] => none
  | x :: t => if x.1.1 = s then some x else getZ s t
def getA (s : ByteArray) : List Ac → Option Ac
  | [] => none
  | x :: t => if x.1 = s then some x else getA s t
theorem getZ_fst (s : ByteArray) : ∀ Z : List (Ac × β), (getZ s Z).map (·.1) = getA s (Z.map (·.1))
  | [] => rfl
  | x :: t => by
    unfold getZ getA
    simp only [List.map_cons]
    split
    · rfl
    · exact getZ_fst s t
theorem getZ_name {s : ByteArray} : ∀ {Z : List (Ac × β)} {q : Ac × β}, getZ s Z = some q → q.1.1 = s ∧ q ∈ Z
  | [], q, h => by simp [getZ] at h
  | x :: t, q, h => by
    unfold getZ at h
    split at h
    · rename_i he; simp at h; subst h; exact ⟨he, List.mem_cons_self⟩
    · exact ⟨(getZ_name h).1, List.mem_cons_of_mem _ (getZ_name h).2⟩
theorem getZ_none {s : ByteArray} : ∀ {Z : List (Ac × β)}, getZ s Z = none → ∀ q ∈ Z, q.1.1 ≠ s
  | [], _, q, h => by simp at h
  | x :: t, h, q, hq => by
    unfold getZ at h
    split at h
    · simp at h
    · rename_i he
      rcases List.mem_cons.1 hq with rfl | hq
      · exact he
      · exact getZ_none h q hq
/-- One of that name is replaced, and put back: the same accounts. -/
theorem insZ_back {s : ByteArray} (q' : Ac × β) (hq' : q'.1.1 = s) : ∀ {Z : List (Ac × β)} {q : Ac × β}, Asc Z → getZ s Z = some q → insZ q (insZ q' Z) = Z
  | [], q, _, h => by simp [getZ] at h
  | x :: t, q, ha, h => by
    obtain ⟨h1, h2⟩ := List.pairwise_cons.1 ha
    unfold getZ at h
    split at h
    · rename_i he
      simp at h
      subst h
      rw [insZ_eq (by rw [hq', he]), insZ_eq (by rw [hq', he])]
    · have hq := getZ_name h
      have hl : Lt x.1.1 s := by rw [← hq.1]; exact h1 q hq.2
      rw [insZ_lt (by rw [hq']; exact hl), insZ_lt (by rw [hq.1]; exact hl), insZ_back q' hq' h2 h]
/-- A list that is all less, then q, then all greater. -/
theorem insA_mid (a : Ac) : ∀ (A B : List Ac), (∀ x ∈ A, Lt x.1 a.1) → (∀ x ∈ B, Lt a.1 x.1) → insA a (A ++ B) = A ++ a :: B
  | [], [], _, _ => rfl
  | [], x :: B, _, hB => by
    have h := hB x List.mem_cons_self
    show insA a (x :: B) = a :: x :: B
    exact insA_gt h
  | x :: A, B, hA, hB => by
    have h := hA x List.mem_cons_self
    rw [List.cons_append, insA_lt h, insA_mid a A B (fun y hy => hA y (List.mem_cons_of_mem _ hy)) hB]
    rfl
def AscA (l : List Ac) : Prop := l.Pairwise (fun x y => Lt x.1 y.1)
theorem asc_map (Z : List (Ac × β)) : Asc Z ↔ AscA (Z.map (·.1)) := by unfold Asc AscA; rw [List.pairwise_map]
/-- n more are free at the first one of the name s. -/
def upA (s : ByteArray) (n : Int) : List Ac → List Ac
  | [] => []
  | x :: t => if x.1 = s then (x.1, wrap64 (x.2.1 + n), x.2.2) :: t else x :: upA s n t
theorem upA_none (s : ByteArray) (n : Int) : ∀ l : List Ac, (∀ x ∈ l, x.1 ≠ s) → upA s n l = l
  | [], _ => rfl
  | x :: t, h => by
    unfold upA
    rw [if_neg (h x List.mem_cons_self), upA_none s n t (fun y hy => h y (List.mem_cons_of_mem _ hy))]
theorem upA_mid (s : ByteArray) (n : Int) (a : Ac) (ha : a.1 = s) : ∀ (A B : List Ac), (∀ x ∈ A, x.1 ≠ s) → upA s n (A ++ a :: B) = A ++ (a.1, wrap64 (a.2.1 + n), a.2.2) :: B
  | [], B, _ => by
    show upA s n (a :: B) = _
    unfold upA
    rw [if_pos ha]
    rfl
  | x :: A, B, h => by
    rw [List.cons_append]
    unfold upA
    rw [if_neg (h x List.mem_cons_self), upA_mid s n a ha A B (fun y hy => h y (List.mem_cons_of_mem _ hy))]
    rfl
/-- From where on a new one comes, seen from behind. -/
def plA (l : List Ac) (s : ByteArray) : Nat → Nat
  | 0 => 0
  | k + 1 => if Op.bytesLess s.toList (l.getD k ac0).1.toList = true then plA l s k else k + 1
theorem plA_le (l : List Ac) (s : ByteArray) : ∀ k, plA l s k ≤ k
  | 0 => Nat.le_refl _
  | k + 1 => by
    unfold plA
    split
    · have := plA_le l s k; omega
    · exact Nat.le_refl _
theorem plA_above (l : List Ac) (s : ByteArray) : ∀ k j, plA l s k ≤ j → j < k → Lt s (l.getD j ac0).1
  | 0, j, _, h => by omega
  | k + 1, j, h1, h2 => by
    unfold plA at h1
    split at h1
    · rename_i hl
      by_cases e : j = k
      · subst e; exact hl
      · exact plA_above l s k j h1 (by omega)
    · omega
theorem plA_below (l : List Ac) (s : ByteArray) : ∀ k, plA l s k = 0 ∨ ¬ Lt s (l.getD (plA l s k - 1) ac0).1
  | 0 => .inl rfl
  | k + 1 => by
    unfold plA
    split
    · exact plA_below l s k
    · rename_i hl
      exact .inr hl
/-- An account of that name alone. -/
def newAc (s : ByteArray) : Ac := (s, 0, 0, 0, [])
/-- Accounts with one for the name s. -/
def withA (l : List Ac) (s : ByteArray) : List Ac := if getA s l = none then l.take (plA l s l.length) ++ newAc s :: l.drop (plA l s l.length) else l
/-- The account of the name s behind n more. -/
def aftA (l : List Ac) (s : ByteArray) (n : Int) : Ac := match getA s l with
  | some a => (s, wrap64 (a.2.1 + n), a.2.2)
  | none => (s, wrap64 (0 + n), 0, 0, [])
theorem getA_none {s : ByteArray} : ∀ {l : List Ac}, getA s l = none → ∀ q ∈ l, q.1 ≠ s
  | [], _, q, h => by simp at h
  | x :: t, h, q, hq => by
    unfold getA at h
    split at h
    · simp at h
    · rename_i he
      rcases List.mem_cons.1 hq with rfl | hq
      · exact he
      · exact getA_none h q hq
theorem getA_some {s : ByteArray} : ∀ {l : List Ac} {a : Ac}, getA s l = some a → a.1 = s ∧ a ∈ l
  | [], q, h => by simp [getA] at h
  | x :: t, q, h => by
    unfold getA at h
    split at h
    · rename_i he; simp at h; subst h; exact ⟨he, List.mem_cons_self⟩
    · exact ⟨(getA_some h).1, List.mem_cons_of_mem _ (getA_some h).2⟩
theorem up_found (s : ByteArray) (n : Int) : ∀ (l : List Ac) (a : Ac), AscA l → getA s l = some a → upA s n l = insA (s, wrap64 (a.2.1 + n), a.2.2) l
  | [], a, _, h => by simp [getA] at h
  | x :: t, a, ha, h => by
    obtain ⟨h1, h2⟩ := List.pairwise_cons.1 ha
    unfold getA at h
    split at h
    · rename_i he
      simp at h
      subst h
      rw [insA_eq he, upA, if_pos he, he]
    · rename_i he
      have hq := getA_some h
      have hl : Lt x.1 s := by rw [← hq.1]; exact h1 a hq.2
      rw [insA_lt hl, upA, if_neg he, up_found s n t a h2 h]
theorem give_eq (l : List Ac) (s : ByteArray) (n : Int) (ha : AscA l) : upA s n (withA l s) = insA (aftA l s n) l := by
  unfold withA aftA
  cases hg : getA s l with
  | some a => rw [if_neg (by simp)]; exact up_found s n l a ha hg
  | none =>
    rw [if_pos rfl]
    have hno := getA_none hg
    have hp := plA_le l s l.length
    have hget : ∀ j (h : j < l.length), l.getD j ac0 = l[j] := fun j h => by rw [List.getD_eq_getElem?_getD, List.getElem?_eq_getElem h]; rfl
    have hB : ∀ x ∈ l.drop (plA l s l.length), Lt s x.1 := fun x hx => by
      obtain ⟨j, hj, rfl⟩ := List.mem_iff_getElem.1 hx
      rw [List.getElem_drop]
      simp at hj
      have := plA_above l s l.length (plA l s l.length + j) (by omega) (by omega)
      rwa [hget _ (by omega)] at this
    have hA : ∀ x ∈ l.take (plA l s l.length), Lt x.1 s := fun x hx => by
      obtain ⟨j, hj, rfl⟩ := List.mem_iff_getElem.1 hx
      rw [List.getElem_take]
      simp at hj
      rcases plA_below l s l.length with h0 | hb
      · omega
      · rw [hget _ (by omega)] at hb
        have hlast : Lt (l[plA l s l.length - 1]'(by omega)).1 s := lt_or hb (hno _ (List.getElem_mem _)).symm
        by_cases e : j = plA l s l.length - 1
        · simp only [e]; exact hlast
        · exact lt_tr (List.pairwise_iff_getElem.1 ha j (plA l s l.length - 1) (by omega) (by omega) (by omega)) hlast
    rw [upA_mid s n (newAc s) rfl _ _ (fun x hx e => by have := hA x hx; rw [e] at this; exact lt_no _ this)]
    have e := insA_mid (s, wrap64 (0 + n), 0, 0, []) (l.take (plA l s l.length)) (l.drop (plA l s l.length)) hA hB
    rw [List.take_append_drop] at e
    rw [e]
    rfl
/-- Accounts that are right ascend. -/
theorem asc_of_ok (l : List Ac) (h : acsB l = true) : AscA l := by
  have hat : ∀ j, j < l.length → acAt l j = true := by
    unfold acsB at h
    rw [Bool.and_eq_true, List.all_eq_true] at h
    exact fun j hj => h.1 j (List.mem_range.2 hj)
  have step : ∀ j (hj : j + 1 < l.length), Lt (l[j]'(by omega)).1 l[j + 1].1 := fun j hj => by
    have := hat (j + 1) hj
    rw [acAt_eq l (j + 1) l[j + 1] hj rfl, Bool.and_eq_true, show decide (j + 1 = 0) = false from rfl, Bool.false_or] at this
    have h2 := this.2
    rw [show j + 1 - 1 = j from rfl, List.getD_eq_getElem?_getD, List.getElem?_eq_getElem (show j < l.length by omega)] at h2
    exact h2
  have far : ∀ d i (hi : i + 1 + d < l.length), Lt (l[i]'(by omega)).1 l[i + 1 + d].1 := fun d => by
    induction d with
    | zero => exact fun i hi => step i hi
    | succ d ih => exact fun i hi => lt_tr (ih i (by omega)) (step (i + 1 + d) hi)
  refine List.pairwise_iff_getElem.2 fun i j hi hj hij => ?_
  obtain ⟨d, rfl⟩ : ∃ d, j = i + 1 + d := ⟨j - (i + 1), by omega⟩
  exact far d i hj
/-- What Credit answers. -/
def crA (l : List Ac) (s : ByteArray) (n : Int) : List Ac × Bool :=
  if (acsB l && nmB s && inB n 0 1000000) = true then (if acsB (insA (aftA l s n) l) = true then (insA (aftA l s n) l, true) else (l, false)) else (l, false)
end Go.Proofs.Ytaidhenkijjcfaa
