/- What follows of who leads, and of quorums (plain). -/
import Derived.Test.YtoejikphbienfaaVsLaw
import Derived.Test.YtoejikphbienfaaVsLead
namespace Go.Proofs.Ytoejikphbienfaa
open Go.RowKit
set_option linter.unusedVariables false

theorem nodup_at {l : List ByteArray} (h : l.Nodup) {i j : Nat} (hi : i < l.length) (hj : j < l.length) (he : l[i] = l[j]) : i = j := by
  have hp := List.pairwise_iff_getElem.1 h
  rcases Nat.lt_trichotomy i j with h1 | h1 | h1
  · exact absurd he (hp i j hi hj h1)
  · exact h1
  · exact absurd he.symm (hp j i hj hi h1)
/-- Who led, from the round r on, in i rounds. -/
def ledV (l : List Vl) (r i : Nat) : List ByteArray := (List.range i).map (fun j => leadV l ((r + j : Nat) : Int))
theorem ledV_len (l : List Vl) (r i : Nat) : (ledV l r i).length = i := by simp [ledV]
theorem ledV_snoc (l : List Vl) (r i : Nat) : ledV l r (i + 1) = ledV l r i ++ [leadV l ((r + i : Nat) : Int)] := by
  unfold ledV
  rw [List.range_succ, List.map_append]
  rfl
theorem lead_in (l : List Vl) (hl : l ≠ []) (n : Nat) : hasN (l.map (·.1)) (leadV l (n : Int)) = true := by
  have hp : 0 < l.length := List.length_pos_iff.2 hl
  have hm := Nat.mod_lt n hp
  rw [leadV_at l n hm]
  exact hasN_yes (List.mem_map_of_mem (List.getElem_mem _))
theorem lead_new (l : List Vl) (hl : l ≠ []) (hd : (l.map (·.1)).Nodup) (r i : Nat) (hi : i < l.length) : hasN (ledV l r i) (leadV l ((r + i : Nat) : Int)) = false := by
  have hp : 0 < l.length := List.length_pos_iff.2 hl
  refine hasN_no (fun hm => ?_)
  obtain ⟨j, hj, he⟩ := List.mem_map.1 hm
  have hj' := List.mem_range.1 hj
  have h1 := Nat.mod_lt (r + i) hp
  have h2 := Nat.mod_lt (r + j) hp
  rw [leadV_at l _ h1, leadV_at l _ h2] at he
  have e := nodup_at hd (i := (r + j) % l.length) (j := (r + i) % l.length) (by simpa using h2) (by simpa using h1) (by simpa using he)
  have h3 := Nat.sub_mod_eq_zero_of_mod_eq e.symm
  rw [show r + i - (r + j) = i - j from by omega, Nat.mod_eq_of_lt (by omega)] at h3
  omega

/-- What they come to, without wrapping. -/
def plS (f : Vl → Int) (l : List Vl) : Int := (l.map f).sum
theorem plS_cons (f : Vl → Int) (p : Vl) (l : List Vl) : plS f (p :: l) = f p + plS f l := by simp [plS]
theorem plS_bd (f : Vl → Int) : ∀ l : List Vl, (∀ p ∈ l, 0 ≤ f p ∧ f p ≤ 30) → 0 ≤ plS f l ∧ plS f l ≤ 30 * l.length
  | [], _ => by simp [plS]
  | p :: l, h => by
    have h1 := plS_bd f l (fun q hq => h q (List.mem_cons_of_mem _ hq))
    have h2 := h p (List.mem_cons_self)
    rw [plS_cons, List.length_cons]
    omega
theorem sumV_pl (f : Vl → Int) : ∀ (l : List Vl) (s : Int), (∀ p ∈ l, 0 ≤ f p ∧ f p ≤ 30) → 0 ≤ s → s + 30 * l.length ≤ 1000000 → l.foldl (fun s p => wrap64 (s + f p)) s = s + plS f l
  | [], s, _, _, _ => by simp [plS]
  | p :: l, s, h, h0, h1 => by
    have h2 := h p (List.mem_cons_self)
    rw [List.length_cons] at h1
    have hw : wrap64 (s + f p) = s + f p := by unfold wrap64; omega
    rw [List.foldl_cons, hw, sumV_pl f l (s + f p) (fun q hq => h q (List.mem_cons_of_mem _ hq)) (by omega) (by omega), plS_cons]
    omega
theorem few_sum {l : List Vl} (h : FewV l) (f : Vl → Int) (hf : ∀ p ∈ l, 0 ≤ f p ∧ f p ≤ 30) : sumV f l = plS f l ∧ 0 ≤ plS f l ∧ plS f l ≤ 150 := by
  have h1 := sumV_pl f l 0 hf (by omega) (by have := h.1; omega)
  have h2 := plS_bd f l hf
  refine ⟨?_, h2.1, by have := h.1; omega⟩
  unfold sumV
  rw [h1]
  omega
theorem few_wt {l : List Vl} (h : FewV l) (ns : List ByteArray) : ∀ p ∈ l, 0 ≤ wtN ns p ∧ wtN ns p ≤ 30 := fun p hp => by
  have := (h.2.2 p hp).2
  unfold wtN
  split <;> omega
theorem few_all {l : List Vl} (h : FewV l) : ∀ p ∈ l, 0 ≤ p.2 ∧ p.2 ≤ 30 := fun p hp => by have := (h.2.2 p hp).2; omega
theorem hasN_filter (a b : List ByteArray) (s : ByteArray) : hasN (a.filter (hasN b)) s = (hasN a s && hasN b s) := by
  cases h : hasN a s && hasN b s with
  | true =>
    rw [Bool.and_eq_true] at h
    obtain ⟨t, ht, e⟩ := List.any_eq_true.1 h.1
    have e' : t = s := by simpa using e
    subst e'
    exact hasN_yes (List.mem_filter.2 ⟨ht, h.2⟩)
  | false =>
    refine hasN_no (fun hm => ?_)
    have h' := List.mem_filter.1 hm
    rw [hasN_yes h'.1, h'.2] at h
    exact absurd h (by simp)
theorem two_sum (a b : List ByteArray) : ∀ l : List Vl, (∀ p ∈ l, 0 ≤ p.2) → plS (wtN a) l + plS (wtN b) l ≤ plS (·.2) l + plS (wtN (a.filter (hasN b))) l
  | [], _ => by simp [plS]
  | p :: l, h => by
    have h1 := two_sum a b l (fun q hq => h q (List.mem_cons_of_mem _ hq))
    have h2 := h p (List.mem_cons_self)
    have h3 : wtN a p + wtN b p ≤ p.2 + wtN (a.filter (hasN b)) p := by
      unfold wtN
      rw [hasN_filter]
      cases hasN a p.1 <;> cases hasN b p.1 <;> simp <;> omega
    simp only [plS_cons]
    omega
/-- Two quorums have more than a third of the weight in common. -/
theorem two_quorums {l : List Vl} (h : FewV l) (a b : List ByteArray) (hx : 2 * totalV l < 3 * weightV l a) (hy : 2 * totalV l < 3 * weightV l b) : totalV l < 3 * weightV l (a.filter (hasN b)) := by
  have e1 := few_sum h (·.2) (few_all h)
  have e2 := few_sum h (wtN a) (few_wt h a)
  have e3 := few_sum h (wtN b) (few_wt h b)
  have e4 := few_sum h (wtN (a.filter (hasN b))) (few_wt h _)
  have e5 := two_sum a b l (fun p hp => by have := few_all h p hp; omega)
  unfold totalV weightV at *
  omega
theorem few_total {l : List Vl} (h : FewV l) : 0 ≤ totalV l ∧ totalV l ≤ 150 := by have e1 := few_sum h (·.2) (few_all h); unfold totalV; omega
theorem few_weight {l : List Vl} (h : FewV l) (ns : List ByteArray) : 0 ≤ weightV l ns ∧ weightV l ns ≤ 150 := by have e1 := few_sum h (wtN ns) (few_wt h ns); unfold weightV; omega
theorem filter_snoc (a b : List ByteArray) (k : Nat) (h : k < a.length) : (a.take (k + 1)).filter (hasN b) = (a.take k).filter (hasN b) ++ (if hasN b a[k] = true then [a[k]] else []) := by
  rw [List.take_succ_eq_append_getElem h, List.filter_append]
  congr 1
  split <;> simp_all
theorem filter_few (a b : List ByteArray) (k : Nat) : ((a.take k).filter (hasN b)).length ≤ a.length := by
  have h1 := List.length_filter_le (hasN b) (a.take k)
  have h2 : (a.take k).length ≤ a.length := by simp; omega
  omega
end Go.Proofs.Ytoejikphbienfaa
