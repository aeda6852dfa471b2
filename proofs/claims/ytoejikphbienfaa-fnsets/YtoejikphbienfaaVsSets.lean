/- Who votes by a drawn ledger: what follows (plain), and what is drawn. -/
import Derived.Test.YtoejikphbienfaaLgDraw
import Derived.Test.YtoejikphbienfaaVsSumI
import Derived.Test.YtoejikphbienfaaVsOkI
import Derived.Test.YtoejikphbienfaaVsSet
import Derived.Test.YtoejikphbienfaaAcPut
namespace Go.Proofs.Ytoejikphbienfaa
open Go.RowKit
set_option linter.unusedVariables false

theorem acs_atV {l : List Ac} (h : acsB l = true) (j : Nat) (hj : j < l.length) : acB l[j] = true := by
  unfold acsB at h
  rw [Bool.and_eq_true, List.all_eq_true] at h
  have := h.1 j (List.mem_range.2 hj)
  rw [acAt_eq l j l[j] hj rfl, Bool.and_eq_true] at this
  exact this.1
theorem setV_cons (a : Ac) (l : List Ac) : setV (a :: l) = if 5 ≤ a.2.2.2.1 then (a.1, a.2.2.2.1) :: setV l else setV l := by
  unfold setV
  by_cases h : 5 ≤ a.2.2.2.1
  · rw [if_pos h, List.filter_cons_of_pos (by simpa using h)]
    rfl
  · rw [if_neg h, List.filter_cons_of_neg (by simpa using h)]
def stk (s : Int) (a : Ac) : Int := if 5 ≤ a.2.2.2.1 then wrap64 (s + a.2.2.2.1) else s
theorem stk_sum : ∀ (l : List Ac) (s : Int), (setV l).foldl (fun s p => wrap64 (s + p.2)) s = l.foldl stk s
  | [], s => rfl
  | a :: l, s => by
    rw [setV_cons, List.foldl_cons]
    unfold stk
    by_cases h : 5 ≤ a.2.2.2.1
    · rw [if_pos h, if_pos h, List.foldl_cons]
      exact stk_sum l _
    · rw [if_neg h, if_neg h]
      exact stk_sum l _
theorem stk_total (l : List Ac) : totalV (setV l) = l.foldl stk 0 := stk_sum l 0
theorem stk_snoc (l : List Ac) (k : Nat) (h : k < l.length) : (l.take (k + 1)).foldl stk 0 = stk ((l.take k).foldl stk 0) l[k] := foldV_snoc stk 0 l k h
theorem lg_acsV {e : Int} {l : List Ac} (h : lgB e l = true) : acsB l = true := by unfold lgB at h; rw [Bool.and_eq_true] at h; exact h.2
theorem asc_name {l : List Ac} (h : AscA l) {i j : Nat} (hi : i < l.length) (hj : j < l.length) (he : l[i].1 = l[j].1) : i = j := by
  have hp := List.pairwise_iff_getElem.1 h
  rcases Nat.lt_trichotomy i j with h1 | h1 | h1
  · exact absurd (hp i j hi hj h1) (by rw [he]; exact lt_no _)
  · exact h1
  · exact absurd (hp j i hj hi h1) (by rw [he]; exact lt_no _)
theorem set_has {e : Int} {l : List Ac} (h : lgB e l = true) (i : Nat) (hi : i < l.length) : hasN ((setV l).map (·.1)) l[i].1 = decide (5 ≤ l[i].2.2.2.1) := by
  have ha := asc_of_ok l (lg_acsV h)
  by_cases hs : 5 ≤ l[i].2.2.2.1
  · rw [decide_eq_true hs]
    refine hasN_yes (List.mem_map.2 ⟨(l[i].1, l[i].2.2.2.1), ?_, rfl⟩)
    exact List.mem_map.2 ⟨l[i], List.mem_filter.2 ⟨List.getElem_mem _, by simpa using hs⟩, rfl⟩
  · rw [decide_eq_false hs]
    refine hasN_no (fun hm => ?_)
    obtain ⟨p, hp, e1⟩ := List.mem_map.1 hm
    obtain ⟨a, ha2, e2⟩ := List.mem_map.1 hp
    obtain ⟨hm2, hs2⟩ := List.mem_filter.1 ha2
    obtain ⟨j, hj, rfl⟩ := List.mem_iff_getElem.1 hm2
    subst e2
    have := asc_name ha hj hi e1
    subst this
    exact hs (by simpa using hs2)
theorem set_right {e : Int} {l : List Ac} (h : lgB e l = true) (hn : setV l ≠ []) : setB (setV l) = true := by
  have hok := lg_acsV h
  have ha := asc_of_ok l hok
  have hall : ∀ a ∈ l, acB a = true := fun a hm => by
    obtain ⟨j, hj, rfl⟩ := List.mem_iff_getElem.1 hm
    exact acs_atV hok j hj
  have hlen : l.length ≤ 12 := by
    unfold acsB at hok
    simp only [Bool.and_eq_true, decide_eq_true_eq] at hok
    exact hok.2.1
  have hp : (setV l).Pairwise (fun x y => Lt x.1 y.1) := by
    unfold setV
    rw [List.pairwise_map]
    exact List.Pairwise.filter _ ha
  have hv : ∀ p ∈ setV l, valB p = true := fun p hm => by
    obtain ⟨a, hm2, rfl⟩ := List.mem_map.1 hm
    obtain ⟨hm3, hs⟩ := List.mem_filter.1 hm2
    have hac := hall a hm3
    have hs' : 5 ≤ a.2.2.2.1 := by simpa using hs
    unfold acB inB at hac
    simp only [Bool.and_eq_true, decide_eq_true_eq] at hac
    unfold valB inB
    simp only [Bool.and_eq_true, decide_eq_true_eq]
    exact ⟨hac.1, by omega, hac.2.2.2.1.2⟩
  have hl0 : 0 < (setV l).length := List.length_pos_iff.2 hn
  have hl1 := setV_len l
  rw [set_yes]
  · unfold inB
    simp only [decide_eq_true_eq]
    omega
  · intro j hj
    rw [vlAt_eq (setV l) j _ hj rfl]
    have h1 := hv _ (List.getElem_mem hj)
    unfold valB at h1
    rw [h1, Bool.true_and]
    by_cases h0 : j = 0
    · rw [decide_eq_true h0]; rfl
    · have h2 := List.pairwise_iff_getElem.1 hp (j - 1) j (by omega) hj (by omega)
      rw [List.getD_eq_getElem?_getD, List.getElem?_eq_getElem (show j - 1 < (setV l).length by omega)]
      unfold Lt at h2
      simp only [Option.getD_some]
      rw [h2, Bool.or_true]
set_option maxRecDepth 20000 in
theorem drawSetOf_any (w : World) (cv : Value) (code : List UInt8) (hr : RdB w cv code) (hl : code.length ≤ 1048576) :
    Calls Try.prog 9 #[cv] w fun en w' => ∃ (e : Int) (v : Value) (l : List Ac), en = .returned (lgV e v) ∧ RdA w' v l ∧ l.length ≤ 6 ∧ (∀ a ∈ l, a.1.size ≤ 9 ∧ a.2.2.2.2.length ≤ 4) ∧ Below w.heap.size w w' := by
  obtain ⟨w1, hw1⟩ : ∃ w1, w.alloc (.cells #[.int .i64 0, .slice none 0 0] 26) = w1 := ⟨_, rfl⟩
  have b1 : Below w.heap.size w w1 := by rw [← hw1]; exact (Below.refl _ w).alloc (Nat.le_refl _) _
  have k1 : Blk w1 w.heap.size 26 [.int .i64 0, .slice none 0 0] := by rw [← hw1]; exact Blk.new w _ _
  have s1 : w1.heap.size = w.heap.size + 1 := by rw [← hw1]; simp
  have Hr := hide (hr.below b1 (Nat.le_refl _))
  have HN := hide (l1New_any w1 cv code Hr.out hl)
  rw [s1] at HN
  clear hr
  go_enter Try.func9, Try.ntmps9
  go_wp2_with fail
  refine HN.out.mono ?_
  rintro en w2 ⟨rfl, hc2, hb2⟩
  have k2 := k1.below hb2 (by omega)
  have z2 := hb2.size
  go_wp2_with fail
  refine (l6Any_any w1 w2 (w.heap.size + 1) cv code hc2 hl).mono ?_
  rintro en w3 ⟨e, v, Z, rfl, hd3, hs3, hc3, hg3⟩
  unfold lgV
  have k3 := k2.notg hg3 (by omega)
  have z3 := hg3.size
  obtain ⟨⟨G, cap, rfl⟩, -⟩ := id hd3
  have r0 := k3.cell 0
  have r1 := k3.cell 1
  have g0 := k3.frozen 0
  have g1 := k3.frozen 1
  simp only [List.getElem?_cons_zero, List.getElem?_cons_succ] at r0 r1
  have HDx := hide ((hd3.notg (grown_set w3 w.heap.size 0 (.int .i64 e)) (by omega)).notg (grown_set _ w.heap.size 1 (.slice (some ⟨G, 0, none⟩) Z.length cap)) (by omega))
  have hB2 : Below w.heap.size w w2 := b1.trans (hb2.mono (by omega))
  have hB3 : Below w.heap.size w w3 := hB2.grown hg3 (by omega) (fun k hk => by cases hk; omega)
  have HBx := hide ((hB3.setCell (p := ⟨w.heap.size, 0, none⟩) (Nat.le_refl _) (.int .i64 e)).setCell (p := ⟨w.heap.size, 1, none⟩) (Nat.le_refl _) (.slice (some ⟨G, 0, none⟩) Z.length cap))
  clear k1 k2 k3 hd3 hc2 hc3 hg3 hb2 hB2 hB3
  go_wp2
  refine bodyPost_ret (v := .agg #[.int .i64 e, .slice (some ⟨G, 0, none⟩) Z.length cap]) (by simp [results, Try.f9, go_sem, r0, r1]) rfl ?_
  exact ⟨e, _, Z.map (·.1), rfl, HDx.out.rd, by simpa using hs3.1, fun a ha => by obtain ⟨q, hq, rfl⟩ := List.mem_map.1 ha; exact hs3.2 q hq, HBx.out⟩
end Go.Proofs.Ytoejikphbienfaa
