/- At all lists of those who vote and lists of names WeightOf of the program answers as the model's WeightOf, and writes into no argument: the law FnExactWeightOf returns true, with no condition. -/
import Derived.Test.YtoejikphbienfabRows
import Derived.Test.YtoejikphbienfabRowS
import Derived.Test.YtoejikphbienfabToStr
import Derived.Test.YtoejikphbienfabVsOpen
import Derived.Test.YtoejikphbienfabVsEq
import Derived.Test.YtoejikphbienfabVsSumI
import Derived.WalkKit
import Derived.ProofKit
import Derived.OpenShut
import Derived.ShutString
import Derived.ChangeOld
import Derived.Below
import Derived.SliceStrings
namespace Go.Proofs.Ytoejikphbienfab
open Go.ChangeShapes Go.WideShapes Go.ChangeAt Go.RowKit
open Go.ChangeMaps (open_string shut_string)
set_option linter.unusedVariables false

theorem fnExactWeightOf_own : ownKnob Try.prog.godebug = none := by kernel_rfl
theorem fnExactWeightOf_laidOut : laidOutB Try.prog = true := by kernel_rfl

theorem szW_ok (l : List ByteArray) (m : Nat) (h : 0 ≤ szR l m) : l.length + tot l ≤ m := by
  unfold szR at h
  split at h
  · assumption
  · omega
set_option maxRecDepth 20000 in
set_option maxHeartbeats 2000000 in
theorem fnExactWeightOf_walk (a0 : Option Addr) (len0 cap0 : Nat) (z0 : List Vl) (a1 : Option Addr) (len1 cap1 : Nat) (z1 : List ByteArray) (w : World) (w0 : len0 = z0.length ∧ RdV w (.slice a0 len0 cap0) z0 ∧ z0.length ≤ maxLen ∧ ∀ q ∈ z0, q.1.size ≤ maxLen) (w1x : IsRowS w a1 len1 cap1 z1) :
    Calls Try.prog 3 #[.slice a0 len0 cap0, .slice a1 len1 cap1] w fun e w' => e = .returned (.bool true) ∧ Below w.heap.size w w' := by
  obtain ⟨rfl, hr, hlm, hsm⟩ := w0
  obtain ⟨ls, rfl, hrs, hlms, hsms⟩ := w1x.rd
  clear w1x
  have hlm' : z0.length ≤ 9223372036854775807 := by unfold maxLen at hlm; omega
  have hsm' : ∀ a ∈ z0, a.1.size ≤ 9223372036854775807 := fun a ha => by have := hsm a ha; unfold maxLen at this; omega
  have hlms' : ls.length ≤ 9223372036854775807 := by unfold maxLen at hlms; omega
  have hsms' : ∀ s ∈ ls, s.size ≤ 9223372036854775807 := fun s hs => by have := hsms s hs; unfold maxLen at this; omega
  have Hz := hide (szValS_any _ z0 1048576 w hr (by omega) hlm' hsm')
  have Hr := hide hr
  have Hrs := hide hrs
  have Hss := hide hsms'
  clear hr hsm hsm' hlm hrs hsms hsms' hlms
  go_enter Try.func3, Try.ntmps3
  go_wp2_with fail
  refine Hz.out.mono ?_
  rintro e w1 ⟨r, rfl, hfit, hb1⟩
  by_cases hneg : r < 0
  · clear hfit
    go_wp2
    go_ret
    exact ⟨rfl, hb1⟩
  · have hl := hfit (by omega)
    have hl4 : z0.length ≤ 4000000 := by omega
    obtain ⟨rn, hrn⟩ : ∃ n : Nat, r = (n : Int) := ⟨r.toNat, by omega⟩
    subst hrn
    have Hzs := hide (szStringS_any _ ls rn w1 (Hrs.out.below hb1 (Nat.le_refl _)) (by omega) hlms' Hss.out)
    have Hok := hide (szW_ok ls rn)
    have hrn2 : rn ≤ 1048576 := by omega
    clear hfit Hz hl
    generalize hzr : szR ls rn = zr at Hzs Hok
    clear hzr
    go_wp2_with fail
    refine Hzs.out.mono ?_
    rintro e w' ⟨rfl, hw'⟩
    subst hw'
    by_cases hneg2 : zr < 0
    · clear Hok
      go_wp2
      go_ret
      exact ⟨rfl, hb1⟩
    have hln : ls.length ≤ 4000000 := by have := Hok.out (by omega); omega
    have HS := hide (fun v vn w hr hrn => specWeightOf_any v vn z0 ls w hr hrn hl4 hln)
    have HI := hide (fun v vn w hr hrn => implWeightOf_any v vn z0 ls w hr hrn hl4 hln)
    have HT := hide (fun v w hr => toValS_any v z0 w hr hl4)
    have HN := hide (fun v w hr => toStringS_any v ls w hr hln)
    have HE := hide (fun v1 v2 w h1 h2 => eqValS_any v1 v2 z0 z0 w h1 h2 hl4 hl4)
    have HQ := hide (fun v1 v2 w h1 h2 => eqStringS_any v1 v2 ls ls w h1 h2 hln hln)
    rw [decide_eq_true rfl] at HE HQ
    generalize weightV z0 ls = X at HS HI
    clear hl4 Hzs Hok Hss hln hrn2
    go_wp2_with fail
    refine (HT.out _ _ (Hr.out.below hb1 (Nat.le_refl _))).mono ?_
    rintro e w2 ⟨v2, rfl, ho2, hb2⟩
    have hB2 : Below w.heap.size w w2 := hb1.trans (hb2.mono hb1.size)
    go_wp2_with fail
    refine (HN.out _ _ (Hrs.out.below hB2 (Nat.le_refl _))).mono ?_
    rintro e w2a ⟨v2a, rfl, ho2a, hb2a⟩
    have hB2a : Below w.heap.size w w2a := hB2.trans (hb2a.mono hB2.size)
    go_wp2_with fail
    refine (HS.out _ _ _ (ho2.rd.below hb2a (Nat.le_refl _)) ho2a.rd).mono ?_
    rintro e w3 ⟨rfl, hb3⟩
    have hB3 : Below w.heap.size w w3 := hB2a.trans (hb3.mono hB2a.size)
    clear ho2 ho2a
    go_wp2_with fail
    refine (HT.out _ _ (Hr.out.below hB3 (Nat.le_refl _))).mono ?_
    rintro e w4 ⟨v4, rfl, ho4, hb4⟩
    have hB4 : Below w.heap.size w w4 := hB3.trans (hb4.mono hB3.size)
    go_wp2_with fail
    refine (HN.out _ _ (Hrs.out.below hB4 (Nat.le_refl _))).mono ?_
    rintro e w4a ⟨v4a, rfl, ho4a, hb4a⟩
    have hB4a : Below w.heap.size w w4a := hB4.trans (hb4a.mono hB4.size)
    have ho4 := ho4.below hb4a (Nat.le_refl _)
    go_wp2_with fail
    refine (HI.out _ _ _ ho4.rd ho4a.rd).mono ?_
    rintro e w5 ⟨rfl, hb5⟩
    have hB5 : Below w.heap.size w w5 := hB4a.trans (hb5.mono hB4a.size)
    have ho4 := ho4.below hb5 (Nat.le_refl _)
    have ho4a := ho4a.rd.below hb5 (Nat.le_refl _)
    go_wp2_with fail
    refine (HT.out _ _ (Hr.out.below hB5 (Nat.le_refl _))).mono ?_
    rintro e w6 ⟨v6, rfl, ho6, hb6⟩
    have hB6 : Below w.heap.size w w6 := hB5.trans (hb6.mono hB5.size)
    have ho4a := ho4a.below hb6 (Nat.le_refl _)
    go_wp2_with fail
    refine (HE.out _ _ _ (ho4.rd.below hb6 (Nat.le_refl _)) ho6.rd).mono ?_
    rintro e w7 ⟨rfl, hb7⟩
    have hB7 : Below w.heap.size w w7 := hB6.trans (hb7.mono hB6.size)
    have ho4a := ho4a.below hb7 (Nat.le_refl _)
    go_wp2_with fail
    refine (HN.out _ _ (Hrs.out.below hB7 (Nat.le_refl _))).mono ?_
    rintro e w8 ⟨v8, rfl, ho8, hb8⟩
    have hB8 : Below w.heap.size w w8 := hB7.trans (hb8.mono hB7.size)
    go_wp2_with fail
    refine (HQ.out _ _ _ (ho4a.below hb8 (Nat.le_refl _)) ho8.rd).mono ?_
    rintro e w9 ⟨rfl, hs9⟩
    have hB9 : Below w.heap.size w w9 := hB8.trans (hs9 _)
    go_wp2
    go_ret
    exact ⟨rfl, hB9⟩

set_option maxRecDepth 100000 in
theorem fnExactWeightOf_lifted (os : Os) (started : os.Started) (H : Type) (enc : TypeId × Value → H) :
    ReturnsInHanded {} Try.checked os 3 .any (Rows.fnExactWeightOfSpec.pre6 enc Try.prog Try.f3 Rows.fnExactWeightOfRow.domain false) (Rows.fnExactWeightOfSpec.post enc Try.prog Try.f3 false true false false) := by
  refine returnsInHanded_of_change (C := Try.checked) fnExactWeightOf_own started (by kernel_rfl) Try.func3
    (ChangeSpec.witness6 (enc := enc) (C := Try.checked) false ⟨#[], #[.slice none 0 0, .slice none 0 0], []⟩ 8 (by kernel_rfl) (by kernel_rfl) (by kernel_rfl) (by kernel_rfl)) ?_
  intro W base args ds gs before hval0 hW hcnd _
  have hval : ∀ (j : Nat) t v, Try.f3.params[j]? = some t → args[j]? = some v → Value.okWide Try.prog W .any base t v := hval0
  have hW' := hW
  obtain ⟨p, q, hA0, hV, rfl, hfz, hnd⟩ := hW
  have hA : DataW.TrodAll enc Try.prog W 0 (fun _ => true) true Try.f3.params.toList args.toList ds p := hA0
  rw [Try.params3] at hA hval
  obtain ⟨v0, vs0, d0, ds0, p0, q0, hargs, rfl, rfl, h0, r0⟩ := trodAll_cons hA
  obtain ⟨v1, vs1, d1, ds1, p1, q1, rfl, rfl, rfl, h1, r1⟩ := trodAll_cons r0
  obtain ⟨rfl, rfl, rfl⟩ := trodAll_nil r1
  obtain rfl : args = #[v0, v1] := by cases args; simp_all
  obtain ⟨rfl, rfl⟩ := trodVars_none hV
  have k0 := h0
  have lt0 : ∀ x ∈ p0, x.block < W.heap.size := by obtain ⟨m, hm⟩ := k0; exact DataW.trod_lt m _ _ _ hm
  obtain ⟨a0, len0, cap0, rfl⟩ := okWide_slice Try.underlying22 (hval 0 22 v0 rfl rfl)
  obtain ⟨z0, w0⟩ : ∃ l : List Vl, len0 = l.length ∧ RdV W (.slice a0 len0 cap0) l ∧ l.length ≤ maxLen ∧ ∀ q ∈ l, q.1.size ≤ maxLen := by
    obtain ⟨fuel, hf⟩ := h0
    exact open_vlS (by simpa [Value.cells] using hf)
  obtain ⟨a1, len1, cap1, rfl⟩ := okWide_slice Try.underlying23 (hval 1 23 v1 rfl rfl)
  have k1 := h1
  have lt1 : ∀ x ∈ p1, x.block < W.heap.size := by obtain ⟨m, hm⟩ := k1; exact DataW.trod_lt m _ _ _ hm
  obtain ⟨z1, w1⟩ : ∃ zs, IsRowS W a1 len1 cap1 zs := by
    obtain ⟨fuel, hf⟩ := h1
    rcases open_strings Try.underlying23 Try.underlying9 (by kernel_rfl) hf with ⟨hcs, _⟩ | ⟨x, l, c, zs, hcs, _, hl, hm, hz, _, hcell, hwz⟩
    · simp [Value.cells] at hcs
      obtain ⟨rfl, rfl, rfl⟩ := hcs
      exact ⟨[], .inl ⟨rfl, rfl, rfl, rfl⟩⟩
    · simp [Value.cells] at hcs
      obtain ⟨rfl, rfl, rfl⟩ := hcs
      exact ⟨zs, .inr ⟨_, rfl, hl, hm, by simpa using hz, hcell, hwz⟩⟩
  clear hA0 hval0
  refine (fnExactWeightOf_walk a0 len0 cap0 z0 a1 len1 cap1 z1 W w0 w1).mono fun e W' ⟨he, bel⟩ => ?_
  subst he
  exact ⟨_, rfl, _, _, _, [], _, [], hW', trodAll_mk1 (shut_bool Try.underlying4 _), (trodAll_cons_mk (Below.trod fnExactWeightOf_laidOut (by kernel_rfl) (of_decide_eq_true (by kernel_rfl)) k0 bel lt0) (trodAll_cons_mk (Below.trod fnExactWeightOf_laidOut (by kernel_rfl) (of_decide_eq_true (by kernel_rfl)) k1 bel lt1) trodAll_mk0)), rfl, bel.frame _, fun h => by cases h⟩

theorem fnExactWeightOf_holds : Rows.FnExactWeightOfSaid :=
  OpenClaim.holds_of_wide 3 Try.f3 rfl rfl rfl rfl rfl rfl rfl ⟨rfl, rfl, rfl, rfl, rfl⟩ rfl rfl rfl rfl rfl (by kernel_rfl) Try.func3 (by kernel_rfl)
    (of_decide_eq_true (by kernel_rfl)) (by unfold Func.isWrapper; first | (rw [if_pos (by decide +kernel)]; kernel_rfl) | (rw [if_neg (by decide +kernel)]; exact ⟨rfl, rfl⟩))
    (fun os started H enc _ => fnExactWeightOf_lifted os started H enc)

end Go.Proofs.Ytoejikphbienfab
