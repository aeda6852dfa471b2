/- At all lists of blocks and numbers Ended of the program answers as the model's Ended, and writes into no argument: the law FnExactEnded returns true, with no condition. -/
import Derived.Test.YtlfoaobgdipdlabRows
import Derived.Test.YtlfoaobgdipdlabKsOpen
import Derived.Test.YtlfoaobgdipdlabKsSzW
import Derived.Test.YtlfoaobgdipdlabKsEq
import Derived.Test.YtlfoaobgdipdlabEnSpec
import Derived.Test.YtlfoaobgdipdlabEnImpl
import Derived.WalkKit
import Derived.ProofKit
import Derived.OpenShut
import Derived.ShutString
import Derived.ChangeOld
import Derived.Below
import Derived.SliceStrings
namespace Go.Proofs.Ytlfoaobgdipdlab
open Go.ChangeShapes Go.WideShapes Go.ChangeAt Go.RowKit
open Go.ChangeMaps (open_string shut_string)
set_option linter.unusedVariables false

theorem fnExactEnded_own : ownKnob Try.prog.godebug = none := by kernel_rfl
theorem fnExactEnded_laidOut : laidOutB Try.prog = true := by kernel_rfl

set_option maxRecDepth 20000 in
set_option maxHeartbeats 2000000 in
theorem fnExactEnded_walk (a0 : Option Addr) (len0 cap0 : Nat) (z0 : List Bk) (a1 : Int) (w : World) (w0 : len0 = z0.length ∧ RdKs w (.slice a0 len0 cap0) z0 ∧ z0.length ≤ maxLen ∧ ∀ q ∈ z0, FitK q) (w1 : (Lit.int .i64 a1).wf = true) :
    Calls Try.prog 4 #[.slice a0 len0 cap0, .int .i64 a1] w fun e w' => e = .returned (.bool true) ∧ Below w.heap.size w w' := by
  clear w1
  obtain ⟨rfl, hr, hlm, hsm⟩ := w0
  have Hz := hide (szBlockS_any _ z0 1048576 w hr (by omega) hlm hsm)
  have Hr := hide hr
  have Hsm := hide hsm
  clear hr hsm hlm
  go_enter Try.func4, Try.ntmps4
  go_wp2_with fail
  refine Hz.out.mono ?_
  rintro e w1 ⟨r, rfl, hfit, hb1⟩
  by_cases hneg : r < 0
  · clear hfit
    go_wp2
    go_ret
    exact ⟨rfl, hb1⟩
  · have hl := hfit (by omega)
    have hl4 : z0.length ≤ 4000000 := by omega
    have hfew := fewS_of Hsm.out hl.2.1
    have htr := trS_of Hsm.out
    have HS := hide (fun v w hr => specEnded_any v z0 a1 w hr hl4 hfew htr)
    have HI := hide (fun v w hr => implEnded_any v z0 a1 w hr hl4 hfew htr)
    have HT := hide (fun v w hr => toBlockS_any v z0 w hr hl4 hfew)
    have HE := hide (fun v1 v2 w h1 h2 => eqBlockS_any v1 v2 z0 w h1 h2 hl4 hfew)
    generalize enB z0 a1 = X at HS HI
    clear hfit hl hl4 Hsm Hz hfew htr
    go_wp2_with fail
    refine (HT.out _ _ (Hr.out.below hb1 (Nat.le_refl _))).mono ?_
    rintro e w2 ⟨v2, rfl, ho2, hb2⟩
    have hB2 : Below w.heap.size w w2 := hb1.trans (hb2.mono hb1.size)
    go_wp2_with fail
    refine (HS.out _ _ ho2.rd).mono ?_
    rintro e w3 ⟨rfl, hb3⟩
    have hB3 : Below w.heap.size w w3 := hB2.trans (hb3.mono hB2.size)
    clear ho2
    go_wp2_with fail
    refine (HT.out _ _ (Hr.out.below hB3 (Nat.le_refl _))).mono ?_
    rintro e w4 ⟨v4, rfl, ho4, hb4⟩
    have hB4 : Below w.heap.size w w4 := hB3.trans (hb4.mono hB3.size)
    go_wp2_with fail
    refine (HI.out _ _ ho4.rd).mono ?_
    rintro e w5 ⟨rfl, hb5⟩
    have hB5 : Below w.heap.size w w5 := hB4.trans (hb5.mono hB4.size)
    have ho4 := ho4.below hb5 (Nat.le_refl _)
    go_wp2_with fail
    refine (HT.out _ _ (Hr.out.below hB5 (Nat.le_refl _))).mono ?_
    rintro e w6 ⟨v6, rfl, ho6, hb6⟩
    have hB6 : Below w.heap.size w w6 := hB5.trans (hb6.mono hB5.size)
    go_wp2_with fail
    refine (HE.out _ _ _ (ho4.rd.below hb6 (Nat.le_refl _)) ho6.rd).mono ?_
    rintro e w7 ⟨rfl, hb7⟩
    have hB7 : Below w.heap.size w w7 := hB6.trans (hb7.mono hB6.size)
    go_wp2
    go_ret
    exact ⟨rfl, hB7⟩

set_option maxRecDepth 100000 in
theorem fnExactEnded_lifted (os : Os) (started : os.Started) (H : Type) (enc : TypeId × Value → H) :
    ReturnsInHanded {} Try.checked os 4 .any (Rows.fnExactEndedSpec.pre6 enc Try.prog Try.f4 Rows.fnExactEndedRow.domain false) (Rows.fnExactEndedSpec.post enc Try.prog Try.f4 false true false false) := by
  refine returnsInHanded_of_change (C := Try.checked) fnExactEnded_own started (by kernel_rfl) Try.func4
    (ChangeSpec.witness6 (enc := enc) (C := Try.checked) false ⟨#[], #[.slice none 0 0, .int .i64 0], []⟩ 8 (by kernel_rfl) (by kernel_rfl) (by kernel_rfl) (by kernel_rfl)) ?_
  intro W base args ds gs before hval0 hW hcnd _
  have hval : ∀ (j : Nat) t v, Try.f4.params[j]? = some t → args[j]? = some v → Value.okWide Try.prog W .any base t v := hval0
  have hW' := hW
  obtain ⟨p, q, hA0, hV, rfl, hfz, hnd⟩ := hW
  have hA : DataW.TrodAll enc Try.prog W 0 (fun _ => true) true Try.f4.params.toList args.toList ds p := hA0
  rw [Try.params4] at hA hval
  obtain ⟨v0, vs0, d0, ds0, p0, q0, hargs, rfl, rfl, h0, r0⟩ := trodAll_cons hA
  obtain ⟨v1, vs1, d1, ds1, p1, q1, rfl, rfl, rfl, h1, r1⟩ := trodAll_cons r0
  obtain ⟨rfl, rfl, rfl⟩ := trodAll_nil r1
  obtain rfl : args = #[v0, v1] := by cases args; simp_all
  obtain ⟨rfl, rfl⟩ := trodVars_none hV
  have k0 := h0
  have lt0 : ∀ x ∈ p0, x.block < W.heap.size := by obtain ⟨m, hm⟩ := k0; exact DataW.trod_lt m _ _ _ hm
  obtain ⟨a0, len0, cap0, rfl⟩ := okWide_slice Try.underlying22 (hval 0 22 v0 rfl rfl)
  obtain ⟨z0, w0⟩ : ∃ l : List Bk, len0 = l.length ∧ RdKs W (.slice a0 len0 cap0) l ∧ l.length ≤ maxLen ∧ ∀ q ∈ l, FitK q := by
    obtain ⟨fuel, hf⟩ := h0
    exact open_blockS (by simpa [Value.cells] using hf)
  obtain ⟨a1, rfl, rfl, rfl, w1⟩ := open_int Try.underlying3 (hval 1 3 v1 rfl rfl) h1
  clear hA0 hval0
  refine (fnExactEnded_walk a0 len0 cap0 z0 a1 W w0 w1).mono fun e W' ⟨he, bel⟩ => ?_
  subst he
  exact ⟨_, rfl, _, _, _, [], _, [], hW', trodAll_mk1 (shut_bool Try.underlying4 _), (trodAll_cons_mk (Below.trod fnExactEnded_laidOut (by kernel_rfl) (of_decide_eq_true (by kernel_rfl)) k0 bel lt0) (trodAll_cons_mk (shut_int Try.underlying3 w1) trodAll_mk0)), rfl, bel.frame _, fun h => by cases h⟩

theorem fnExactEnded_holds : Rows.FnExactEndedSaid :=
  OpenClaim.holds_of_wide 4 Try.f4 rfl rfl rfl rfl rfl rfl rfl ⟨rfl, rfl, rfl, rfl, rfl⟩ rfl rfl rfl rfl rfl (by kernel_rfl) Try.func4 (by kernel_rfl)
    (of_decide_eq_true (by kernel_rfl)) (by unfold Func.isWrapper; first | (rw [if_pos (by decide +kernel)]; kernel_rfl) | (rw [if_neg (by decide +kernel)]; exact ⟨rfl, rfl⟩))
    (fun os started H enc _ => fnExactEnded_lifted os started H enc)

end Go.Proofs.Ytlfoaobgdipdlab
