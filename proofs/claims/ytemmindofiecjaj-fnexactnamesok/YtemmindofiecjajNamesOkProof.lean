/- At all lists of texts NamesOk of the program answers as the model's NamesOk, and the law FnExactNamesOk returns true: with no condition. -/
import Derived.Test.YtemmindofiecjajRows
import Derived.Test.YtemmindofiecjajRowS
import Derived.Test.YtemmindofiecjajToStr
import Derived.Test.YtemmindofiecjajNamesOk
import Derived.WalkKit
import Derived.ProofKit
import Derived.OpenShut
import Derived.ShutString
import Derived.ChangeOld
import Derived.Below
import Derived.SliceStrings
namespace Go.Proofs.Ytemmindofiecjaj
open Go.ChangeShapes Go.WideShapes Go.ChangeAt Go.RowKit
open Go.ChangeMaps (open_string shut_string)
set_option linter.unusedVariables false

theorem fnExactNamesOk_own : ownKnob Try.prog.godebug = none := by kernel_rfl
theorem fnExactNamesOk_laidOut : laidOutB Try.prog = true := by kernel_rfl

theorem szR_ok (l : List ByteArray) (m : Nat) (h : 0 ≤ szR l m) : l.length + tot l ≤ m := by
  unfold szR at h
  split at h
  · assumption
  · omega

set_option maxRecDepth 20000 in
set_option maxHeartbeats 1000000 in
theorem fnExactNamesOk_walk (a0 : Option Addr) (len0 cap0 : Nat) (z0 : List ByteArray) (w : World) (w0 : IsRowS w a0 len0 cap0 z0) :
    Calls Try.prog 5 #[.slice a0 len0 cap0] w fun e w' => e = .returned (.bool true) ∧ Below w.heap.size w w' := by
  obtain ⟨l, rfl, hr, hlm, hsm⟩ := w0.rd
  clear w0
  have hlm' : l.length ≤ 9223372036854775807 := by unfold maxLen at hlm; omega
  have hsm' : ∀ s ∈ l, s.size ≤ 9223372036854775807 := fun s hs => by have := hsm s hs; unfold maxLen at this; omega
  have Hz := hide (szStringS_any _ l 1048576 w hr (by omega) hlm' hsm')
  have Hok := hide (szR_ok l 1048576)
  have Hr := hide hr
  have Hsm := hide hsm
  clear hr hsm hsm'
  by_cases hneg : szR l 1048576 < 0
  · generalize szR l 1048576 = z at hneg Hz
    clear Hok
    go_enter Try.func5, Try.ntmps5
    go_wp2_with fail
    refine Hz.out.mono ?_
    rintro e w' ⟨rfl, rfl⟩
    go_wp2
    go_ret
    exact ⟨rfl, Below.refl _ _⟩
  · have hl := Hok.out (by omega)
    have hl4 : l.length ≤ 4000000 := by omega
    generalize szR l 1048576 = z at hneg Hz
    clear Hok hl
    have HS := hide (fun v w hr => specNamesOk_any v l w hr hl4 Hsm.out)
    have HI := hide (fun v w hr => implNamesOk_any v l w hr hl4 Hsm.out)
    generalize nmsB l = B at HS HI
    go_enter Try.func5, Try.ntmps5
    go_wp2_with fail
    refine Hz.out.mono ?_
    rintro e w' ⟨rfl, rfl⟩
    go_wp2_with fail
    refine (toStringS_any _ l _ Hr.out hl4).mono ?_
    rintro e w1 ⟨v1, rfl, ho1, hb1⟩
    go_wp2_with fail
    refine (HS.out _ _ ho1.rd).mono ?_
    rintro e w2 ⟨rfl, hs2⟩
    have hB2 : Below w'.heap.size w' w2 := hb1.trans (hs2 _)
    clear ho1
    go_wp2_with fail
    refine (toStringS_any _ l _ (Hr.out.below hB2 (Nat.le_refl _)) hl4).mono ?_
    rintro e w3 ⟨v3, rfl, ho3, hb3⟩
    have hB3 : Below w'.heap.size w' w3 := hB2.trans (hb3.mono hB2.size)
    go_wp2_with fail
    refine (HI.out _ _ ho3.rd).mono ?_
    rintro e w3' ⟨rfl, rfl⟩
    go_wp2_with fail
    refine (toStringS_any _ l _ (Hr.out.below hB3 (Nat.le_refl _)) hl4).mono ?_
    rintro e w4 ⟨v4, rfl, ho4, hb4⟩
    have hB4 : Below w'.heap.size w' w4 := hB3.trans (hb4.mono hB3.size)
    go_wp2_with fail
    refine (eqStringS_any _ _ l l _ (ho3.rd.below hb4 (Nat.le_refl _)) ho4.rd hl4 hl4).mono ?_
    rintro e w5 ⟨rfl, hs5⟩
    have hB5 : Below w'.heap.size w' w5 := hB4.trans (hs5 _)
    go_wp2
    go_ret
    exact ⟨rfl, hB5⟩

set_option maxRecDepth 100000 in
theorem fnExactNamesOk_lifted (os : Os) (started : os.Started) (H : Type) (enc : TypeId × Value → H) :
    ReturnsInHanded {} Try.checked os 5 .any (Rows.fnExactNamesOkSpec.pre6 enc Try.prog Try.f5 Rows.fnExactNamesOkRow.domain false) (Rows.fnExactNamesOkSpec.post enc Try.prog Try.f5 false true false false) := by
  refine returnsInHanded_of_change (C := Try.checked) fnExactNamesOk_own started (by kernel_rfl) Try.func5
    (ChangeSpec.witness6 (enc := enc) (C := Try.checked) false ⟨#[], #[.slice none 0 0], []⟩ 8 (by kernel_rfl) (by kernel_rfl) (by kernel_rfl) (by kernel_rfl)) ?_
  intro W base args ds gs before hval0 hW hcnd _
  have hval : ∀ (j : Nat) t v, Try.f5.params[j]? = some t → args[j]? = some v → Value.okWide Try.prog W .any base t v := hval0
  have hW' := hW
  obtain ⟨p, q, hA0, hV, rfl, hfz, hnd⟩ := hW
  have hA : DataW.TrodAll enc Try.prog W 0 (fun _ => true) true Try.f5.params.toList args.toList ds p := hA0
  rw [Try.params5] at hA hval
  obtain ⟨v0, vs0, d0, ds0, p0, q0, hargs, rfl, rfl, h0, r0⟩ := trodAll_cons hA
  obtain ⟨rfl, rfl, rfl⟩ := trodAll_nil r0
  obtain rfl : args = #[v0] := by cases args; simp_all
  obtain ⟨rfl, rfl⟩ := trodVars_none hV
  obtain ⟨a0, len0, cap0, rfl⟩ := okWide_slice Try.underlying23 (hval 0 23 v0 rfl rfl)
  have k0 := h0
  have lt0 : ∀ x ∈ p0, x.block < W.heap.size := by obtain ⟨m, hm⟩ := k0; exact DataW.trod_lt m _ _ _ hm
  obtain ⟨z0, w0⟩ : ∃ zs, IsRowS W a0 len0 cap0 zs := by
    obtain ⟨fuel, hf⟩ := h0
    rcases open_strings Try.underlying23 Try.underlying9 (by kernel_rfl) hf with ⟨hcs, _⟩ | ⟨x, l, c, zs, hcs, _, hl, hm, hz, _, hcell, hwz⟩
    · simp [Value.cells] at hcs
      obtain ⟨rfl, rfl, rfl⟩ := hcs
      exact ⟨[], .inl ⟨rfl, rfl, rfl, rfl⟩⟩
    · simp [Value.cells] at hcs
      obtain ⟨rfl, rfl, rfl⟩ := hcs
      exact ⟨zs, .inr ⟨_, rfl, hl, hm, by simpa using hz, hcell, hwz⟩⟩
  clear hA0 hval0
  refine (fnExactNamesOk_walk a0 len0 cap0 z0 W w0).mono fun e W' ⟨he, bel⟩ => ?_
  subst he
  exact ⟨_, rfl, _, _, _, [], _, [], hW', trodAll_mk1 (shut_bool Try.underlying4 _), (trodAll_cons_mk (Below.trod fnExactNamesOk_laidOut (by kernel_rfl) (of_decide_eq_true (by kernel_rfl)) k0 bel lt0) trodAll_mk0), rfl, bel.frame _, fun h => by cases h⟩

theorem fnExactNamesOk_holds : Rows.FnExactNamesOkSaid :=
  OpenClaim.holds_of_wide 5 Try.f5 rfl rfl rfl rfl rfl rfl rfl ⟨rfl, rfl, rfl, rfl, rfl⟩ rfl rfl rfl rfl rfl (by kernel_rfl) Try.func5 (by kernel_rfl)
    (of_decide_eq_true (by kernel_rfl)) (by unfold Func.isWrapper; first | (rw [if_pos (by decide +kernel)]; kernel_rfl) | (rw [if_neg (by decide +kernel)]; exact ⟨rfl, rfl⟩))
    (fun os started H enc _ => fnExactNamesOk_lifted os started H enc)

end Go.Proofs.Ytemmindofiecjaj
