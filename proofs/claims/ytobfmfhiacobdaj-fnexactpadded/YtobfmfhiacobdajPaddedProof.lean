/- At all bytes Padded of the program answers as the model's Padded, writes into no argument, and its answer owns its memory: the law FnExactPadded returns true, with no condition. -/
import Derived.Test.YtobfmfhiacobdajRows
import Derived.Test.YtobfmfhiacobdajRow
import Derived.Test.YtobfmfhiacobdajPadImpl
import Derived.Test.YtobfmfhiacobdajMarks
import Derived.Test.YtobfmfhiacobdajHeld
import Derived.WalkKit
import Derived.ProofKit
import Derived.OpenShut
import Derived.ShutString
import Derived.ChangeOld
import Derived.Below
import Derived.SliceStrings
namespace Go.Proofs.Ytobfmfhiacobdaj
open Go.ChangeShapes Go.WideShapes Go.ChangeAt Go.RowKit
open Go.ChangeMaps (open_string shut_string)
set_option linter.unusedVariables false

theorem fnExactPadded_own : ownKnob Try.prog.godebug = none := by kernel_rfl
theorem fnExactPadded_laidOut : laidOutB Try.prog = true := by kernel_rfl

set_option maxRecDepth 20000 in
set_option maxHeartbeats 1000000 in
theorem fnExactPadded_walk (a0 : Option Addr) (len0 cap0 : Nat) (z0 : List Int) (w : World) (w0 : IsRow .u8 w a0 len0 cap0 z0) :
    Calls Try.prog 6 #[.slice a0 len0 cap0] w fun e w' => e = .returned (.bool true) ∧ Below w.heap.size w w' := by
  obtain ⟨l, rfl, hr⟩ := w0.rd
  clear w0
  have hcap : l.length ≤ 9223372036854775807 := by
    rcases hr with ⟨_, _, _, e, _⟩ | ⟨_, _, cap, _, _, h1, h2, _⟩
    · subst e; simp
    · unfold maxLen at h2; omega
  by_cases hbig : 1048576 < l.length
  · clear hr
    go_enter Try.func6, Try.ntmps6
    go_wp2
    go_ret
    exact ⟨rfl, Below.refl _ _⟩
  · have hl : l.length ≤ 1048576 := by omega
    have hl4 : l.length ≤ 4000000 := by omega
    have hl40 : l.length ≤ 40000000 := by omega
    obtain ⟨P, hP, hP2⟩ : ∃ P, padB l = P ∧ P.length ≤ 1048700 := ⟨_, rfl, by have := padB_len l; have := padZ_lt l.length; omega⟩
    have HS := hide (fun v w hr => specPadded_any v l w hr hl4)
    have HI := hide (fun v w hr => implPadded_any v l w hr hl4)
    rw [hP] at HS HI
    clear hP
    have Hr := hide hr
    clear hr
    go_enter Try.func6, Try.ntmps6
    go_wp2_with fail
    refine (toByteS_any _ l _ Hr.out hl4).mono ?_
    rintro e w1 ⟨v1, rfl, ho1, hb1⟩
    go_wp2_with fail
    refine (HS.out _ _ ho1.rd).mono ?_
    rintro e w2 ⟨v2, rfl, ho2, hb2⟩
    have hB2 : Below w.heap.size w w2 := hb1.trans (hb2.mono hb1.size)
    clear ho1
    have lt2 := ho2.lt
    go_wp2_with fail
    refine (toByteS_any _ l _ (Hr.out.below hB2 (Nat.le_refl _)) hl4).mono ?_
    rintro e w3 ⟨v3, rfl, ho3, hb3⟩
    have hB3 : Below w.heap.size w w3 := hB2.trans (hb3.mono hB2.size)
    have ho2 := ho2.below hb3 (Nat.le_refl _)
    have ge3 := ho3.ge
    have lt3 := ho3.lt
    go_wp2_with fail
    refine (HI.out _ _ ho3.rd).mono ?_
    rintro e w4 ⟨v4, rfl, ho4, hb4⟩
    have hB4 : Below w.heap.size w w4 := hB3.trans (hb4.mono hB3.size)
    have ho2 := ho2.below hb4 (Nat.le_refl _)
    have ge4 := ho4.ge
    have ho3 := ho3.below hb4 (Nat.le_refl _)
    go_wp2_with fail
    refine (eqByteS_any _ _ P P _ ho4.rd ho2.rd (by omega) (by omega)).mono ?_
    rintro e w5 ⟨rfl, hs5⟩
    have hB5 : Below w.heap.size w w5 := hB4.trans (hs5 _)
    have ho2 := ho2.below (hs5 _) (Nat.le_refl _)
    have ho3 := ho3.below (hs5 _) (Nat.le_refl _)
    have ho4 := ho4.below (hs5 _) (Nat.le_refl _)
    go_wp2_with fail
    refine (toByteS_any _ l _ (Hr.out.below hB5 (Nat.le_refl _)) hl4).mono ?_
    rintro e w6 ⟨v6, rfl, ho6, hb6⟩
    have hB6 : Below w.heap.size w w6 := hB5.trans (hb6.mono hB5.size)
    have ho2 := ho2.below hb6 (Nat.le_refl _)
    have ho3 := ho3.below hb6 (Nat.le_refl _)
    have ho4 := ho4.below hb6 (Nat.le_refl _)
    go_wp2_with fail
    refine (eqByteS_any _ _ l l _ ho3.rd ho6.rd (by omega) (by omega)).mono ?_
    rintro e w7 ⟨rfl, hs7⟩
    have hB7 : Below w.heap.size w w7 := hB6.trans (hs7 _)
    have ho2 := ho2.below (hs7 _) (Nat.le_refl _)
    have ho3 := ho3.below (hs7 _) (Nat.le_refl _)
    have ho4 := ho4.below (hs7 _) (Nat.le_refl _)
    clear ho6
    go_wp2_with fail
    refine (markByteS_any _ l 1 _ _ ho3 (by omega) (by omega)).mono ?_
    rintro e w8 ⟨rfl, ho3', hg8⟩
    have hB8 : Below w.heap.size w w8 := hB7.grown hg8 hB7.size (fun k hk => Nat.le_trans hB2.size (ge3 k hk))
    have ho2 := ho2.kept hg8 (apart_of lt2 ge3 (Nat.le_refl _))
    have ho4 := ho4.kept hg8 (apart_of' ge4 lt3 (Nat.le_refl _))
    go_wp2_with fail
    refine (eqByteS_any _ _ P P _ ho4.rd ho2.rd (by omega) (by omega)).mono ?_
    rintro e w9 ⟨rfl, hs9⟩
    have hB9 : Below w.heap.size w w9 := hB8.trans (hs9 _)
    have ho2 := ho2.below (hs9 _) (Nat.le_refl _)
    have ho4 := ho4.below (hs9 _) (Nat.le_refl _)
    go_wp2_with fail
    refine (markByteS_any _ P 1 _ _ ho4 (by omega) (by omega)).mono ?_
    rintro e w10 ⟨rfl, hm4, hg10⟩
    have hB10 : Below w.heap.size w w10 := hB9.grown hg10 hB9.size (fun k hk => Nat.le_trans hB3.size (ge4 k hk))
    have ho2 := ho2.kept hg10 (apart_of lt2 ge4 hb3.size)
    go_wp2_with fail
    refine (heldByteS_any _ 1 P.length _ hm4.rd (by omega) (by omega)).mono ?_
    rintro e w11 ⟨rfl, rfl⟩
    go_wp2_with fail
    refine (toByteS_any _ l _ (Hr.out.below hB10 (Nat.le_refl _)) hl4).mono ?_
    rintro e w12 ⟨v12, rfl, ho12, hb12⟩
    have hB12 : Below w.heap.size w w12 := hB10.trans (hb12.mono hB10.size)
    have ho2 := ho2.below hb12 (Nat.le_refl _)
    have hm4 := hm4.below hb12 (Nat.le_refl _)
    go_wp2_with fail
    refine (HI.out _ _ ho12.rd).mono ?_
    rintro e w13 ⟨v13, rfl, ho13, hb13⟩
    have hB13 : Below w.heap.size w w13 := hB12.trans (hb13.mono hB12.size)
    have ho2 := ho2.below hb13 (Nat.le_refl _)
    have hm4 := hm4.below hb13 (Nat.le_refl _)
    clear ho12
    go_wp2_with fail
    refine (eqByteS_any _ _ P P _ ho13.rd ho2.rd (by omega) (by omega)).mono ?_
    rintro e w14 ⟨rfl, hs14⟩
    have hB14 : Below w.heap.size w w14 := hB13.trans (hs14 _)
    have hm4 := hm4.below (hs14 _) (Nat.le_refl _)
    go_wp2_with fail
    refine (heldByteS_any _ 1 P.length _ hm4.rd (by omega) (by omega)).mono ?_
    rintro e w15 ⟨rfl, rfl⟩
    go_wp2
    go_ret
    exact ⟨rfl, hB14⟩

set_option maxRecDepth 100000 in
theorem fnExactPadded_lifted (os : Os) (started : os.Started) (H : Type) (enc : TypeId × Value → H) :
    ReturnsInHanded {} Try.checked os 6 .any (Rows.fnExactPaddedSpec.pre6 enc Try.prog Try.f6 Rows.fnExactPaddedRow.domain false) (Rows.fnExactPaddedSpec.post enc Try.prog Try.f6 false true false false) := by
  refine returnsInHanded_of_change (C := Try.checked) fnExactPadded_own started (by kernel_rfl) Try.func6
    (ChangeSpec.witness6 (enc := enc) (C := Try.checked) false ⟨#[], #[.slice none 0 0], []⟩ 8 (by kernel_rfl) (by kernel_rfl) (by kernel_rfl) (by kernel_rfl)) ?_
  intro W base args ds gs before hval0 hW hcnd _
  have hval : ∀ (j : Nat) t v, Try.f6.params[j]? = some t → args[j]? = some v → Value.okWide Try.prog W .any base t v := hval0
  have hW' := hW
  obtain ⟨p, q, hA0, hV, rfl, hfz, hnd⟩ := hW
  have hA : DataW.TrodAll enc Try.prog W 0 (fun _ => true) true Try.f6.params.toList args.toList ds p := hA0
  rw [Try.params6] at hA hval
  obtain ⟨v0, vs0, d0, ds0, p0, q0, hargs, rfl, rfl, h0, r0⟩ := trodAll_cons hA
  obtain ⟨rfl, rfl, rfl⟩ := trodAll_nil r0
  obtain rfl : args = #[v0] := by cases args; simp_all
  obtain ⟨rfl, rfl⟩ := trodVars_none hV
  obtain ⟨a0, len0, cap0, rfl⟩ := okWide_slice Try.underlying22 (hval 0 22 v0 rfl rfl)
  have k0 := h0
  have lt0 : ∀ x ∈ p0, x.block < W.heap.size := by obtain ⟨m, hm⟩ := k0; exact DataW.trod_lt m _ _ _ hm
  obtain ⟨z0, w0⟩ : ∃ zs, IsRow .u8 W a0 len0 cap0 zs := by
    obtain ⟨fuel, hf⟩ := h0
    rcases open_ints Try.underlying22 Try.underlying5 (by kernel_rfl) hf with ⟨hcs, _⟩ | ⟨x, l, c, zs, hcs, _, hl, hm, hz, _, hcell, hwz⟩
    · simp [Value.cells] at hcs
      obtain ⟨rfl, rfl, rfl⟩ := hcs
      exact ⟨[], .inl ⟨rfl, rfl, rfl, rfl⟩⟩
    · simp [Value.cells] at hcs
      obtain ⟨rfl, rfl, rfl⟩ := hcs
      exact ⟨zs, .inr ⟨_, rfl, hl, hm, by simpa using hz, hcell, hwz⟩⟩
  clear hA0 hval0
  refine (fnExactPadded_walk a0 len0 cap0 z0 W w0).mono fun e W' ⟨he, bel⟩ => ?_
  subst he
  exact ⟨_, rfl, _, _, _, [], _, [], hW', trodAll_mk1 (shut_bool Try.underlying4 _), (trodAll_cons_mk (Below.trod fnExactPadded_laidOut (by kernel_rfl) (of_decide_eq_true (by kernel_rfl)) k0 bel lt0) trodAll_mk0), rfl, bel.frame _, fun h => by cases h⟩

theorem fnExactPadded_holds : Rows.FnExactPaddedSaid :=
  OpenClaim.holds_of_wide 6 Try.f6 rfl rfl rfl rfl rfl rfl rfl ⟨rfl, rfl, rfl, rfl, rfl⟩ rfl rfl rfl rfl rfl (by kernel_rfl) Try.func6 (by kernel_rfl)
    (of_decide_eq_true (by kernel_rfl)) (by unfold Func.isWrapper; first | (rw [if_pos (by decide +kernel)]; kernel_rfl) | (rw [if_neg (by decide +kernel)]; exact ⟨rfl, rfl⟩))
    (fun os started H enc _ => fnExactPadded_lifted os started H enc)

end Go.Proofs.Ytobfmfhiacobdaj
