/- At all lists of texts RootOf of the program answers as the model's RootOf, and writes into no argument: the law FnExactRootOf returns true, with no condition but that the two package-level tables read as the program's text lays them. -/
import Derived.Test.YtknnecmfebnfbakDoorRows
import Derived.Test.YtknnecmfebnfbakDoorTie
import Derived.Test.YtknnecmfebnfbakDoorCards
import Derived.Test.YtknnecmfebnfbakDoorRow
import Derived.Test.YtknnecmfebnfbakDoorRowS
import Derived.Test.YtknnecmfebnfbakDoorToStr
import Derived.Test.YtknnecmfebnfbakDoorMerkRoot
import Derived.Test.YtknnecmfebnfbakDoorMerkRootI
import Derived.Test.YtknnecmfebnfbakDoorDoorLaid
import Derived.WalkKit
import Derived.ProofKit
import Derived.OpenShut
import Derived.ShutString
import Derived.ChangeOld
import Derived.Below
import Derived.SliceStrings
import Derived.OpenVars
import Derived.SevenTiedAt
namespace Go.Proofs.YtknnecmfebnfbakDoor
open Go.ChangeShapes Go.WideShapes Go.ChangeAt Go.RowKit
open Go.ChangeMaps (open_string shut_string)
set_option linter.unusedVariables false

theorem fnExactRootOf_own : ownKnob Tryd.prog.godebug = none := by kernel_rfl
theorem fnExactRootOf_laidOut : laidOutB Tryd.prog = true := by kernel_rfl

theorem szR_ok (l : List ByteArray) (m : Nat) (h : 0 ≤ szR l m) : l.length + tot l ≤ m := by
  unfold szR at h
  split at h
  · assumption
  · omega
theorem tot_all (l : List ByteArray) (m : Nat) (h : l.length + tot l ≤ m) : ∀ s ∈ l, s.size ≤ m := by
  intro s hs
  obtain ⟨k, hk, rfl⟩ := List.getElem_of_mem hs
  have := tot_at l k hk
  omega

set_option maxRecDepth 20000 in
set_option maxHeartbeats 1000000 in
theorem fnExactRootOf_walk (a0 : Option Addr) (len0 cap0 : Nat) (z0 : List ByteArray) (w : World) (hgl : Gl w) (w0 : IsRowS w a0 len0 cap0 z0) :
    Calls Tryd.prog 5 #[.slice a0 len0 cap0] w fun e w' => e = .returned (.bool true) ∧ Below w.heap.size w w' := by
  obtain ⟨l, rfl, hr, hlm, hsm⟩ := w0.rd
  clear w0
  have hlm' : l.length ≤ 9223372036854775807 := by unfold maxLen at hlm; omega
  have hsm' : ∀ s ∈ l, s.size ≤ 9223372036854775807 := fun s hs => by have := hsm s hs; unfold maxLen at this; omega
  have Hz := hide (szStringS_any _ l 1048576 w hr (by omega) hlm' hsm')
  have Hok := hide (szR_ok l 1048576)
  have Hr := hide hr
  have Hgl := hide hgl
  clear hr hsm hsm' hgl
  by_cases hneg : szR l 1048576 < 0
  · generalize szR l 1048576 = z at hneg Hz
    clear Hok
    go_enter Tryd.func5, Tryd.ntmps5
    go_wp2_with fail
    refine Hz.out.mono ?_
    rintro e w' ⟨rfl, rfl⟩
    go_wp2
    go_ret
    exact ⟨rfl, Below.refl _ _⟩
  · have hl := Hok.out (by omega)
    have hall := fun s hs => Nat.le_trans (tot_all l 1048576 hl s hs) (show 1048576 ≤ 1500000 by omega)
    have hl4 : l.length ≤ 4000000 := by omega
    have HS := hide (fun v w hr => specRootOf_any l v w (by omega) hr hall)
    have HI := hide (fun v w hr hg => implRootOf_any l v w (by omega) hr hall hg)
    generalize (if 64 < l.length then ByteArray.empty else rootB l) = X at HS HI
    generalize szR l 1048576 = z at hneg Hz
    clear Hok hl hall
    go_enter Tryd.func5, Tryd.ntmps5
    go_wp2_with fail
    refine Hz.out.mono ?_
    rintro e w' ⟨rfl, rfl⟩
    go_wp2_with fail
    refine (toStringS_any _ l _ Hr.out hl4).mono ?_
    rintro e w1 ⟨v1, rfl, ho1, hb1⟩
    go_wp2_with fail
    refine (HS.out _ _ ho1.rd).mono ?_
    rintro e w2 ⟨rfl, hb2⟩
    have hB2 : Below w'.heap.size w' w2 := hb1.trans (hb2.mono hb1.size)
    clear ho1
    go_wp2_with fail
    refine (toStringS_any _ l _ (Hr.out.below hB2 (Nat.le_refl _)) hl4).mono ?_
    rintro e w3 ⟨v3, rfl, ho3, hb3⟩
    have hB3 : Below w'.heap.size w' w3 := hB2.trans (hb3.mono hB2.size)
    go_wp2_with fail
    refine (HI.out _ _ ho3.rd (Hgl.out.below hB3 (Nat.le_refl _))).mono ?_
    rintro e w4 ⟨rfl, hb4⟩
    have hB4 : Below w'.heap.size w' w4 := hB3.trans (hb4.mono hB3.size)
    have ho3 := ho3.below hb4 (Nat.le_refl _)
    go_wp2_with fail
    refine (toStringS_any _ l _ (Hr.out.below hB4 (Nat.le_refl _)) hl4).mono ?_
    rintro e w5 ⟨v5, rfl, ho5, hb5⟩
    have hB5 : Below w'.heap.size w' w5 := hB4.trans (hb5.mono hB4.size)
    go_wp2_with fail
    refine (eqStringS_any _ _ l l _ (ho3.rd.below hb5 (Nat.le_refl _)) ho5.rd hl4 hl4).mono ?_
    rintro e w6 ⟨rfl, hs6⟩
    have hB6 : Below w'.heap.size w' w6 := hB5.trans (hs6 _)
    go_wp2
    go_ret
    exact ⟨rfl, hB6⟩

theorem fnExactRootOf_doorMet (os : Os) (args : Array Value) : laidMetH Tryd.prog Rows.fnExactRootOfRow.laid ((World.doorLaid Tryd.prog 400 os).forCall (fun _ _ => 0) ⟨#[], args, []⟩).memory :=
  laidMetH_of_parts3 (fuel := 8) (laidMet_of_run' 8 (by kernel_rfl) (by kernel_rfl)) (by kernel_rfl) (by kernel_rfl)
theorem fnExactRootOf_gl {W : World} (h : laidMetH Tryd.prog Rows.fnExactRootOfRow.laid W) : Gl W := by
  rw [MakeChecks.laidMetH_plain _ _ _ (by kernel_rfl)] at h
  exact gl_of_reads (Lib.laidMet.reads h (.head _)) (Lib.laidMet.reads h (.tail _ (.head _)))

set_option maxRecDepth 100000 in
theorem fnExactRootOf_lifted (os : Os) (started : os.Started) (H : Type) (enc : TypeId × Value → H) :
    ReturnsInHanded {} Tryd.checked os 5 .any (fun w args => (Rows.fnExactRootOfSpec.pre enc Tryd.prog Tryd.f5 [] false w args ∧ laidMetH Tryd.prog Rows.fnExactRootOfRow.laid w) ∧ sizedMet enc Tryd.prog Tryd.f5 (OpenSpec.ofChange Rows.fnExactRootOfSpec) false w args)
      (Rows.fnExactRootOfSpec.post enc Tryd.prog Tryd.f5 false true false false) := by
  refine returnsInHanded_of_change_and (C := Tryd.checked) (X := fun w _ => laidMetH Tryd.prog Rows.fnExactRootOfRow.laid w) (fun _ _ _ hh h => h.of_heap hh) fnExactRootOf_own started (by kernel_rfl) Tryd.func5
    (ChangeSpec.witness_shaped (enc := enc) (C := Tryd.checked) (os := os) (X := fun w _ => laidMetH Tryd.prog Rows.fnExactRootOfRow.laid w) false (World.doorLaid Tryd.prog 400 os) #[.slice none 0 0] 8 rfl (World.shaped_of_RefB (by kernel_rfl) (by kernel_rfl)) (by kernel_rfl) (by kernel_rfl) (by kernel_rfl) (fnExactRootOf_doorMet os _)) ?_
  intro W base args ds gs before hval0 hW _ _ hL _
  have hval : ∀ (j : Nat) t v, Tryd.f5.params[j]? = some t → args[j]? = some v → Value.okWide Tryd.prog W .any base t v := hval0
  have hW' := hW
  obtain ⟨p, q, hA0, hV, rfl, hfz, hnd⟩ := hW
  have hV2 := hV
  obtain ⟨_, _, _, _, _, _, _, _, _, _, _, _, rfl, _, _, _, _, _, _, _, _, _⟩ := trodVars_two hV
  have hA : DataW.TrodAll enc Tryd.prog W 0 (fun _ => true) true Tryd.f5.params.toList args.toList ds p := hA0
  rw [Tryd.params5] at hA hval
  obtain ⟨v0, vs0, d0, ds0, p0, q0, hargs, rfl, rfl, h0, r0⟩ := trodAll_cons hA
  obtain ⟨rfl, rfl, rfl⟩ := trodAll_nil r0
  obtain rfl : args = #[v0] := by cases args; simp_all
  obtain ⟨a0, len0, cap0, rfl⟩ := okWide_slice Tryd.underlying26 (hval 0 26 v0 rfl rfl)
  have k0 := h0
  have lt0 : ∀ x ∈ p0, x.block < W.heap.size := by obtain ⟨m, hm⟩ := k0; exact DataW.trod_lt m _ _ _ hm
  obtain ⟨z0, w0⟩ : ∃ zs, IsRowS W a0 len0 cap0 zs := by
    obtain ⟨fuel, hf⟩ := h0
    rcases open_strings Tryd.underlying26 Tryd.underlying9 (by kernel_rfl) hf with ⟨hcs, _⟩ | ⟨x, l, c, zs, hcs, _, hl, hm, hz, _, hcell, hwz⟩
    · simp [Value.cells] at hcs
      obtain ⟨rfl, rfl, rfl⟩ := hcs
      exact ⟨[], .inl ⟨rfl, rfl, rfl, rfl⟩⟩
    · simp [Value.cells] at hcs
      obtain ⟨rfl, rfl, rfl⟩ := hcs
      exact ⟨zs, .inr ⟨_, rfl, hl, hm, by simpa using hz, hcell, hwz⟩⟩
  clear hA0 hval0
  refine (fnExactRootOf_walk a0 len0 cap0 z0 W (fnExactRootOf_gl hL) w0).mono fun e W' ⟨he, bel⟩ => ?_
  subst he
  exact ⟨_, rfl, _, _, _, [], _, _, hW', trodAll_mk1 (shut_bool Tryd.underlying4 _), (trodAll_cons_mk (Below.trod fnExactRootOf_laidOut (by kernel_rfl) (of_decide_eq_true (by kernel_rfl)) k0 bel lt0) trodAll_mk0), Below.trodVars fnExactRootOf_laidOut bel (by kernel_rfl) hV2, bel.frame _, fun h => by cases h⟩

theorem fnExactRootOf_holds : Rows.FnExactRootOfSaid :=
  OpenClaim.holds_of_wide 5 Tryd.f5 rfl rfl rfl rfl rfl rfl rfl ⟨rfl, rfl, rfl, rfl, rfl⟩ rfl rfl rfl rfl rfl (by kernel_rfl) Tryd.func5 (by kernel_rfl)
    (of_decide_eq_true (by kernel_rfl)) (by unfold Func.isWrapper; first | (rw [if_pos (by decide +kernel)]; kernel_rfl) | (rw [if_neg (by decide +kernel)]; exact ⟨rfl, rfl⟩))
    (fun os started H enc _ => fnExactRootOf_lifted os started H enc)

/-- The card: the two variables are tied to the program's text by the given tie. -/
theorem fnExactRootOf_card : Rows.FnExactRootOfCardSaid :=
  Claim7.holds_tied_plain_at .later [] [.data, .data] true Rows.fnExactRootOfCard.stood.harness false
    fnExactRootOf_holds (fun _ h => by cases h) (by kernel_rfl) (fun _ h => by cases h) fnExactRootOf_row_tie rfl ⟨rfl, rfl⟩ (by kernel_rfl) rfl
    (fun f fn hf hfn => by
      obtain rfl : f = 5 := Option.some.inj ((show Tryd.prog.funcNamed Rows.fnExactRootOfRow.func = some 5 by kernel_rfl).symm.trans hf) |>.symm
      obtain rfl : fn = Tryd.f5 := (Option.some.inj (Tryd.func5.symm.trans hfn)).symm
      exact ⟨by kernel_rfl, fun j t ht => by
        rw [Tryd.params5] at ht
        have hm : t ∈ [26] := by simpa using Array.mem_of_getElem? ht
        have hall : ([26].all fun u => !Tryd.prog.wantsStandIn u) = true := by kernel_rfl
        exact (show Tryd.prog.wantsStandIn t = false by simpa using List.all_eq_true.1 hall t hm)⟩)
    (by kernel_rfl)

end Go.Proofs.YtknnecmfebnfbakDoor
