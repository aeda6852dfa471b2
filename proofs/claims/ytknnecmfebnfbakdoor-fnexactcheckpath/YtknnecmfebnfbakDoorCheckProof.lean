/- At all texts, numbers and paths CheckPath of the program answers as the model's CheckPath, and writes into no argument: the law FnExactCheckPath returns true, with no condition but that the two package-level tables read as the program's text lays them. -/
import Derived.Test.YtknnecmfebnfbakDoorRows
import Derived.Test.YtknnecmfebnfbakDoorTie
import Derived.Test.YtknnecmfebnfbakDoorCards
import Derived.Test.YtknnecmfebnfbakDoorRow
import Derived.Test.YtknnecmfebnfbakDoorRowS
import Derived.Test.YtknnecmfebnfbakDoorToStr
import Derived.Test.YtknnecmfebnfbakDoorMerkUp
import Derived.Test.YtknnecmfebnfbakDoorMerkChkI
import Derived.Test.YtknnecmfebnfbakDoorDoorLaid
import Derived.WalkKit
import Derived.ProofKit
import Derived.OpenShut
import Derived.ShutString
import Derived.ChangeOld
import Derived.Below
import Derived.SliceStrings
import Derived.OpenVars
import Derived.SevenTiedAt
namespace Go.Proofs.YtknnecmfebnfbakDoor
open Go.ChangeShapes Go.WideShapes Go.ChangeAt Go.RowKit
open Go.ChangeMaps (open_string shut_string)
set_option linter.unusedVariables false

theorem fnExactCheckPath_own : ownKnob Tryd.prog.godebug = none := by kernel_rfl
theorem fnExactCheckPath_laidOut : laidOutB Tryd.prog = true := by kernel_rfl

theorem szR_ok (l : List ByteArray) (m : Nat) (h : 0 ≤ szR l m) : l.length + tot l ≤ m := by
  unfold szR at h
  split at h
  · assumption
  · omega
theorem tot_all (l : List ByteArray) (m : Nat) (h : l.length + tot l ≤ m) : ∀ s ∈ l, s.size ≤ m := by
  intro s hs
  obtain ⟨k, hk, rfl⟩ := List.getElem_of_mem hs
  have := tot_at l k hk
  omega

set_option maxRecDepth 20000 in
set_option maxHeartbeats 1000000 in
theorem fnExactCheckPath_walk (a0 : ByteArray) (a1 a2 : Int) (a3 : Option Addr) (len3 cap3 : Nat) (z3 : List ByteArray) (a4 : ByteArray) (w : World) (hgl : Gl w) (w0 : a0.size ≤ maxLen) (w1 : (Lit.int .i64 a1).wf = true) (w2 : (Lit.int .i64 a2).wf = true) (w3 : IsRowS w a3 len3 cap3 z3) (w4 : a4.size ≤ maxLen) :
    Calls Tryd.prog 7 #[.string a0, .int .i64 a1, .int .i64 a2, .slice a3 len3 cap3, .string a4] w fun e w' => e = .returned (.bool true) ∧ Below w.heap.size w w' := by
  obtain ⟨l, rfl, hr, hlm, hsm⟩ := w3.rd
  obtain ⟨hi1, hi2⟩ := wf_i64 w1
  obtain ⟨hn1, hn2⟩ := wf_i64 w2
  have hcap0 : a0.size ≤ 9223372036854775807 := by unfold maxLen at w0; omega
  have hcap4 : a4.size ≤ 9223372036854775807 := by unfold maxLen at w4; omega
  clear w0 w1 w2 w3 w4
  have hlm' : l.length ≤ 9223372036854775807 := by unfold maxLen at hlm; omega
  have hsm' : ∀ s ∈ l, s.size ≤ 9223372036854775807 := fun s hs => by have := hsm s hs; unfold maxLen at this; omega
  have Hz := hide (szStringS_any _ l 1048576 w hr (by omega) hlm' hsm')
  have Hok := hide (szR_ok l 1048576)
  have Hr := hide hr
  have Hgl := hide hgl
  clear hr hsm hsm' hgl hlm
  by_cases hbig0 : 1048576 < a0.size
  · clear Hz Hok
    go_enter Tryd.func7, Tryd.ntmps7
    go_wp2
    go_ret
    exact ⟨rfl, Below.refl _ _⟩
  · by_cases hbig4 : 1048576 < a4.size
    · clear Hz Hok
      go_enter Tryd.func7, Tryd.ntmps7
      go_wp2
      go_ret
      exact ⟨rfl, Below.refl _ _⟩
    · by_cases hneg : szR l 1048576 < 0
      · generalize szR l 1048576 = z at hneg Hz
        clear Hok
        go_enter Tryd.func7, Tryd.ntmps7
        go_wp2_with fail
        refine Hz.out.mono ?_
        rintro e w' ⟨rfl, rfl⟩
        go_wp2
        go_ret
        exact ⟨rfl, Below.refl _ _⟩
      · have hl := Hok.out (by omega)
        have hall := fun s hs => Nat.le_trans (tot_all l 1048576 hl s hs) (show 1048576 ≤ 1500000 by omega)
        have hl4 : l.length ≤ 4000000 := by omega
        have HS := hide (fun v w hr => specCheck_any a0 a1 a2 l a4 v w (by omega) hi1 hi2 hn1 hn2 (by omega) hr hall)
        have HI := hide (fun v w hr hg => implCheck_any a0 a1 a2 l a4 v w (by omega) hi1 hi2 hn1 hn2 (by omega) hr hall hg)
        generalize checkB a0 a1 a2 l a4 = X at HS HI
        generalize szR l 1048576 = z at hneg Hz
        clear Hok hl hall
        go_enter Tryd.func7, Tryd.ntmps7
        go_wp2_with fail
        refine Hz.out.mono ?_
        rintro e w' ⟨rfl, rfl⟩
        go_wp2_with fail
        refine (toStringS_any _ l _ Hr.out hl4).mono ?_
        rintro e w1 ⟨v1, rfl, ho1, hb1⟩
        go_wp2_with fail
        refine (HS.out _ _ ho1.rd).mono ?_
        rintro e w2 ⟨rfl, hb2⟩
        have hB2 : Below w'.heap.size w' w2 := hb1.trans (hb2.mono hb1.size)
        clear ho1
        go_wp2_with fail
        refine (toStringS_any _ l _ (Hr.out.below hB2 (Nat.le_refl _)) hl4).mono ?_
        rintro e w3 ⟨v3, rfl, ho3, hb3⟩
        have hB3 : Below w'.heap.size w' w3 := hB2.trans (hb3.mono hB2.size)
        go_wp2_with fail
        refine (HI.out _ _ ho3.rd (Hgl.out.below hB3 (Nat.le_refl _))).mono ?_
        rintro e w4 ⟨rfl, hb4⟩
        have hB4 : Below w'.heap.size w' w4 := hB3.trans (hb4.mono hB3.size)
        have ho3 := ho3.below hb4 (Nat.le_refl _)
        go_wp2_with fail
        refine (toStringS_any _ l _ (Hr.out.below hB4 (Nat.le_refl _)) hl4).mono ?_
        rintro e w5 ⟨v5, rfl, ho5, hb5⟩
        have hB5 : Below w'.heap.size w' w5 := hB4.trans (hb5.mono hB4.size)
        go_wp2_with fail
        refine (eqStringS_any _ _ l l _ (ho3.rd.below hb5 (Nat.le_refl _)) ho5.rd hl4 hl4).mono ?_
        rintro e w6 ⟨rfl, hs6⟩
        have hB6 : Below w'.heap.size w' w6 := hB5.trans (hs6 _)
        go_wp2
        go_ret
        exact ⟨rfl, hB6⟩

theorem fnExactCheckPath_doorMet (os : Os) (args : Array Value) : laidMetH Tryd.prog Rows.fnExactCheckPathRow.laid ((World.doorLaid Tryd.prog 400 os).forCall (fun _ _ => 0) ⟨#[], args, []⟩).memory :=
  laidMetH_of_parts3 (fuel := 8) (laidMet_of_run' 8 (by kernel_rfl) (by kernel_rfl)) (by kernel_rfl) (by kernel_rfl)
theorem fnExactCheckPath_gl {W : World} (h : laidMetH Tryd.prog Rows.fnExactCheckPathRow.laid W) : Gl W := by
  rw [MakeChecks.laidMetH_plain _ _ _ (by kernel_rfl)] at h
  exact gl_of_reads (Lib.laidMet.reads h (.head _)) (Lib.laidMet.reads h (.tail _ (.head _)))

set_option maxRecDepth 100000 in
theorem fnExactCheckPath_lifted (os : Os) (started : os.Started) (H : Type) (enc : TypeId × Value → H) :
    ReturnsInHanded {} Tryd.checked os 7 .any (fun w args => (Rows.fnExactCheckPathSpec.pre enc Tryd.prog Tryd.f7 [] false w args ∧ laidMetH Tryd.prog Rows.fnExactCheckPathRow.laid w) ∧ sizedMet enc Tryd.prog Tryd.f7 (OpenSpec.ofChange Rows.fnExactCheckPathSpec) false w args)
      (Rows.fnExactCheckPathSpec.post enc Tryd.prog Tryd.f7 false true false false) := by
  refine returnsInHanded_of_change_and (C := Tryd.checked) (X := fun w _ => laidMetH Tryd.prog Rows.fnExactCheckPathRow.laid w) (fun _ _ _ hh h => h.of_heap hh) fnExactCheckPath_own started (by kernel_rfl) Tryd.func7
    (ChangeSpec.witness_shaped (enc := enc) (C := Tryd.checked) (os := os) (X := fun w _ => laidMetH Tryd.prog Rows.fnExactCheckPathRow.laid w) false (World.doorLaid Tryd.prog 400 os) #[.string ByteArray.empty, .int .i64 0, .int .i64 0, .slice none 0 0, .string ByteArray.empty] 8 rfl (World.shaped_of_RefB (by kernel_rfl) (by kernel_rfl)) (by kernel_rfl) (by kernel_rfl) (by kernel_rfl) (fnExactCheckPath_doorMet os _)) ?_
  intro W base args ds gs before hval0 hW _ _ hL _
  have hval : ∀ (j : Nat) t v, Tryd.f7.params[j]? = some t → args[j]? = some v → Value.okWide Tryd.prog W .any base t v := hval0
  have hW' := hW
  obtain ⟨p, q, hA0, hV, rfl, hfz, hnd⟩ := hW
  have hV2 := hV
  obtain ⟨_, _, _, _, _, _, _, _, _, _, _, _, rfl, _, _, _, _, _, _, _, _, _⟩ := trodVars_two hV
  have hA : DataW.TrodAll enc Tryd.prog W 0 (fun _ => true) true Tryd.f7.params.toList args.toList ds p := hA0
  rw [Tryd.params7] at hA hval
  obtain ⟨v0, vs0, d0, ds0, p0, q0, hargs, rfl, rfl, h0, r0⟩ := trodAll_cons hA
  obtain ⟨v1, vs1, d1, ds1, p1, q1, rfl, rfl, rfl, h1, r1⟩ := trodAll_cons r0
  obtain ⟨v2, vs2, d2, ds2, p2, q2, rfl, rfl, rfl, h2, r2⟩ := trodAll_cons r1
  obtain ⟨v3, vs3, d3, ds3, p3, q3, rfl, rfl, rfl, h3, r3⟩ := trodAll_cons r2
  obtain ⟨v4, vs4, d4, ds4, p4, q4, rfl, rfl, rfl, h4, r4⟩ := trodAll_cons r3
  obtain ⟨rfl, rfl, rfl⟩ := trodAll_nil r4
  obtain rfl : args = #[v0, v1, v2, v3, v4] := by cases args; simp_all
  obtain ⟨a0, rfl, rfl, rfl, w0⟩ := open_string Tryd.underlying9 (hval 0 9 v0 rfl rfl) h0
  obtain ⟨a1, rfl, rfl, rfl, w1⟩ := open_int Tryd.underlying3 (hval 1 3 v1 rfl rfl) h1
  obtain ⟨a2, rfl, rfl, rfl, w2⟩ := open_int Tryd.underlying3 (hval 2 3 v2 rfl rfl) h2
  obtain ⟨a3, len3, cap3, rfl⟩ := okWide_slice Tryd.underlying26 (hval 3 26 v3 rfl rfl)
  have k3 := h3
  have lt3 : ∀ x ∈ p3, x.block < W.heap.size := by obtain ⟨m, hm⟩ := k3; exact DataW.trod_lt m _ _ _ hm
  obtain ⟨z3, w3⟩ : ∃ zs, IsRowS W a3 len3 cap3 zs := by
    obtain ⟨fuel, hf⟩ := h3
    rcases open_strings Tryd.underlying26 Tryd.underlying9 (by kernel_rfl) hf with ⟨hcs, _⟩ | ⟨x, l, c, zs, hcs, _, hl, hm, hz, _, hcell, hwz⟩
    · simp [Value.cells] at hcs
      obtain ⟨rfl, rfl, rfl⟩ := hcs
      exact ⟨[], .inl ⟨rfl, rfl, rfl, rfl⟩⟩
    · simp [Value.cells] at hcs
      obtain ⟨rfl, rfl, rfl⟩ := hcs
      exact ⟨zs, .inr ⟨_, rfl, hl, hm, by simpa using hz, hcell, hwz⟩⟩
  obtain ⟨a4, rfl, rfl, rfl, w4⟩ := open_string Tryd.underlying9 (hval 4 9 v4 rfl rfl) h4
  clear hA0 hval0
  refine (fnExactCheckPath_walk a0 a1 a2 a3 len3 cap3 z3 a4 W (fnExactCheckPath_gl hL) w0 w1 w2 w3 w4).mono fun e W' ⟨he, bel⟩ => ?_
  subst he
  exact ⟨_, rfl, _, _, _, [], _, _, hW', trodAll_mk1 (shut_bool Tryd.underlying4 _), (trodAll_cons_mk (shut_string Tryd.underlying9 w0) (trodAll_cons_mk (shut_int Tryd.underlying3 w1) (trodAll_cons_mk (shut_int Tryd.underlying3 w2) (trodAll_cons_mk (Below.trod fnExactCheckPath_laidOut (by kernel_rfl) (of_decide_eq_true (by kernel_rfl)) k3 bel lt3) (trodAll_cons_mk (shut_string Tryd.underlying9 w4) trodAll_mk0))))), Below.trodVars fnExactCheckPath_laidOut bel (by kernel_rfl) hV2, bel.frame _, fun h => by cases h⟩

theorem fnExactCheckPath_holds : Rows.FnExactCheckPathSaid :=
  OpenClaim.holds_of_wide 7 Tryd.f7 rfl rfl rfl rfl rfl rfl rfl ⟨rfl, rfl, rfl, rfl, rfl⟩ rfl rfl rfl rfl rfl (by kernel_rfl) Tryd.func7 (by kernel_rfl)
    (of_decide_eq_true (by kernel_rfl)) (by unfold Func.isWrapper; first | (rw [if_pos (by decide +kernel)]; kernel_rfl) | (rw [if_neg (by decide +kernel)]; exact ⟨rfl, rfl⟩))
    (fun os started H enc _ => fnExactCheckPath_lifted os started H enc)

/-- The card: the two variables are tied to the program's text by the given tie. -/
theorem fnExactCheckPath_card : Rows.FnExactCheckPathCardSaid :=
  Claim7.holds_tied_plain_at .later [] [.data, .data] true Rows.fnExactCheckPathCard.stood.harness false
    fnExactCheckPath_holds (fun _ h => by cases h) (by kernel_rfl) (fun _ h => by cases h) fnExactCheckPath_row_tie rfl ⟨rfl, rfl⟩ (by kernel_rfl) rfl
    (fun f fn hf hfn => by
      obtain rfl : f = 7 := Option.some.inj ((show Tryd.prog.funcNamed Rows.fnExactCheckPathRow.func = some 7 by kernel_rfl).symm.trans hf) |>.symm
      obtain rfl : fn = Tryd.f7 := (Option.some.inj (Tryd.func7.symm.trans hfn)).symm
      exact ⟨by kernel_rfl, fun j t ht => by
        rw [Tryd.params7] at ht
        have hm : t ∈ [9, 3, 3, 26, 9] := by simpa using Array.mem_of_getElem? ht
        have hall : ([9, 3, 3, 26, 9].all fun u => !Tryd.prog.wantsStandIn u) = true := by kernel_rfl
        exact (show Tryd.prog.wantsStandIn t = false by simpa using List.all_eq_true.1 hall t hm)⟩)
    (by kernel_rfl)

end Go.Proofs.YtknnecmfebnfbakDoor
