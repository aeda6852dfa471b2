/- At all ledgers StateRoot of the program answers as the model's StateRoot, and writes into no argument: the law FnExactStateRoot returns true, with no condition but that the two package-level tables read as the program's text lays them. -/
import Derived.Test.YtceefkpcjonljaaDoorRows
import Derived.Test.YtceefkpcjonljaaDoorTie
import Derived.Test.YtceefkpcjonljaaDoorCards
import Derived.Test.YtceefkpcjonljaaDoorJoin7
import Derived.Test.YtceefkpcjonljaaDoorLgRoot
import Derived.Test.YtceefkpcjonljaaDoorDoorLaid
import Derived.WalkKit
import Derived.ProofKit
import Derived.OpenShut
import Derived.ShutString
import Derived.ChangeOld
import Derived.Below
import Derived.SliceStrings
import Derived.OpenVars
import Derived.SevenTiedAt
namespace Go.Proofs.YtceefkpcjonljaaDoor
open Go.ChangeShapes Go.WideShapes Go.ChangeAt Go.RowKit
open Go.ChangeMaps (open_string shut_string)
set_option linter.unusedVariables false

theorem fnExactStateRoot_own : ownKnob Tryd.prog.godebug = none := by kernel_rfl
theorem fnExactStateRoot_laidOut : laidOutB Tryd.prog = true := by kernel_rfl

open Classical in
set_option maxRecDepth 20000 in
set_option maxHeartbeats 2000000 in
theorem fnExactStateRoot_walk (a0 : Int) (y0 : Value) (z0 : List Ac) (w : World) (hgl : Gl w) (w0 : RdA w y0 z0 ∧ z0.length ≤ maxLen ∧ ∀ q ∈ z0, q.1.size ≤ maxLen ∧ q.2.2.2.2.length ≤ maxLen) :
    Calls Tryd.prog 3 #[lgV a0 y0] w fun e w' => e = .returned (.bool true) ∧ Below w.heap.size w w' := by
  obtain ⟨hr, hlm, hsm⟩ := w0
  have Hgl := hide hgl
  clear hgl
  obtain ⟨av, cv, rfl⟩ := hr.shape
  have hlm' : z0.length ≤ 9223372036854775807 := by unfold maxLen at hlm; omega
  have hsm' : ∀ a ∈ z0, a.1.size ≤ 9223372036854775807 ∧ a.2.2.2.2.length ≤ 9223372036854775807 := fun a ha => by have := hsm a ha; unfold maxLen at this; omega
  obtain ⟨w1, hw1⟩ : ∃ w1, w.alloc (.cells #[.int .i64 a0, .slice av z0.length cv] 24) = w1 := ⟨_, rfl⟩
  have hb1 : Below w.heap.size w w1 := by rw [← hw1]; exact (Below.refl _ w).alloc (Nat.le_refl _) _
  have k1 : Blk w1 w.heap.size 24 [.int .i64 a0, .slice av z0.length cv] := by rw [← hw1]; exact Blk.new w _ _
  have hr := hr.below hb1 (Nat.le_refl _)
  have Hz := hide (szLedger_any a0 _ z0 1048576 w1 hr (by omega) hlm' hsm')
  have Hr := hide hr
  have Hsm := hide hsm
  have l1 : w1.heap.size = w.heap.size + 1 := by rw [← hw1]; simp
  have c0 := k1.cell 0
  have c1 := k1.cell 1
  simp only [List.getElem?_cons_zero, List.getElem?_cons_succ] at c0 c1
  simp only [lgV] at *
  clear hr hsm hsm' hlm
  go_enter Tryd.func3, Tryd.ntmps3
  go_wp2_with fail
  refine Hz.out.mono ?_
  rintro e w2 ⟨r, rfl, hfit, hb2⟩
  have hB2 : Below w.heap.size w w2 := hb1.trans (hb2.mono hb1.size)
  have k2 := k1.below hb2 (by omega)
  have r2 := Hr.out.below hb2 (Nat.le_refl _)
  clear c0 c1 k1
  by_cases hneg : r < 0
  · clear hfit
    go_wp2
    go_ret
    exact ⟨rfl, hB2⟩
  · have hl := hfit (by omega)
    have hl4 : z0.length ≤ 4000000 := by omega
    have hlv : ∀ a ∈ z0, a.2.2.2.2.length ≤ 4000000 := fun a ha => by have h1 := totA_at z0 a ha; unfold wgA at h1; omega
    have hnl : ∀ a ∈ z0, a.1.size ≤ maxLen ∧ a.2.2.2.2.length ≤ 4000000 := fun a ha => ⟨(Hsm.out a ha).1, hlv a ha⟩
    have HS := hide (fun v w hr => specStateRoot_any a0 v z0 w hr hl4 hnl)
    have HI := hide (fun v w hr hg => implStateRoot_any a0 v z0 w hr hl4 hnl hg)
    have HT := hide (fun v w hr => toLedger_any a0 v z0 w hr hl4 hlv)
    have HE := hide (fun v1 v2 w h1 h2 => eqLedger_any a0 a0 v1 v2 z0 z0 w h1 h2 hl4 hl4 hlv hlv)
    rw [decide_eq_true rfl, decide_eq_true rfl, Bool.true_and] at HE
    simp only [lgV] at HS HI HT HE
    generalize srB a0 z0 = X at HS HI
    clear hfit hl hl4 hlv hnl Hsm Hz
    have c0 := k2.cell 0
    have c1 := k2.cell 1
    simp only [List.getElem?_cons_zero, List.getElem?_cons_succ] at c0 c1
    go_wp2_with fail
    refine (HT.out _ _ r2).mono ?_
    rintro e w3 ⟨v3, rfl, ho3, hb3⟩
    have hB3 : Below w.heap.size w w3 := hB2.trans (hb3.mono hB2.size)
    have k3 := k2.below hb3 (by have := hb2.size; omega)
    have r3 := r2.below hb3 (Nat.le_refl _)
    obtain ⟨a3, cv3, rfl⟩ := ho3.rd.shape
    clear c0 c1 k2 r2
    go_wp2_with fail
    refine (HS.out _ _ ho3.rd).mono ?_
    rintro e w4 ⟨rfl, hb4⟩
    have hB4 : Below w.heap.size w w4 := hB3.trans (hb4.mono hB3.size)
    have k4 := k3.below hb4 (by have := hb2.size; have := hb3.size; omega)
    have r4 := r3.below hb4 (Nat.le_refl _)
    have c0 := k4.cell 0
    have c1 := k4.cell 1
    simp only [List.getElem?_cons_zero, List.getElem?_cons_succ] at c0 c1
    clear ho3 k3 r3
    go_wp2_with fail
    refine (HT.out _ _ r4).mono ?_
    rintro e w5 ⟨v5, rfl, ho5, hb5⟩
    have hB5 : Below w.heap.size w w5 := hB4.trans (hb5.mono hB4.size)
    have k5 := k4.below hb5 (by have := hB4.size; have := k4.lt; omega)
    have r5 := r4.below hb5 (Nat.le_refl _)
    obtain ⟨a5, cv5, rfl⟩ := ho5.rd.shape
    clear c0 c1 k4 r4
    obtain ⟨w6, hw6⟩ : ∃ w6, w5.alloc (.cells #[.int .i64 a0, .slice a5 z0.length cv5] 29) = w6 := ⟨_, rfl⟩
    have hb6 : Below w5.heap.size w5 w6 := by rw [← hw6]; exact (Below.refl _ w5).alloc (Nat.le_refl _) _
    have hB6 : Below w.heap.size w w6 := hB5.trans (hb6.mono hB5.size)
    have k6 := k5.below hb6 k5.lt
    have j6 : Blk w6 w5.heap.size 29 [.int .i64 a0, .slice a5 z0.length cv5] := by rw [← hw6]; exact Blk.new w5 _ _
    have r6 := r5.below hb6 (Nat.le_refl _)
    have o6 := ho5.below hb6 (Nat.le_refl _)
    have d0 := j6.cell 0
    have d1 := j6.cell 1
    simp only [List.getElem?_cons_zero, List.getElem?_cons_succ] at d0 d1
    clear ho5 k5 r5
    go_wp2_with fail
    refine (HI.out _ _ o6.rd (Hgl.out.below hB6 (Nat.le_refl _))).mono ?_
    rintro e w7 ⟨rfl, hb7⟩
    have hB7 : Below w.heap.size w w7 := hB6.trans (hb7.mono hB6.size)
    have k7 : Blk w7.drew w.heap.size 24 [.int .i64 a0, .slice av z0.length cv] := k6.below hb7.drew k6.lt
    have j7 : Blk w7.drew w5.heap.size 29 [.int .i64 a0, .slice a5 z0.length cv5] := j6.below hb7.drew j6.lt
    have r7 := (r6.below hb7 (Nat.le_refl _)).below (Below.refl _ w7).drew (Nat.le_refl _)
    have o7 := (o6.below hb7 (Nat.le_refl _)).below (Below.refl _ w7).drew (Nat.le_refl _)
    have hS7 : w7.drew.cell? ⟨w.heap.size, 0, none⟩ = some (.int .i64 a0) ∧ w7.drew.cell? ⟨w.heap.size, 1, none⟩ = some (.slice av z0.length cv) ∧ w7.drew.cell? ⟨w5.heap.size, 0, none⟩ = some (.int .i64 a0) ∧ w7.drew.cell? ⟨w5.heap.size, 1, none⟩ = some (.slice a5 z0.length cv5) := ⟨k7.cell 0, k7.cell 1, j7.cell 0, j7.cell 1⟩
    clear d0 d1 k6 j6 r6 o6
    go_wp2
    go_region_held_law (fun w' => w'.cell? ⟨w.heap.size, 0, none⟩ = some (.int .i64 a0) ∧ w'.cell? ⟨w.heap.size, 1, none⟩ = some (.slice av z0.length cv) ∧ w'.cell? ⟨w5.heap.size, 0, none⟩ = some (.int .i64 a0) ∧ w'.cell? ⟨w5.heap.size, 1, none⟩ = some (.slice a5 z0.length cv5)) (first | exact hS7 | exact hS8 | exact hS9) ((first
      | (go_at_call 8; refine (HE.out _ _ _ o8.rd ho8.rd).mono ?_; rintro e w9 ⟨rfl, hb9⟩; have hS9 : w9.cell? ⟨w.heap.size, 0, none⟩ = some (.int .i64 a0) ∧ w9.cell? ⟨w.heap.size, 1, none⟩ = some (.slice av z0.length cv) ∧ w9.cell? ⟨w5.heap.size, 0, none⟩ = some (.int .i64 a0) ∧ w9.cell? ⟨w5.heap.size, 1, none⟩ = some (.slice a5 z0.length cv5) := ⟨(k8.below hb9 k8.lt).cell 0, (k8.below hb9 k8.lt).cell 1, (j8.below hb9 j8.lt).cell 0, (j8.below hb9 j8.lt).cell 1⟩)
      | (go_at_call 6; refine (HT.out _ _ r7).mono ?_; rintro e w8 ⟨v8, rfl, ho8, hb8⟩; have k8 := k7.below hb8 k7.lt; have j8 := j7.below hb8 j7.lt; have o8 := o7.below hb8 (Nat.le_refl _); obtain ⟨a8, cv8, rfl⟩ := ho8.rd.shape; have hS8 : w8.cell? ⟨w.heap.size, 0, none⟩ = some (.int .i64 a0) ∧ w8.cell? ⟨w.heap.size, 1, none⟩ = some (.slice av z0.length cv) ∧ w8.cell? ⟨w5.heap.size, 0, none⟩ = some (.int .i64 a0) ∧ w8.cell? ⟨w5.heap.size, 1, none⟩ = some (.slice a5 z0.length cv5) := ⟨k8.cell 0, k8.cell 1, j8.cell 0, j8.cell 1⟩)))
    have hB8 : Below w.heap.size w w8 := hB7.drew.trans (hb8.mono hB7.size)
    have hB9 : Below w.heap.size w w9 := hB8.trans (hb9.mono hB8.size)
    go_wp2
    go_ret
    exact ⟨rfl, hB9⟩

theorem fnExactStateRoot_doorMet (os : Os) (args : Array Value) : laidMetH Tryd.prog Rows.fnExactStateRootRow.laid ((World.doorLaid Tryd.prog 400 os).forCall (fun _ _ => 0) ⟨#[], args, []⟩).memory :=
  laidMetH_of_parts3 (fuel := 8) (laidMet_of_run' 8 (by kernel_rfl) (by kernel_rfl)) (by kernel_rfl) (by kernel_rfl)
theorem fnExactStateRoot_gl {W : World} (h : laidMetH Tryd.prog Rows.fnExactStateRootRow.laid W) : Gl W := by
  rw [MakeChecks.laidMetH_plain _ _ _ (by kernel_rfl)] at h
  exact gl_of_reads (Lib.laidMet.reads h (.head _)) (Lib.laidMet.reads h (.tail _ (.head _)))

set_option maxRecDepth 100000 in
theorem fnExactStateRoot_lifted (os : Os) (started : os.Started) (H : Type) (enc : TypeId × Value → H) :
    ReturnsInHanded {} Tryd.checked os 3 .any (fun w args => (Rows.fnExactStateRootSpec.pre enc Tryd.prog Tryd.f3 [] false w args ∧ laidMetH Tryd.prog Rows.fnExactStateRootRow.laid w) ∧ sizedMet enc Tryd.prog Tryd.f3 (OpenSpec.ofChange Rows.fnExactStateRootSpec) false w args)
      (Rows.fnExactStateRootSpec.post enc Tryd.prog Tryd.f3 false true false false) := by
  refine returnsInHanded_of_change_and (C := Tryd.checked) (X := fun w _ => laidMetH Tryd.prog Rows.fnExactStateRootRow.laid w) (fun _ _ _ hh h => h.of_heap hh) fnExactStateRoot_own started (by kernel_rfl) Tryd.func3
    (ChangeSpec.witness_shaped (enc := enc) (C := Tryd.checked) (os := os) (X := fun w _ => laidMetH Tryd.prog Rows.fnExactStateRootRow.laid w) false (World.doorLaid Tryd.prog 400 os) #[.agg #[.int .i64 0, .slice none 0 0]] 8 rfl (World.shaped_of_RefB (by kernel_rfl) (by kernel_rfl)) (by kernel_rfl) (by kernel_rfl) (by kernel_rfl) (fnExactStateRoot_doorMet os _)) ?_
  intro W base args ds gs before hval0 hW _ _ hL _
  have hval : ∀ (j : Nat) t v, Tryd.f3.params[j]? = some t → args[j]? = some v → Value.okWide Tryd.prog W .any base t v := hval0
  have hW' := hW
  obtain ⟨p, q, hA0, hV, rfl, hfz, hnd⟩ := hW
  have hV2 := hV
  obtain ⟨_, _, _, _, _, _, _, _, _, _, _, _, rfl, _, _, _, _, _, _, _, _, _⟩ := trodVars_two hV
  have hA : DataW.TrodAll enc Tryd.prog W 0 (fun _ => true) true Tryd.f3.params.toList args.toList ds p := hA0
  rw [Tryd.params3] at hA hval
  obtain ⟨v0, vs0, d0, ds0, p0, q0, hargs, rfl, rfl, h0, r0⟩ := trodAll_cons hA
  obtain ⟨rfl, rfl, rfl⟩ := trodAll_nil r0
  obtain rfl : args = #[v0] := by cases args; simp_all
  have k0 := h0
  have lt0 : ∀ x ∈ p0, x.block < W.heap.size := by obtain ⟨m, hm⟩ := k0; exact DataW.trod_lt m _ _ _ hm
  obtain ⟨a0, y0, z0, rfl, w0⟩ : ∃ (e : Int) (v : Value) (l : List Ac), v0 = lgV e v ∧ RdA W v l ∧ l.length ≤ maxLen ∧ ∀ q ∈ l, q.1.size ≤ maxLen ∧ q.2.2.2.2.length ≤ maxLen := by
    obtain ⟨cs, rfl, hsz⟩ := okWide_struct Tryd.underlying24 (hval 0 24 _ rfl rfl)
    obtain ⟨fuel, hf⟩ := h0
    obtain ⟨e, v, l, q, r⟩ := open_ledger (by simpa [Value.cells] using hf)
    exact ⟨e, v, l, by cases cs; simp at q; subst q; rfl, r⟩
  clear hA0 hval0
  refine (fnExactStateRoot_walk a0 y0 z0 W (fnExactStateRoot_gl hL) w0).mono fun e W' ⟨he, bel⟩ => ?_
  subst he
  exact ⟨_, rfl, _, _, _, [], _, _, hW', trodAll_mk1 (shut_bool Tryd.underlying4 _), (trodAll_cons_mk (Below.trod fnExactStateRoot_laidOut (by kernel_rfl) (of_decide_eq_true (by kernel_rfl)) k0 bel lt0) trodAll_mk0), Below.trodVars fnExactStateRoot_laidOut bel (by kernel_rfl) hV2, bel.frame _, fun h => by cases h⟩

theorem fnExactStateRoot_holds : Rows.FnExactStateRootSaid :=
  OpenClaim.holds_of_wide 3 Tryd.f3 rfl rfl rfl rfl rfl rfl rfl ⟨rfl, rfl, rfl, rfl, rfl⟩ rfl rfl rfl rfl rfl (by kernel_rfl) Tryd.func3 (by kernel_rfl)
    (of_decide_eq_true (by kernel_rfl)) (by unfold Func.isWrapper; first | (rw [if_pos (by decide +kernel)]; kernel_rfl) | (rw [if_neg (by decide +kernel)]; exact ⟨rfl, rfl⟩))
    (fun os started H enc _ => fnExactStateRoot_lifted os started H enc)

/-- The card: the two variables are tied to the program's text by the given tie. -/
theorem fnExactStateRoot_card : Rows.FnExactStateRootCardSaid :=
  Claim7.holds_tied_plain_at .later [] [.data, .data] true Rows.fnExactStateRootCard.stood.harness false
    fnExactStateRoot_holds (fun _ h => by cases h) (by kernel_rfl) (fun _ h => by cases h) fnExactStateRoot_row_tie rfl ⟨rfl, rfl⟩ (by kernel_rfl) rfl
    (fun f fn hf hfn => by
      obtain rfl : f = 3 := Option.some.inj ((show Tryd.prog.funcNamed Rows.fnExactStateRootRow.func = some 3 by kernel_rfl).symm.trans hf) |>.symm
      obtain rfl : fn = Tryd.f3 := (Option.some.inj (Tryd.func3.symm.trans hfn)).symm
      exact ⟨by kernel_rfl, fun j t ht => by
        rw [Tryd.params3] at ht
        have hm : t ∈ [24] := by simpa using Array.mem_of_getElem? ht
        have hall : ([24].all fun u => !Tryd.prog.wantsStandIn u) = true := by kernel_rfl
        exact (show Tryd.prog.wantsStandIn t = false by simpa using List.all_eq_true.1 hall t hm)⟩)
    (by kernel_rfl)

end Go.Proofs.YtceefkpcjonljaaDoor
