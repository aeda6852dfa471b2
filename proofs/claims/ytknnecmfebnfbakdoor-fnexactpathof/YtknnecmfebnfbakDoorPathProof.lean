/- At all lists of texts and every place PathOf of the program answers as the model's PathOf, writes into no argument, and its answer owns its memory: the law FnExactPathOf returns true, with no condition but that the two package-level tables read as the program's text lays them. -/
import Derived.Test.YtknnecmfebnfbakDoorRows
import Derived.Test.YtknnecmfebnfbakDoorTie
import Derived.Test.YtknnecmfebnfbakDoorCards
import Derived.Test.YtknnecmfebnfbakDoorRow
import Derived.Test.YtknnecmfebnfbakDoorRowS
import Derived.Test.YtknnecmfebnfbakDoorToStr
import Derived.Test.YtknnecmfebnfbakDoorMarks
import Derived.Test.YtknnecmfebnfbakDoorMarkStr
import Derived.Test.YtknnecmfebnfbakDoorHeldStr
import Derived.Test.YtknnecmfebnfbakDoorMerkPath
import Derived.Test.YtknnecmfebnfbakDoorMerkPathI
import Derived.Test.YtknnecmfebnfbakDoorDoorLaid
import Derived.WalkKit
import Derived.ProofKit
import Derived.OpenShut
import Derived.ShutString
import Derived.ChangeOld
import Derived.Below
import Derived.SliceStrings
import Derived.OpenVars
import Derived.SevenTiedAt
namespace Go.Proofs.YtknnecmfebnfbakDoor
open Go.ChangeShapes Go.WideShapes Go.ChangeAt Go.RowKit
open Go.ChangeMaps (open_string shut_string)
set_option linter.unusedVariables false

theorem fnExactPathOf_own : ownKnob Tryd.prog.godebug = none := by kernel_rfl
theorem fnExactPathOf_laidOut : laidOutB Tryd.prog = true := by kernel_rfl

theorem szR_ok (l : List ByteArray) (m : Nat) (h : 0 ≤ szR l m) : l.length + tot l ≤ m := by
  unfold szR at h
  split at h
  · assumption
  · omega
theorem tot_all (l : List ByteArray) (m : Nat) (h : l.length + tot l ≤ m) : ∀ s ∈ l, s.size ≤ m := by
  intro s hs
  obtain ⟨k, hk, rfl⟩ := List.getElem_of_mem hs
  have := tot_at l k hk
  omega
theorem pathOfB_len (l : List ByteArray) (i : Int) : (pathOfB l i).length ≤ 64 := by
  unfold pathOfB
  split
  · rename_i h
    exact Nat.le_trans (pathB_len 64 l i.toNat h.1) (Nat.le_refl _)
  · simp

set_option maxRecDepth 20000 in
set_option maxHeartbeats 2000000 in
theorem fnExactPathOf_walk (a0 : Option Addr) (len0 cap0 : Nat) (z0 : List ByteArray) (a1 : Int) (w : World) (hgl : Gl w) (w0 : IsRowS w a0 len0 cap0 z0) (w1 : (Lit.int .i64 a1).wf = true) :
    Calls Tryd.prog 6 #[.slice a0 len0 cap0, .int .i64 a1] w fun e w' => e = .returned (.bool true) ∧ Below w.heap.size w w' := by
  obtain ⟨l, rfl, hr, hlm, hsm⟩ := w0.rd
  clear w0
  obtain ⟨hp1, hp2⟩ := wf_i64 w1
  have hlm' : l.length ≤ 9223372036854775807 := by unfold maxLen at hlm; omega
  have hsm' : ∀ s ∈ l, s.size ≤ 9223372036854775807 := fun s hs => by have := hsm s hs; unfold maxLen at this; omega
  have Hz := hide (szStringS_any _ l 1048576 w hr (by omega) hlm' hsm')
  have Hok := hide (szR_ok l 1048576)
  have Hr := hide hr
  have Hgl := hide hgl
  clear hr hsm hsm' hgl hlm
  by_cases hneg : szR l 1048576 < 0
  · generalize szR l 1048576 = z at hneg Hz
    clear Hok
    go_enter Tryd.func6, Tryd.ntmps6
    go_wp2_with fail
    refine Hz.out.mono ?_
    rintro e w' ⟨rfl, rfl⟩
    go_wp2
    go_ret
    exact ⟨rfl, Below.refl _ _⟩
  · have hl := Hok.out (by omega)
    have hall := fun s hs => Nat.le_trans (tot_all l 1048576 hl s hs) (show 1048576 ≤ 1500000 by omega)
    have hl4 : l.length ≤ 4000000 := by omega
    have HS := hide (fun v w hr => specPathOf_any l a1 v w (by omega) hp1 hp2 hr hall)
    have HI := hide (fun v w hr hg => implPathOf_any l a1 v w (by omega) hp1 hp2 hr hall hg)
    have hns := pathOfB_len l a1
    generalize pathOfB l a1 = ns at HS HI hns
    generalize szR l 1048576 = z at hneg Hz
    clear Hok hl hall
    go_enter Tryd.func6, Tryd.ntmps6
    go_wp2_with fail
    refine Hz.out.mono ?_
    rintro e w ⟨rfl, rfl⟩
    go_wp2_with fail
    refine (toStringS_any _ l _ Hr.out hl4).mono ?_
    rintro e w1 ⟨v1, rfl, ho1, hb1⟩
    go_wp2_with fail
    refine (HS.out _ _ ho1.rd).mono ?_
    rintro e w2 ⟨v2, rfl, ho2, hb2⟩
    have hB2 : Below w.heap.size w w2 := hb1.trans (hb2.mono hb1.size)
    clear ho1
    have lt2 := ho2.lt
    go_wp2_with fail
    refine (toStringS_any _ l _ (Hr.out.below hB2 (Nat.le_refl _)) hl4).mono ?_
    rintro e w3 ⟨v3, rfl, ho3, hb3⟩
    have hB3 : Below w.heap.size w w3 := hB2.trans (hb3.mono hB2.size)
    have ho2 := ho2.below hb3 (Nat.le_refl _)
    have ge3 := ho3.ge
    have lt3 := ho3.lt
    go_wp2_with fail
    refine (HI.out _ _ ho3.rd (Hgl.out.below hB3 (Nat.le_refl _))).mono ?_
    rintro e w4 ⟨v4, rfl, ho4, hb4⟩
    have hB4 : Below w.heap.size w w4 := hB3.trans (hb4.mono hB3.size)
    have ho2 := ho2.below hb4 (Nat.le_refl _)
    have ho3 := ho3.below hb4 (Nat.le_refl _)
    have ge4 := ho4.ge
    go_wp2_with fail
    refine (eqStringS_any _ _ ns ns _ ho4.rd ho2.rd (by omega) (by omega)).mono ?_
    rintro e w5 ⟨rfl, hs5⟩
    have hB5 : Below w.heap.size w w5 := hB4.trans (hs5 _)
    have ho2 := ho2.below (hs5 _) (Nat.le_refl _)
    have ho3 := ho3.below (hs5 _) (Nat.le_refl _)
    have ho4 := ho4.below (hs5 _) (Nat.le_refl _)
    go_wp2_with fail
    refine (toStringS_any _ l _ (Hr.out.below hB5 (Nat.le_refl _)) hl4).mono ?_
    rintro e w6 ⟨v6, rfl, ho6, hb6⟩
    have hB6 : Below w.heap.size w w6 := hB5.trans (hb6.mono hB5.size)
    have ho2 := ho2.below hb6 (Nat.le_refl _)
    have ho3 := ho3.below hb6 (Nat.le_refl _)
    have ho4 := ho4.below hb6 (Nat.le_refl _)
    go_wp2_with fail
    refine (eqStringS_any _ _ l l _ ho3.rd ho6.rd (by omega) (by omega)).mono ?_
    rintro e w7 ⟨rfl, hs7⟩
    have hB7 : Below w.heap.size w w7 := hB6.trans (hs7 _)
    have ho2 := ho2.below (hs7 _) (Nat.le_refl _)
    have ho3 := ho3.below (hs7 _) (Nat.le_refl _)
    have ho4 := ho4.below (hs7 _) (Nat.le_refl _)
    clear ho6
    go_wp2_with fail
    refine (markStringS_any _ l 1 _ _ ho3 (by omega) (by omega) (by omega)).mono ?_
    rintro e w8 ⟨rfl, ho3', hg8⟩
    have hB8 : Below w.heap.size w w8 := hB7.grown hg8 hB7.size (fun k hk => Nat.le_trans hB2.size (ge3 k hk))
    have ho2 := ho2.kept hg8 (apart_of lt2 ge3 (Nat.le_refl _))
    have ho4 := ho4.kept hg8 (apart_of' ge4 lt3 (Nat.le_refl _))
    go_wp2_with fail
    refine (eqStringS_any _ _ ns ns _ ho4.rd ho2.rd (by omega) (by omega)).mono ?_
    rintro e w9 ⟨rfl, hs9⟩
    have hB9 : Below w.heap.size w w9 := hB8.trans (hs9 _)
    have ho2 := ho2.below (hs9 _) (Nat.le_refl _)
    have ho4 := ho4.below (hs9 _) (Nat.le_refl _)
    go_wp2_with fail
    refine (markStringS_any _ ns 1 _ _ ho4 (by omega) (by omega) (by omega)).mono ?_
    rintro e w10 ⟨rfl, hm4, hg10⟩
    have hB10 : Below w.heap.size w w10 := hB9.grown hg10 hB9.size (fun k hk => Nat.le_trans hB3.size (ge4 k hk))
    have ho2 := ho2.kept hg10 (apart_of lt2 ge4 hb3.size)
    go_wp2_with fail
    refine (heldStringS_any _ 1 ns.length _ hm4.rd (by omega) (by omega) (by omega)).mono ?_
    rintro e w11 ⟨rfl, hb11⟩
    have hB11 : Below w.heap.size w w11 := hB10.trans (hb11.mono hB10.size)
    have ho2 := ho2.below hb11 (Nat.le_refl _)
    have hm4 := hm4.below hb11 (Nat.le_refl _)
    go_wp2_with fail
    refine (toStringS_any _ l _ (Hr.out.below hB11 (Nat.le_refl _)) hl4).mono ?_
    rintro e w12 ⟨v12, rfl, ho12, hb12⟩
    have hB12 : Below w.heap.size w w12 := hB11.trans (hb12.mono hB11.size)
    have ho2 := ho2.below hb12 (Nat.le_refl _)
    have hm4 := hm4.below hb12 (Nat.le_refl _)
    go_wp2_with fail
    refine (HI.out _ _ ho12.rd (Hgl.out.below hB12 (Nat.le_refl _))).mono ?_
    rintro e w13 ⟨v13, rfl, ho13, hb13⟩
    have hB13 : Below w.heap.size w w13 := hB12.trans (hb13.mono hB12.size)
    have ho2 := ho2.below hb13 (Nat.le_refl _)
    have hm4 := hm4.below hb13 (Nat.le_refl _)
    clear ho12
    go_wp2_with fail
    refine (eqStringS_any _ _ ns ns _ ho13.rd ho2.rd (by omega) (by omega)).mono ?_
    rintro e w14 ⟨rfl, hs14⟩
    have hB14 : Below w.heap.size w w14 := hB13.trans (hs14 _)
    have hm4 := hm4.below (hs14 _) (Nat.le_refl _)
    go_wp2_with fail
    refine (heldStringS_any _ 1 ns.length _ hm4.rd (by omega) (by omega) (by omega)).mono ?_
    rintro e w15 ⟨rfl, hb15⟩
    have hB15 : Below w.heap.size w w15 := hB14.trans (hb15.mono hB14.size)
    go_wp2
    go_ret
    exact ⟨rfl, hB15⟩

theorem fnExactPathOf_doorMet (os : Os) (args : Array Value) : laidMetH Tryd.prog Rows.fnExactPathOfRow.laid ((World.doorLaid Tryd.prog 400 os).forCall (fun _ _ => 0) ⟨#[], args, []⟩).memory :=
  laidMetH_of_parts3 (fuel := 8) (laidMet_of_run' 8 (by kernel_rfl) (by kernel_rfl)) (by kernel_rfl) (by kernel_rfl)
theorem fnExactPathOf_gl {W : World} (h : laidMetH Tryd.prog Rows.fnExactPathOfRow.laid W) : Gl W := by
  rw [MakeChecks.laidMetH_plain _ _ _ (by kernel_rfl)] at h
  exact gl_of_reads (Lib.laidMet.reads h (.head _)) (Lib.laidMet.reads h (.tail _ (.head _)))

set_option maxRecDepth 100000 in
theorem fnExactPathOf_lifted (os : Os) (started : os.Started) (H : Type) (enc : TypeId × Value → H) :
    ReturnsInHanded {} Tryd.checked os 6 .any (fun w args => (Rows.fnExactPathOfSpec.pre enc Tryd.prog Tryd.f6 [] false w args ∧ laidMetH Tryd.prog Rows.fnExactPathOfRow.laid w) ∧ sizedMet enc Tryd.prog Tryd.f6 (OpenSpec.ofChange Rows.fnExactPathOfSpec) false w args)
      (Rows.fnExactPathOfSpec.post enc Tryd.prog Tryd.f6 false true false false) := by
  refine returnsInHanded_of_change_and (C := Tryd.checked) (X := fun w _ => laidMetH Tryd.prog Rows.fnExactPathOfRow.laid w) (fun _ _ _ hh h => h.of_heap hh) fnExactPathOf_own started (by kernel_rfl) Tryd.func6
    (ChangeSpec.witness_shaped (enc := enc) (C := Tryd.checked) (os := os) (X := fun w _ => laidMetH Tryd.prog Rows.fnExactPathOfRow.laid w) false (World.doorLaid Tryd.prog 400 os) #[.slice none 0 0, .int .i64 0] 8 rfl (World.shaped_of_RefB (by kernel_rfl) (by kernel_rfl)) (by kernel_rfl) (by kernel_rfl) (by kernel_rfl) (fnExactPathOf_doorMet os _)) ?_
  intro W base args ds gs before hval0 hW _ _ hL _
  have hval : ∀ (j : Nat) t v, Tryd.f6.params[j]? = some t → args[j]? = some v → Value.okWide Tryd.prog W .any base t v := hval0
  have hW' := hW
  obtain ⟨p, q, hA0, hV, rfl, hfz, hnd⟩ := hW
  have hV2 := hV
  obtain ⟨_, _, _, _, _, _, _, _, _, _, _, _, rfl, _, _, _, _, _, _, _, _, _⟩ := trodVars_two hV
  have hA : DataW.TrodAll enc Tryd.prog W 0 (fun _ => true) true Tryd.f6.params.toList args.toList ds p := hA0
  rw [Tryd.params6] at hA hval
  obtain ⟨v0, vs0, d0, ds0, p0, q0, hargs, rfl, rfl, h0, r0⟩ := trodAll_cons hA
  obtain ⟨v1, vs1, d1, ds1, p1, q1, rfl, rfl, rfl, h1, r1⟩ := trodAll_cons r0
  obtain ⟨rfl, rfl, rfl⟩ := trodAll_nil r1
  obtain rfl : args = #[v0, v1] := by cases args; simp_all
  obtain ⟨a0, len0, cap0, rfl⟩ := okWide_slice Tryd.underlying26 (hval 0 26 v0 rfl rfl)
  have k0 := h0
  have lt0 : ∀ x ∈ p0, x.block < W.heap.size := by obtain ⟨m, hm⟩ := k0; exact DataW.trod_lt m _ _ _ hm
  obtain ⟨z0, w0⟩ : ∃ zs, IsRowS W a0 len0 cap0 zs := by
    obtain ⟨fuel, hf⟩ := h0
    rcases open_strings Tryd.underlying26 Tryd.underlying9 (by kernel_rfl) hf with ⟨hcs, _⟩ | ⟨x, l, c, zs, hcs, _, hl, hm, hz, _, hcell, hwz⟩
    · simp [Value.cells] at hcs
      obtain ⟨rfl, rfl, rfl⟩ := hcs
      exact ⟨[], .inl ⟨rfl, rfl, rfl, rfl⟩⟩
    · simp [Value.cells] at hcs
      obtain ⟨rfl, rfl, rfl⟩ := hcs
      exact ⟨zs, .inr ⟨_, rfl, hl, hm, by simpa using hz, hcell, hwz⟩⟩
  obtain ⟨a1, rfl, rfl, rfl, w1⟩ := open_int Tryd.underlying3 (hval 1 3 v1 rfl rfl) h1
  clear hA0 hval0
  refine (fnExactPathOf_walk a0 len0 cap0 z0 a1 W (fnExactPathOf_gl hL) w0 w1).mono fun e W' ⟨he, bel⟩ => ?_
  subst he
  exact ⟨_, rfl, _, _, _, [], _, _, hW', trodAll_mk1 (shut_bool Tryd.underlying4 _), (trodAll_cons_mk (Below.trod fnExactPathOf_laidOut (by kernel_rfl) (of_decide_eq_true (by kernel_rfl)) k0 bel lt0) (trodAll_cons_mk (shut_int Tryd.underlying3 w1) trodAll_mk0)), Below.trodVars fnExactPathOf_laidOut bel (by kernel_rfl) hV2, bel.frame _, fun h => by cases h⟩

theorem fnExactPathOf_holds : Rows.FnExactPathOfSaid :=
  OpenClaim.holds_of_wide 6 Tryd.f6 rfl rfl rfl rfl rfl rfl rfl ⟨rfl, rfl, rfl, rfl, rfl⟩ rfl rfl rfl rfl rfl (by kernel_rfl) Tryd.func6 (by kernel_rfl)
    (of_decide_eq_true (by kernel_rfl)) (by unfold Func.isWrapper; first | (rw [if_pos (by decide +kernel)]; kernel_rfl) | (rw [if_neg (by decide +kernel)]; exact ⟨rfl, rfl⟩))
    (fun os started H enc _ => fnExactPathOf_lifted os started H enc)

/-- The card: the two variables are tied to the program's text by the given tie. -/
theorem fnExactPathOf_card : Rows.FnExactPathOfCardSaid :=
  Claim7.holds_tied_plain_at .later [] [.data, .data] true Rows.fnExactPathOfCard.stood.harness false
    fnExactPathOf_holds (fun _ h => by cases h) (by kernel_rfl) (fun _ h => by cases h) fnExactPathOf_row_tie rfl ⟨rfl, rfl⟩ (by kernel_rfl) rfl
    (fun f fn hf hfn => by
      obtain rfl : f = 6 := Option.some.inj ((show Tryd.prog.funcNamed Rows.fnExactPathOfRow.func = some 6 by kernel_rfl).symm.trans hf) |>.symm
      obtain rfl : fn = Tryd.f6 := (Option.some.inj (Tryd.func6.symm.trans hfn)).symm
      exact ⟨by kernel_rfl, fun j t ht => by
        rw [Tryd.params6] at ht
        have hm : t ∈ [26, 3] := by simpa using Array.mem_of_getElem? ht
        have hall : ([26, 3].all fun u => !Tryd.prog.wantsStandIn u) = true := by kernel_rfl
        exact (show Tryd.prog.wantsStandIn t = false by simpa using List.all_eq_true.1 hall t hm)⟩)
    (by kernel_rfl)

end Go.Proofs.YtknnecmfebnfbakDoor
