/- At all lists of blocks and numbers ChainOf of the program answers as the model's ChainOf, writes into no argument, and its answer owns its memory: the law FnExactChainOf returns true, with no condition. -/
import Derived.Test.YtlfoaobgdipdlaaRows
import Derived.Test.YtlfoaobgdipdlaaZlKsOpen
import Derived.Test.YtlfoaobgdipdlaaZlKsEq
import Derived.Test.YtlfoaobgdipdlaaZlKsSz
import Derived.Test.YtlfoaobgdipdlaaZlTrChS
import Derived.Test.YtlfoaobgdipdlaaZlTrChI
import Derived.Test.YtlfoaobgdipdlaaZlKsMark
import Derived.WalkKit
import Derived.ProofKit
import Derived.OpenShut
import Derived.ShutString
import Derived.ChangeOld
import Derived.Below
import Derived.SliceStrings
namespace Go.Proofs.Ytlfoaobgdipdlaa
open Go.ChangeShapes Go.WideShapes Go.ChangeAt Go.RowKit
open Go.ChangeMaps (open_string shut_string)
set_option linter.unusedVariables false

theorem fnExactChainOf_own : ownKnob Try.prog.godebug = none := by kernel_rfl
theorem fnExactChainOf_laidOut : laidOutB Try.prog = true := by kernel_rfl

theorem coA_len (l : List Bk) (id : Int) : (coA l id).length ≤ l.length := by
  unfold coA
  split
  · rename_i h
    rw [List.length_map]
    exact chA_len (treeP_of h) id
  · simp
theorem totM_sum (l : List Bk) : totM l ≤ 9 * l.length + 5 * totK l := by
  induction l with
  | nil => simp [totM]
  | cons b l ih =>
    have e1 : totM (b :: l) = mkN b + totM l := by simp [totM]
    have e2 : totK (b :: l) = wgK b + totK l := by simp [totK]
    rw [e1, e2, List.length_cons]
    unfold mkN wgK
    omega
theorem fewN_of {l : List Bk} (h : ∀ q ∈ l, FitK q) (hm : totK l ≤ 1048576) : ∀ b ∈ l, FewK b := fun b hb => by
  have f := h b hb
  have m := totK_at l b hb
  unfold wgK at m
  exact ⟨by omega, by omega, by omega, by omega, by omega, f.qs, f.ws, f.ts, f.ns, f.ms, f.rs⟩
set_option maxRecDepth 20000 in
set_option maxHeartbeats 4000000 in
theorem fnExactChainOf_walk (a0 : Option Addr) (len0 cap0 : Nat) (z0 : List Bk) (a1 : Int) (w : World) (w0 : len0 = z0.length ∧ RdKs w (.slice a0 len0 cap0) z0 ∧ z0.length ≤ maxLen ∧ ∀ q ∈ z0, FitK q) (w1 : (Lit.int .i64 a1).wf = true) :
    Calls Try.prog 7 #[.slice a0 len0 cap0, .int .i64 a1] w fun e w' => e = .returned (.bool true) ∧ Below w.heap.size w w' := by
  clear w1
  obtain ⟨rfl, hr, hlm, hsm⟩ := w0
  have Hz := hide (szBlockSN_any _ z0 1048576 w hr (by omega) hlm hsm)
  have Hr := hide hr
  have Hsm := hide hsm
  clear hr hsm hlm
  go_enter Try.func7, Try.ntmps7
  go_wp2_with fail
  refine Hz.out.mono ?_
  rintro e w1 ⟨r, rfl, hfit, hb1⟩
  by_cases hneg : r < 0
  · clear hfit
    go_wp2
    go_ret
    exact ⟨rfl, hb1⟩
  · have hl := hfit (by omega)
    have hl4 : z0.length ≤ 1048576 := by omega
    have hlk : totK z0 ≤ 1048576 := by omega
    have hfew := fewN_of Hsm.out hlk
    have htr := trS_of Hsm.out
    have htm := totM_sum z0
    have hst : 1 + totM z0 ≤ 80000000 := by omega
    have HS := hide (fun v w hr => specChainOf_any v z0 a1 w hr (by omega) hfew htr)
    have HI := hide (fun v w hr => implChainOf_any v z0 a1 w hr (by omega) hfew htr)
    have HT := hide (fun v w hr => toBlockS_any v z0 w hr (by omega) hfew)
    have HE := hide (fun v1 v2 w h1 h2 => eqBlockS_any v1 v2 z0 w h1 h2 (by omega) hfew)
    have hXl : (coA z0 a1).length ≤ 1048576 := by have := coA_len z0 a1; omega
    generalize coA z0 a1 = X at HS HI hXl
    have HEX := hide (fun v1 v2 w h1 h2 => eqIntS_any v1 v2 X X w h1 h2 (by omega) (by omega))
    rw [decide_eq_true rfl] at HEX
    have HM := hide (fun v base V0 V ho hb => markBlockS_any v z0 1 base V0 V ho hb (by omega) (fun b hb => ⟨(hfew b hb).q, (hfew b hb).w, (hfew b hb).h, (hfew b hb).t, (hfew b hb).n⟩) hst (by omega))
    have HMX := hide (fun v base w ho => markIntS_any v X 1 base w ho (by omega) (by omega) (by omega))
    have HH := hide (fun v w hr => heldIntS_any v 1 X.length w hr (by omega) (by omega) (by omega))
    have hkz : ¬ ((1 + totM z0 : Nat) : Int) < 0 := by omega
    have hkX : ¬ ((1 + X.length : Nat) : Int) < 0 := by omega
    generalize 1 + totM z0 = kz at HM hkz
    generalize 1 + X.length = kX at HMX HH hkX
    clear hfit hl hl4 hlk hfew htr htm hst Hsm Hz hXl
    go_wp2_with fail
    refine (HT.out _ _ (Hr.out.below hb1 (Nat.le_refl _))).mono ?_
    rintro e w2 ⟨v2, rfl, o2, hb2⟩
    have hB2 : Below w.heap.size w w2 := hb1.trans (hb2.mono hb1.size)
    go_wp2_with fail
    refine (HS.out _ _ o2.rd).mono ?_
    rintro e w3 ⟨v3, rfl, o3, hb3⟩
    have hB3 : Below w.heap.size w w3 := hB2.trans (hb3.mono hB2.size)
    have Hlt3 : Hid (∀ g, v3.ownBlock = some g → g < w3.heap.size) := hide (fun g hg => o3.lt g hg)
    clear o2
    go_wp2_with fail
    refine (HT.out _ _ (Hr.out.below hB3 (Nat.le_refl _))).mono ?_
    rintro e w4 ⟨v4, rfl, o4, hb4⟩
    have hB4 : Below w.heap.size w w4 := hB3.trans (hb4.mono hB3.size)
    replace o3 := o3.below hb4 (Nat.le_refl _)
    have Ho4 := hide o4
    go_wp2_with fail
    refine (HI.out _ _ o4.rd).mono ?_
    rintro e w5 ⟨v5, rfl, o5, hb5⟩
    have hB5 : Below w.heap.size w w5 := hB4.trans (hb5.mono hB4.size)
    replace o3 := o3.below hb5 (Nat.le_refl _)
    have H45 := hide hb5
    have Hlt5 : Hid (∀ g, v5.ownBlock = some g → w4.heap.size ≤ g) := hide (fun g hg => o5.ge g hg)
    clear o4
    go_wp2_with fail
    refine (HEX.out _ _ _ o5.rd o3.rd).mono ?_
    rintro e w6 ⟨rfl, hs6⟩
    have hb6 := hs6 w5.heap.size
    have hB6 : Below w.heap.size w w6 := hB5.trans (hb6.mono hB5.size)
    replace o3 := o3.below hb6 (Nat.le_refl _)
    replace o5 := o5.below hb6 (Nat.le_refl _)
    have H46 := hide (H45.out.trans (hb6.mono H45.out.size))
    clear hs6 H45
    go_wp2_with fail
    refine (HT.out _ _ (Hr.out.below hB6 (Nat.le_refl _))).mono ?_
    rintro e w7 ⟨v7, rfl, o7, hb7⟩
    have hB7 : Below w.heap.size w w7 := hB6.trans (hb7.mono hB6.size)
    replace o3 := o3.below hb7 (Nat.le_refl _)
    replace o5 := o5.below hb7 (Nat.le_refl _)
    have H47 := hide (H46.out.trans (hb7.mono H46.out.size))
    clear H46
    go_wp2_with fail
    refine (HE.out _ _ _ (Ho4.out.rd.below H47.out (Nat.le_refl _)) o7.rd).mono ?_
    rintro e w8 ⟨rfl, hb8⟩
    have hB8 : Below w.heap.size w w8 := hB7.trans (hb8.mono hB7.size)
    replace o3 := o3.below hb8 (Nat.le_refl _)
    replace o5 := o5.below hb8 (Nat.le_refl _)
    have H48 := hide (H47.out.trans (hb8.mono H47.out.size))
    have h34 := hb4.size
    clear H47 o7
    go_wp2_with fail
    refine (HM.out _ _ _ _ Ho4.out H48.out).mono ?_
    rintro e w9 ⟨rfl, -, hO9⟩
    have hB9 : Below w.heap.size w w9 := hB8.trans (hO9.below (fun k hk => by have := hB3.size; omega) hB8.size)
    replace o3 : OwnI w2.heap.size w9 v3 X := row_oth o3 hO9 (fun k hk h => by have := Hlt3.out k hk; omega)
    replace o5 : OwnI w4.heap.size w9 v5 X := row_oth o5 hO9 (fun k hk h => by have := Hlt5.out k hk; omega)
    clear hO9 HM H48 Ho4
    go_wp2_with (go_at_call 32; refine (HEX.out _ _ _ o5.rd o3.rd).mono ?_; rintro e w10 ⟨rfl, hs10⟩)
    have hb10 := hs10 w9.heap.size
    have hB10 : Below w.heap.size w w10 := hB9.trans (hb10.mono hB9.size)
    replace o3 := o3.below hb10 (Nat.le_refl _)
    replace o5 := o5.below hb10 (Nat.le_refl _)
    clear hs10
    go_wp2_with fail
    refine (HMX.out _ _ _ o5).mono ?_
    rintro e w11 ⟨rfl, o11, hg11⟩
    have hB11 : Below w.heap.size w w11 := hB10.grown hg11 hB10.size (fun k hk => by have := Hlt5.out k hk; have := hB4.size; omega)
    replace o3 := o3.kept hg11 (by
      cases ho : v3.ownBlock with
      | none => exact .inl rfl
      | some g => exact .inr (fun e => by have := Hlt3.out g ho; have := Hlt5.out g e.symm; omega))
    clear o5 hg11 HMX
    go_wp2_with fail
    refine (HH.out _ _ o11.rd).mono ?_
    rintro e w12 ⟨rfl, hb12⟩
    have hB12 : Below w.heap.size w w12 := hB11.trans (hb12.mono hB11.size)
    replace o3 := o3.below hb12 (Nat.le_refl _)
    replace o11 := o11.below hb12 (Nat.le_refl _)
    go_wp2_with fail
    refine (HT.out _ _ (Hr.out.below hB12 (Nat.le_refl _))).mono ?_
    rintro e w13 ⟨v13, rfl, o13, hb13⟩
    have hB13 : Below w.heap.size w w13 := hB12.trans (hb13.mono hB12.size)
    replace o3 := o3.below hb13 (Nat.le_refl _)
    replace o11 := o11.below hb13 (Nat.le_refl _)
    go_wp2_with fail
    refine (HI.out _ _ o13.rd).mono ?_
    rintro e w14 ⟨v14, rfl, o14, hb14⟩
    have hB14 : Below w.heap.size w w14 := hB13.trans (hb14.mono hB13.size)
    replace o3 := o3.below hb14 (Nat.le_refl _)
    replace o11 := o11.below hb14 (Nat.le_refl _)
    clear o13
    go_wp2_with fail
    refine (HEX.out _ _ _ o14.rd o3.rd).mono ?_
    rintro e w15 ⟨rfl, hs15⟩
    have hb15 := hs15 w14.heap.size
    have hB15 : Below w.heap.size w w15 := hB14.trans (hb15.mono hB14.size)
    replace o11 := o11.below hb15 (Nat.le_refl _)
    clear o14 o3 hs15
    go_wp2_with fail
    refine (HH.out _ _ o11.rd).mono ?_
    rintro e w16 ⟨rfl, hb16⟩
    have hB16 : Below w.heap.size w w16 := hB15.trans (hb16.mono hB15.size)
    go_wp2
    go_ret
    exact ⟨rfl, hB16⟩

set_option maxRecDepth 100000 in
theorem fnExactChainOf_lifted (os : Os) (started : os.Started) (H : Type) (enc : TypeId × Value → H) :
    ReturnsInHanded {} Try.checked os 7 .any (Rows.fnExactChainOfSpec.pre6 enc Try.prog Try.f7 Rows.fnExactChainOfRow.domain false) (Rows.fnExactChainOfSpec.post enc Try.prog Try.f7 false true false false) := by
  refine returnsInHanded_of_change (C := Try.checked) fnExactChainOf_own started (by kernel_rfl) Try.func7
    (ChangeSpec.witness6 (enc := enc) (C := Try.checked) false ⟨#[], #[.slice none 0 0, .int .i64 0], []⟩ 8 (by kernel_rfl) (by kernel_rfl) (by kernel_rfl) (by kernel_rfl)) ?_
  intro W base args ds gs before hval0 hW hcnd _
  have hval : ∀ (j : Nat) t v, Try.f7.params[j]? = some t → args[j]? = some v → Value.okWide Try.prog W .any base t v := hval0
  have hW' := hW
  obtain ⟨p, q, hA0, hV, rfl, hfz, hnd⟩ := hW
  have hA : DataW.TrodAll enc Try.prog W 0 (fun _ => true) true Try.f7.params.toList args.toList ds p := hA0
  rw [Try.params7] at hA hval
  obtain ⟨v0, vs0, d0, ds0, p0, q0, hargs, rfl, rfl, h0, r0⟩ := trodAll_cons hA
  obtain ⟨v1, vs1, d1, ds1, p1, q1, rfl, rfl, rfl, h1, r1⟩ := trodAll_cons r0
  obtain ⟨rfl, rfl, rfl⟩ := trodAll_nil r1
  obtain rfl : args = #[v0, v1] := by cases args; simp_all
  obtain ⟨rfl, rfl⟩ := trodVars_none hV
  have k0 := h0
  have lt0 : ∀ x ∈ p0, x.block < W.heap.size := by obtain ⟨m, hm⟩ := k0; exact DataW.trod_lt m _ _ _ hm
  obtain ⟨a0, len0, cap0, rfl⟩ := okWide_slice Try.underlying22 (hval 0 22 v0 rfl rfl)
  obtain ⟨z0, w0⟩ : ∃ l : List Bk, len0 = l.length ∧ RdKs W (.slice a0 len0 cap0) l ∧ l.length ≤ maxLen ∧ ∀ q ∈ l, FitK q := by
    obtain ⟨fuel, hf⟩ := h0
    exact open_blockS (by simpa [Value.cells] using hf)
  obtain ⟨a1, rfl, rfl, rfl, w1⟩ := open_int Try.underlying3 (hval 1 3 v1 rfl rfl) h1
  clear hA0 hval0
  refine (fnExactChainOf_walk a0 len0 cap0 z0 a1 W w0 w1).mono fun e W' ⟨he, bel⟩ => ?_
  subst he
  exact ⟨_, rfl, _, _, _, [], _, [], hW', trodAll_mk1 (shut_bool Try.underlying4 _), (trodAll_cons_mk (Below.trod fnExactChainOf_laidOut (by kernel_rfl) (of_decide_eq_true (by kernel_rfl)) k0 bel lt0) (trodAll_cons_mk (shut_int Try.underlying3 w1) trodAll_mk0)), rfl, bel.frame _, fun h => by cases h⟩

theorem fnExactChainOf_holds : Rows.FnExactChainOfSaid :=
  OpenClaim.holds_of_wide 7 Try.f7 rfl rfl rfl rfl rfl rfl rfl ⟨rfl, rfl, rfl, rfl, rfl⟩ rfl rfl rfl rfl rfl (by kernel_rfl) Try.func7 (by kernel_rfl)
    (of_decide_eq_true (by kernel_rfl)) (by unfold Func.isWrapper; first | (rw [if_pos (by decide +kernel)]; kernel_rfl) | (rw [if_neg (by decide +kernel)]; exact ⟨rfl, rfl⟩))
    (fun os started H enc _ => fnExactChainOf_lifted os started H enc)

end Go.Proofs.Ytlfoaobgdipdlaa
