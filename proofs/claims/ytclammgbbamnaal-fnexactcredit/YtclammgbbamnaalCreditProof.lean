/- At all lists of accounts, every text and every number Credit of the program answers as the model's Credit, writes into no argument, and its answer owns its memory: the law FnExactCredit returns true, with no condition. -/
import Derived.Test.YtclammgbbamnaalRows
import Derived.Test.YtclammgbbamnaalRowS
import Derived.Test.YtclammgbbamnaalAcOpen
import Derived.Test.YtclammgbbamnaalAcEqS
import Derived.Test.YtclammgbbamnaalAcCrImpl
import Derived.Test.YtclammgbbamnaalAcHeld
import Derived.WalkKit
import Derived.ProofKit
import Derived.OpenShut
import Derived.ShutString
import Derived.ChangeOld
import Derived.Below
import Derived.SliceStrings
namespace Go.Proofs.Ytclammgbbamnaal
open Go.ChangeShapes Go.WideShapes Go.ChangeAt Go.RowKit
open Go.ChangeMaps (open_string shut_string)
set_option linter.unusedVariables false

theorem fnExactCredit_own : ownKnob Try.prog.godebug = none := by kernel_rfl
theorem fnExactCredit_laidOut : laidOutB Try.prog = true := by kernel_rfl

theorem nxs_tot : ∀ (k : Nat) (l : List Ac), nxs k l ≤ k + 4 * l.length + 2 * totA l
  | k, [] => by simp [nxs]
  | k, a :: t => by
    have h := nxs_tot (nx k a) t
    have e : totA (a :: t) = wgA a + totA t := by simp [totA]
    have e2 : a.2.2.2.2.length ≤ wgA a := by unfold wgA; omega
    unfold nx at h
    simp only [nxs, nx, List.length_cons]
    rw [e]
    omega
theorem nxs_four : ∀ (k : Nat) (l : List Ac), (∀ a ∈ l, a.2.2.2.2.length ≤ 4) → nxs k l ≤ k + 12 * l.length
  | k, [], _ => by simp [nxs]
  | k, a :: t, h => by
    have h' := nxs_four (nx k a) t (fun b hb => h b (List.mem_cons_of_mem _ hb))
    have e := h a List.mem_cons_self
    unfold nx at h'
    simp only [nxs, nx, List.length_cons]
    omega
theorem acs_mem {l : List Ac} (h : acsB l = true) : ∀ a ∈ l, a.2.2.2.2.length ≤ 4 := by
  intro a ha
  obtain ⟨j, hj, rfl⟩ := List.mem_iff_getElem.1 ha
  unfold acsB at h
  rw [Bool.and_eq_true, List.all_eq_true] at h
  have := h.1 j (List.mem_range.2 hj)
  rw [acAt_eq l j l[j] hj rfl, Bool.and_eq_true] at this
  have h2 := this.1
  unfold acB at h2
  simp only [Bool.and_eq_true, decide_eq_true_eq] at h2
  exact h2.2.2.2.2.1
theorem crA_is (l : List Ac) (s : ByteArray) (n : Int) : (crA l s n).1 = l ∨ acsB (crA l s n).1 = true := by
  unfold crA
  split
  · split
    · rename_i h; exact .inr h
    · exact .inl rfl
  · exact .inl rfl

open Classical in
set_option maxRecDepth 20000 in
set_option maxHeartbeats 4000000 in
theorem fnExactCredit_walk (a0 : Option Addr) (len0 cap0 : Nat) (z0 : List Ac) (a1 : ByteArray) (a2 : Int) (w : World) (w0 : len0 = z0.length ∧ RdA w (.slice a0 len0 cap0) z0 ∧ z0.length ≤ maxLen ∧ ∀ q ∈ z0, q.1.size ≤ maxLen ∧ q.2.2.2.2.length ≤ maxLen) (w1 : a1.size ≤ maxLen) (w2 : (Lit.int .i64 a2).wf = true) :
    Calls Try.prog 7 #[.slice a0 len0 cap0, .string a1, .int .i64 a2] w fun e w' => e = .returned (.bool true) ∧ Below w.heap.size w w' := by
  obtain ⟨rfl, hr, hlm, hsm⟩ := w0
  have hcap1 : a1.size ≤ 9223372036854775807 := by unfold maxLen at w1; omega
  have hlm' : z0.length ≤ 9223372036854775807 := by unfold maxLen at hlm; omega
  have hsm' : ∀ a ∈ z0, a.1.size ≤ 9223372036854775807 ∧ a.2.2.2.2.length ≤ 9223372036854775807 := fun a ha => by have := hsm a ha; unfold maxLen at this; omega
  have Hz := hide (szAcctS_any _ z0 1048576 w hr (by omega) hlm' hsm')
  have Hr := hide hr
  have Hsm := hide hsm
  have Hs1 := hide w1
  clear hr hsm hsm' hlm w2 w1
  by_cases hbig : 1048576 < a1.size
  · clear Hz
    go_enter Try.func7, Try.ntmps7
    go_wp2
    go_ret
    exact ⟨rfl, Below.refl _ _⟩
  go_enter Try.func7, Try.ntmps7
  go_wp2_with fail
  refine Hz.out.mono ?_
  rintro e w1 ⟨r, rfl, hfit, hb1⟩
  by_cases hneg : r < 0
  · clear hfit
    go_wp2
    go_ret
    exact ⟨rfl, hb1⟩
  · have hl := hfit (by omega)
    have hl4 : z0.length ≤ 4000000 := by omega
    have hlv : ∀ a ∈ z0, a.2.2.2.2.length ≤ 4000000 := fun a ha => by have h1 := totA_at z0 a ha; unfold wgA at h1; omega
    have hnl : ∀ a ∈ z0, a.1.size ≤ maxLen ∧ a.2.2.2.2.length ≤ 4000000 := fun a ha => ⟨(Hsm.out a ha).1, hlv a ha⟩
    have hnz : nxs 1 z0 ≤ 90000000 := by have := nxs_tot 1 z0; omega
    have HS := hide (fun v w hr => specCredit_any v z0 a1 a2 w hr (by omega) hnl Hs1.out)
    have HI := hide (fun v w hr => implCredit_any v z0 a1 a2 w hr (by omega) hnl Hs1.out)
    have HT := hide (fun v w hr => toAcctS_any v z0 w hr hl4 hlv)
    have HE := hide (fun v1 v2 w h1 h2 => eqAcctS_any v1 v2 z0 z0 w h1 h2 hl4 hl4 hlv hlv)
    have hP : (crA z0 a1 a2).1.length ≤ 4000000 ∧ (∀ a ∈ (crA z0 a1 a2).1, a.2.2.2.2.length ≤ 4000000) ∧ nxs 1 (crA z0 a1 a2).1 ≤ 90000000 := by
      rcases crA_is z0 a1 a2 with h | h
      · rw [h]; exact ⟨hl4, hlv, hnz⟩
      · have h1 := acs_len h
        have h2 := acs_mem h
        have h3 := nxs_four 1 _ h2
        exact ⟨by omega, fun a ha => by have := h2 a ha; omega, by omega⟩
    generalize (crA z0 a1 a2).1 = P at HS HI hP
    generalize (crA z0 a1 a2).2 = B at HS HI
    obtain ⟨hP4, hPlv, hPn⟩ := hP
    have HEP := hide (fun v1 v2 w h1 h2 => eqAcctS_any v1 v2 P P w h1 h2 hP4 hP4 hPlv hPlv)
    rw [decide_eq_true rfl] at HE HEP
    have HM := hide (fun v base hi w ho => markAcctS_any v z0 1 base hi w ho (by omega) (fun a ha => by have := hlv a ha; omega) hnz (by omega))
    have HMP := hide (fun v base hi w ho => markAcctS_any v P 1 base hi w ho (by omega) (fun a ha => by have := hPlv a ha; omega) hPn (by omega))
    have HH := hide (fun v w hr => heldAcctS_any v P 1 w hr (by omega) (fun a ha => by have := hPlv a ha; omega) hPn (by omega))
    have hkz : ¬ ((nxs 1 z0 : Nat) : Int) < 0 := by omega
    have hkP : ¬ ((nxs 1 P : Nat) : Int) < 0 := by omega
    generalize nxs 1 z0 = kz at HM hkz
    generalize nxs 1 P = kP at HMP HH hkP
    clear hfit hl hl4 hlv hnl Hsm Hz hnz hP4 hPlv hPn
    go_wp2_with fail
    refine (HT.out _ _ (Hr.out.below hb1 (Nat.le_refl _))).mono ?_
    rintro e w2 ⟨v2, rfl, ho2, hb2⟩
    have hB2 : Below w.heap.size w w2 := hb1.trans (hb2.mono hb1.size)
    go_wp2_with fail
    refine (HS.out _ _ ho2.rd).mono ?_
    rintro e w3 ⟨v3, rfl, ho3, hb3⟩
    have hB3 : Below w.heap.size w w3 := hB2.trans (hb3.mono hB2.size)
    have x3 := ho3.ox
    clear ho2 ho3
    go_wp2_with fail
    refine (HT.out _ _ (Hr.out.below hB3 (Nat.le_refl _))).mono ?_
    rintro e w4 ⟨v4, rfl, ho4, hb4⟩
    have hB4 : Below w.heap.size w w4 := hB3.trans (hb4.mono hB3.size)
    have x3 := x3.below hb4 (Nat.le_refl _)
    have x4 := ho4.ox
    clear ho4
    go_wp2_with fail
    refine (HI.out _ _ x4.rd).mono ?_
    rintro e w5 ⟨v5, rfl, ho5, hb5⟩
    have hB5 : Below w.heap.size w w5 := hB4.trans (hb5.mono hB4.size)
    have x3 := x3.below hb5 (Nat.le_refl _)
    have x4 := x4.below hb5 (Nat.le_refl _)
    have x5 := ho5.ox
    clear ho5
    go_wp2_with fail
    refine (HEP.out _ _ _ x5.rd x3.rd).mono ?_
    rintro e w6 ⟨rfl, hb6⟩
    have hB6 : Below w.heap.size w w6 := hB5.trans (hb6.mono hB5.size)
    have x3 := x3.below hb6 (Nat.le_refl _)
    have x4 := x4.below hb6 (Nat.le_refl _)
    have x5 := x5.below hb6 (Nat.le_refl _)
    go_wp2_with fail
    refine (HT.out _ _ (Hr.out.below hB6 (Nat.le_refl _))).mono ?_
    rintro e w7 ⟨v7, rfl, ho7, hb7⟩
    have hB7 : Below w.heap.size w w7 := hB6.trans (hb7.mono hB6.size)
    have x3 := x3.below hb7 (Nat.le_refl _)
    have x4 := x4.below hb7 (Nat.le_refl _)
    have x5 := x5.below hb7 (Nat.le_refl _)
    go_wp2_with fail
    refine (HE.out _ _ _ x4.rd ho7.rd).mono ?_
    rintro e w8 ⟨rfl, hb8⟩
    have hB8 : Below w.heap.size w w8 := hB7.trans (hb8.mono hB7.size)
    have x3 := x3.below hb8 (Nat.le_refl _)
    have x4 := x4.below hb8 (Nat.le_refl _)
    have x5 := x5.below hb8 (Nat.le_refl _)
    clear ho7
    go_wp2_with fail
    refine (HM.out _ _ _ _ x4).mono ?_
    rintro e w9 ⟨rfl, -, ht9⟩
    have hB9 : Below w.heap.size w w9 := hB8.trans (ht9.below hB3.size hB8.size)
    have x3 := x3.btw ht9 (.inl (Nat.le_refl _))
    have x5 := x5.btw ht9 (.inr (Nat.le_refl _))
    clear x4
    go_wp2_with fail
    refine (HEP.out _ _ _ x5.rd x3.rd).mono ?_
    rintro e w10 ⟨rfl, hb10⟩
    have hB10 : Below w.heap.size w w10 := hB9.trans (hb10.mono hB9.size)
    have x3 := x3.below hb10 (Nat.le_refl _)
    have x5 := x5.below hb10 (Nat.le_refl _)
    go_wp2_with fail
    refine (HMP.out _ _ _ _ x5).mono ?_
    rintro e w11 ⟨rfl, y5, ht11⟩
    have hB11 : Below w.heap.size w w11 := hB10.trans (ht11.below hB4.size hB10.size)
    have x3 := x3.btw ht11 (.inl hb4.size)
    clear x5
    go_wp2_with fail
    refine (HH.out _ _ y5.rd).mono ?_
    rintro e w12 ⟨rfl, hb12⟩
    have hB12 : Below w.heap.size w w12 := hB11.trans (hb12.mono hB11.size)
    have x3 := x3.below hb12 (Nat.le_refl _)
    have y5 := y5.below hb12 (Nat.le_refl _)
    go_wp2_with fail
    refine (HT.out _ _ (Hr.out.below hB12 (Nat.le_refl _))).mono ?_
    rintro e w13 ⟨v13, rfl, ho13, hb13⟩
    have hB13 : Below w.heap.size w w13 := hB12.trans (hb13.mono hB12.size)
    have x3 := x3.below hb13 (Nat.le_refl _)
    have y5 := y5.below hb13 (Nat.le_refl _)
    go_wp2_with fail
    refine (HI.out _ _ ho13.rd).mono ?_
    rintro e w14 ⟨v14, rfl, ho14, hb14⟩
    have hB14 : Below w.heap.size w w14 := hB13.trans (hb14.mono hB13.size)
    have x3 := x3.below hb14 (Nat.le_refl _)
    have y5 := y5.below hb14 (Nat.le_refl _)
    clear ho13
    go_wp2_with fail
    refine (HEP.out _ _ _ ho14.rd x3.rd).mono ?_
    rintro e w15 ⟨rfl, hb15⟩
    have hB15 : Below w.heap.size w w15 := hB14.trans (hb15.mono hB14.size)
    have y5 := y5.below hb15 (Nat.le_refl _)
    clear ho14 x3
    go_wp2_with fail
    refine (HH.out _ _ y5.rd).mono ?_
    rintro e w16 ⟨rfl, hb16⟩
    have hB16 : Below w.heap.size w w16 := hB15.trans (hb16.mono hB15.size)
    go_wp2
    go_ret
    exact ⟨rfl, hB16⟩

set_option maxRecDepth 100000 in
theorem fnExactCredit_lifted (os : Os) (started : os.Started) (H : Type) (enc : TypeId × Value → H) :
    ReturnsInHanded {} Try.checked os 7 .any (Rows.fnExactCreditSpec.pre6 enc Try.prog Try.f7 Rows.fnExactCreditRow.domain false) (Rows.fnExactCreditSpec.post enc Try.prog Try.f7 false true false false) := by
  refine returnsInHanded_of_change (C := Try.checked) fnExactCredit_own started (by kernel_rfl) Try.func7
    (ChangeSpec.witness6 (enc := enc) (C := Try.checked) false ⟨#[], #[.slice none 0 0, .string ByteArray.empty, .int .i64 0], []⟩ 8 (by kernel_rfl) (by kernel_rfl) (by kernel_rfl) (by kernel_rfl)) ?_
  intro W base args ds gs before hval0 hW hcnd _
  have hval : ∀ (j : Nat) t v, Try.f7.params[j]? = some t → args[j]? = some v → Value.okWide Try.prog W .any base t v := hval0
  have hW' := hW
  obtain ⟨p, q, hA0, hV, rfl, hfz, hnd⟩ := hW
  have hA : DataW.TrodAll enc Try.prog W 0 (fun _ => true) true Try.f7.params.toList args.toList ds p := hA0
  rw [Try.params7] at hA hval
  obtain ⟨v0, vs0, d0, ds0, p0, q0, hargs, rfl, rfl, h0, r0⟩ := trodAll_cons hA
  obtain ⟨v1, vs1, d1, ds1, p1, q1, rfl, rfl, rfl, h1, r1⟩ := trodAll_cons r0
  obtain ⟨v2, vs2, d2, ds2, p2, q2, rfl, rfl, rfl, h2, r2⟩ := trodAll_cons r1
  obtain ⟨rfl, rfl, rfl⟩ := trodAll_nil r2
  obtain rfl : args = #[v0, v1, v2] := by cases args; simp_all
  obtain ⟨rfl, rfl⟩ := trodVars_none hV
  have k0 := h0
  have lt0 : ∀ x ∈ p0, x.block < W.heap.size := by obtain ⟨m, hm⟩ := k0; exact DataW.trod_lt m _ _ _ hm
  obtain ⟨a0, len0, cap0, rfl⟩ := okWide_slice Try.underlying33 (hval 0 33 v0 rfl rfl)
  obtain ⟨z0, w0⟩ : ∃ l : List Ac, len0 = l.length ∧ RdA W (.slice a0 len0 cap0) l ∧ l.length ≤ maxLen ∧ ∀ q ∈ l, q.1.size ≤ maxLen ∧ q.2.2.2.2.length ≤ maxLen := by
    obtain ⟨fuel, hf⟩ := h0
    exact open_accS (by simpa [Value.cells] using hf)
  obtain ⟨a1, rfl, rfl, rfl, w1⟩ := open_string Try.underlying9 (hval 1 9 v1 rfl rfl) h1
  obtain ⟨a2, rfl, rfl, rfl, w2⟩ := open_int Try.underlying3 (hval 2 3 v2 rfl rfl) h2
  clear hA0 hval0
  refine (fnExactCredit_walk a0 len0 cap0 z0 a1 a2 W w0 w1 w2).mono fun e W' ⟨he, bel⟩ => ?_
  subst he
  exact ⟨_, rfl, _, _, _, [], _, [], hW', trodAll_mk1 (shut_bool Try.underlying4 _), (trodAll_cons_mk (Below.trod fnExactCredit_laidOut (by kernel_rfl) (of_decide_eq_true (by kernel_rfl)) k0 bel lt0) (trodAll_cons_mk (shut_string Try.underlying9 w1) (trodAll_cons_mk (shut_int Try.underlying3 w2) trodAll_mk0))), rfl, bel.frame _, fun h => by cases h⟩

theorem fnExactCredit_holds : Rows.FnExactCreditSaid :=
  OpenClaim.holds_of_wide 7 Try.f7 rfl rfl rfl rfl rfl rfl rfl ⟨rfl, rfl, rfl, rfl, rfl⟩ rfl rfl rfl rfl rfl (by kernel_rfl) Try.func7 (by kernel_rfl)
    (of_decide_eq_true (by kernel_rfl)) (by unfold Func.isWrapper; first | (rw [if_pos (by decide +kernel)]; kernel_rfl) | (rw [if_neg (by decide +kernel)]; exact ⟨rfl, rfl⟩))
    (fun os started H enc _ => fnExactCredit_lifted os started H enc)

end Go.Proofs.Ytclammgbbamnaal
