/- At all ledgers SetOf of the program answers as the model's SetOf, writes into no argument, and its answer owns its memory: the law FnExactSetOf returns true, with no condition. -/
import Derived.Test.YtoejikphbienfaaRows
import Derived.Test.YtoejikphbienfaaLgOpen
import Derived.Test.YtoejikphbienfaaVsEq
import Derived.Test.YtoejikphbienfaaVsMark
import Derived.Test.YtoejikphbienfaaVsSet
import Derived.Test.YtoejikphbienfaaLgFacts
import Derived.WalkKit
import Derived.ProofKit
import Derived.OpenShut
import Derived.ShutString
import Derived.ChangeOld
import Derived.Below
import Derived.SliceStrings
namespace Go.Proofs.Ytoejikphbienfaa
open Go.ChangeShapes Go.WideShapes Go.ChangeAt Go.RowKit
open Go.ChangeMaps (open_string shut_string)
set_option linter.unusedVariables false

theorem fnExactSetOf_own : ownKnob Try.prog.godebug = none := by kernel_rfl
theorem fnExactSetOf_laidOut : laidOutB Try.prog = true := by kernel_rfl

theorem OwnV.btw {base lo hi : Nat} {w w' : World} {v : Value} {l : List Vl} (h : OwnV base w v l) (hb : Btw lo hi w w') (hd : hi ≤ base ∨ ∀ k, v.ownBlock = some k → k < lo) : OwnV base w' v l :=
  row_btw h hb (fun k hk => by rcases hd with h' | h'; exact .inr (by have := h.ge k hk; omega); exact .inl (h' k hk))
open Classical in
set_option maxRecDepth 20000 in
set_option maxHeartbeats 4000000 in
theorem fnExactSetOf_walk (a0 : Int) (y0 : Value) (z0 : List Ac) (w : World) (w0 : RdA w y0 z0 ∧ z0.length ≤ maxLen ∧ ∀ q ∈ z0, q.1.size ≤ maxLen ∧ q.2.2.2.2.length ≤ maxLen) :
    Calls Try.prog 7 #[lgV a0 y0] w fun e w' => e = .returned (.bool true) ∧ Below w.heap.size w w' := by
  obtain ⟨hr, hlm, hsm⟩ := w0
  obtain ⟨av, cv, rfl⟩ := hr.shape
  have hlm' : z0.length ≤ 9223372036854775807 := by unfold maxLen at hlm; omega
  have hsm' : ∀ a ∈ z0, a.1.size ≤ 9223372036854775807 ∧ a.2.2.2.2.length ≤ 9223372036854775807 := fun a ha => by have := hsm a ha; unfold maxLen at this; omega
  obtain ⟨w1, hw1⟩ : ∃ w1, w.alloc (.cells #[.int .i64 a0, .slice av z0.length cv] 52) = w1 := ⟨_, rfl⟩
  have hb1 : Below w.heap.size w w1 := by rw [← hw1]; exact (Below.refl _ w).alloc (Nat.le_refl _) _
  have k1 : Blk w1 w.heap.size 52 [.int .i64 a0, .slice av z0.length cv] := by rw [← hw1]; exact Blk.new w _ _
  have Hz := hide (szLedger_any a0 _ z0 1048576 w1 (hr.below hb1 (Nat.le_refl _)) (by omega) hlm' hsm')
  have Hr := hide hr
  have Hsm := hide hsm
  have l1 : w1.heap.size = w.heap.size + 1 := by rw [← hw1]; simp
  have c0 := k1.cell 0
  have c1 := k1.cell 1
  simp only [List.getElem?_cons_zero, List.getElem?_cons_succ] at c0 c1
  simp only [lgV] at *
  clear hr hsm hsm' hlm
  go_enter Try.func7, Try.ntmps7
  go_wp2_with fail
  refine Hz.out.mono ?_
  rintro e w2 ⟨r, rfl, hfit, hb2⟩
  have hB2 : Below w.heap.size w w2 := hb1.trans (hb2.mono hb1.size)
  have k2 := k1.below hb2 k1.lt
  clear c0 c1 k1
  by_cases hneg : r < 0
  · clear hfit
    go_wp2
    go_ret
    exact ⟨rfl, hB2⟩
  · have hl := hfit (by omega)
    have hl4 : z0.length ≤ 4000000 := by omega
    have hlv : ∀ a ∈ z0, a.2.2.2.2.length ≤ 4000000 := fun a ha => by have h1 := totA_at z0 a ha; unfold wgA at h1; omega
    have hnl : ∀ a ∈ z0, a.1.size ≤ maxLen ∧ a.2.2.2.2.length ≤ 4000000 := fun a ha => ⟨(Hsm.out a ha).1, hlv a ha⟩
    have hnz : nxs 1 z0 ≤ 90000000 := by have := nxs_tot 1 z0; omega
    have HS := hide (fun v w hr => specSetOf_any a0 v z0 w hr hl4 hnl)
    have HI := hide (fun v w hr => implSetOf_any a0 v z0 w hr hl4 hnl)
    have HT := hide (fun v w hr => toLedger_any a0 v z0 w hr hl4 hlv)
    have HE := hide (fun v1 v2 w h1 h2 => eqLedger_any a0 a0 v1 v2 z0 z0 w h1 h2 hl4 hl4 hlv hlv)
    rw [decide_eq_true rfl, decide_eq_true rfl, Bool.true_and] at HE
    have hXl : (setA a0 z0).length ≤ 4000000 := by have := setA_len a0 z0; omega
    generalize setA a0 z0 = X at HS HI hXl
    have HEX := hide (fun v1 v2 w h1 h2 => eqValS_any v1 v2 X X w h1 h2 hXl hXl)
    rw [decide_eq_true rfl] at HEX
    have HM := hide (fun v base hi w ho => markLedger_any a0 v z0 1 base hi w ho (by omega) (fun a ha => by have := hlv a ha; omega) hnz (by omega))
    have HMX := hide (fun v base w ho => markValS_any v X 1 base w ho (by omega) (by omega) (by omega))
    have HH := hide (fun v w hr => heldValS_any v 1 X.length w hr (by omega) (by omega) (by omega))
    have hkz : ¬ ((nxs 1 z0 : Nat) : Int) < 0 := by omega
    have hkX : ¬ ((1 + 2 * X.length : Nat) : Int) < 0 := by omega
    generalize nxs 1 z0 = kz at HM hkz
    generalize 1 + 2 * X.length = kX at HMX HH hkX
    simp only [lgV] at HS HI HT HE HM
    clear hfit hl hl4 hlv hnl Hsm Hz hnz hXl
    have c0 := k2.cell 0
    have c1 := k2.cell 1
    simp only [List.getElem?_cons_zero, List.getElem?_cons_succ] at c0 c1
    go_wp2_with fail
    refine (HT.out _ _ (Hr.out.below hB2 (Nat.le_refl _))).mono ?_
    rintro e w3 ⟨v3, rfl, o3, hb3⟩
    have hB3 : Below w.heap.size w w3 := hB2.trans (hb3.mono hB2.size)
    replace k2 := k2.below hb3 k2.lt
    obtain ⟨a3, cv3, rfl⟩ := o3.rd.shape
    clear c0 c1
    go_wp2_with fail
    refine (HS.out _ _ o3.rd).mono ?_
    rintro e w4 ⟨v4, rfl, o4, hb4⟩
    have hB4 : Below w.heap.size w w4 := hB3.trans (hb4.mono hB3.size)
    replace k2 := k2.below hb4 k2.lt
    have Hlt4 : Hid (∀ g, v4.ownBlock = some g → g < w4.heap.size) := hide (fun g hg => o4.lt g hg)
    clear o3
    have c0 := k2.cell 0
    have c1 := k2.cell 1
    simp only [List.getElem?_cons_zero, List.getElem?_cons_succ] at c0 c1
    go_wp2_with fail
    refine (HT.out _ _ (Hr.out.below hB4 (Nat.le_refl _))).mono ?_
    rintro e w5 ⟨v5, rfl, o5, hb5⟩
    have hB5 : Below w.heap.size w w5 := hB4.trans (hb5.mono hB4.size)
    replace k2 := k2.below hb5 k2.lt
    replace o4 := o4.below hb5 (Nat.le_refl _)
    have x5 := o5.ox
    clear o5 c0 c1
    obtain ⟨a5, cv5, rfl⟩ := x5.rd.shape
    obtain ⟨w6, hw6⟩ : ∃ x, w5.alloc (.cells #[.int .i64 a0, .slice a5 z0.length cv5] 26) = x := ⟨_, rfl⟩
    have hb6 : Below w5.heap.size w5 w6 := by rw [← hw6]; exact (Below.refl _ w5).alloc (Nat.le_refl _) _
    have b6 : Blk w6 w5.heap.size 26 [.int .i64 a0, .slice a5 z0.length cv5] := by rw [← hw6]; exact Blk.new w5 _ _
    have hB6 : Below w.heap.size w w6 := hB5.trans (hb6.mono hB5.size)
    replace k2 := k2.below hb6 k2.lt
    replace o4 := o4.below hb6 (Nat.le_refl _)
    replace x5 := x5.below hb6 (Nat.le_refl _)
    have c0 := b6.cell 0
    have c1 := b6.cell 1
    simp only [List.getElem?_cons_zero, List.getElem?_cons_succ] at c0 c1
    go_wp2_with fail
    refine (HI.out _ _ x5.rd).mono ?_
    rintro e w7 ⟨v7, rfl, o7, hb7⟩
    have hB7 : Below w.heap.size w w7 := hB6.trans (hb7.mono hB6.size)
    replace k2 := k2.below hb7 k2.lt
    replace b6 := b6.below hb7 b6.lt
    replace o4 := o4.below hb7 (Nat.le_refl _)
    replace x5 := x5.below hb7 (Nat.le_refl _)
    have Hlt7 : Hid (∀ g, v7.ownBlock = some g → w6.heap.size ≤ g ∧ g < w7.heap.size) := hide (fun g hg => ⟨o7.ge g hg, o7.lt g hg⟩)
    clear c0 c1
    go_wp2_with fail
    refine (HEX.out _ _ _ o7.rd o4.rd).mono ?_
    rintro e w8 ⟨rfl, hb8⟩
    have hB8 : Below w.heap.size w w8 := hB7.trans (hb8.mono hB7.size)
    replace k2 := k2.below hb8 k2.lt
    replace b6 := b6.below hb8 b6.lt
    replace o4 := o4.below hb8 (Nat.le_refl _)
    replace x5 := x5.below hb8 (Nat.le_refl _)
    replace o7 := o7.below hb8 (Nat.le_refl _)
    have hd8 : Below w8.heap.size w8 w8.drew := (Below.refl _ w8).drew
    have hB8d : Below w.heap.size w w8.drew := hB8.drew
    replace k2 := k2.below hd8 k2.lt
    replace b6 := b6.below hd8 b6.lt
    replace o4 := o4.below hd8 (Nat.le_refl _)
    replace x5 := x5.below hd8 (Nat.le_refl _)
    replace o7 := o7.below hd8 (Nat.le_refl _)
    have HSx : Hid (∀ W, Blk W w.heap.size 52 [.int .i64 a0, .slice av z0.length cv] → Blk W w5.heap.size 26 [.int .i64 a0, .slice a5 z0.length cv5] → (W.cell? ⟨w.heap.size, 0, none⟩ = some (.int .i64 a0) ∧ W.cell? ⟨w.heap.size, 1, none⟩ = some (.slice av z0.length cv) ∧ W.cell? ⟨w5.heap.size, 0, none⟩ = some (.int .i64 a0) ∧ W.cell? ⟨w5.heap.size, 1, none⟩ = some (.slice a5 z0.length cv5))) := hide (fun W h1 h2 => ⟨h1.cell 0, h1.cell 1, h2.cell 0, h2.cell 1⟩)
    have hS8 := HSx.out _ k2 b6
    have Kk := hide k2
    have Kb := hide b6
    have Kx := hide x5
    clear k2 b6 x5
    go_wp2
    go_region_held_law (fun w' => w'.cell? ⟨w.heap.size, 0, none⟩ = some (.int .i64 a0) ∧ w'.cell? ⟨w.heap.size, 1, none⟩ = some (.slice av z0.length cv) ∧ w'.cell? ⟨w5.heap.size, 0, none⟩ = some (.int .i64 a0) ∧ w'.cell? ⟨w5.heap.size, 1, none⟩ = some (.slice a5 z0.length cv5)) (first | with_reducible exact hS8 | with_reducible exact hS9 | with_reducible exact hS10) ((first
      | (go_at_call 29; refine (HE.out _ _ _ (Kx.out.below hb9 (Nat.le_refl _)).rd o9.rd).mono ?_; rintro e w10 ⟨rfl, hb10⟩; have hS10 := HSx.out _ ((Kk.out.below hb9 Kk.out.lt).below hb10 (Kk.out.below hb9 Kk.out.lt).lt) ((Kb.out.below hb9 Kb.out.lt).below hb10 (Kb.out.below hb9 Kb.out.lt).lt))
      | (go_at_call 28; refine (HT.out _ _ (Hr.out.below hB8d (Nat.le_refl _))).mono ?_; rintro e w9 ⟨v9, rfl, o9, hb9⟩; have hsh := o9.rd.shape; obtain ⟨a9, cv9, hv9⟩ := hsh; subst hv9; have hS9 := HSx.out _ (Kk.out.below hb9 Kk.out.lt) (Kb.out.below hb9 Kb.out.lt))))
    have k2 := Kk.out
    have b6 := Kb.out
    have x5 := Kx.out
    have hB9 : Below w.heap.size w w9 := hB8d.trans (hb9.mono hB8.size)
    replace k2 := k2.below hb9 k2.lt
    replace b6 := b6.below hb9 b6.lt
    replace o4 := o4.below hb9 (Nat.le_refl _)
    replace x5 := x5.below hb9 (Nat.le_refl _)
    replace o7 := o7.below hb9 (Nat.le_refl _)
    have hB10 : Below w.heap.size w w10 := hB9.trans (hb10.mono hB9.size)
    replace k2 := k2.below hb10 k2.lt
    replace b6 := b6.below hb10 b6.lt
    replace o4 := o4.below hb10 (Nat.le_refl _)
    replace x5 := x5.below hb10 (Nat.le_refl _)
    replace o7 := o7.below hb10 (Nat.le_refl _)
    clear hS8 hS9 hS10 o9 HSx Kk Kb Kx
    have c0 := b6.cell 0
    have c1 := b6.cell 1
    simp only [List.getElem?_cons_zero, List.getElem?_cons_succ] at c0 c1
    have hz2 := hB2.size
    have hz3 := hb3.size
    have hz4 := hb4.size
    have hz5 := hb5.size
    have hz6 := hb6.size
    have hz7 := hb7.size
    have hk2 : w.heap.size < w2.heap.size := by have := hb2.size; omega
    go_wp2_with fail
    refine (HM.out _ _ _ _ x5).mono ?_
    rintro e w11 ⟨rfl, -, ht11⟩
    have hB11 : Below w.heap.size w w11 := hB10.trans (ht11.below (by omega) hB10.size)
    clear c0 c1 x5 b6
    replace k2 := k2.btw ht11 (.inl (by omega))
    replace o4 := o4.btw ht11 (.inr Hlt4.out)
    replace o7 := o7.btw ht11 (.inl (by omega))
    go_wp2_with fail
    refine (HEX.out _ _ _ o7.rd o4.rd).mono ?_
    rintro e w12 ⟨rfl, hb12⟩
    have hB12 : Below w.heap.size w w12 := hB11.trans (hb12.mono hB11.size)
    replace k2 := k2.below hb12 k2.lt
    replace o4 := o4.below hb12 (Nat.le_refl _)
    replace o7 := o7.below hb12 (Nat.le_refl _)
    go_wp2_with fail
    refine (HMX.out _ _ _ o7).mono ?_
    rintro e w13 ⟨rfl, o13, hg13⟩
    have ht13 : Btw w6.heap.size w7.heap.size w12 w13 := Btw.of_grown hg13 Hlt7.out
    have hB13 : Below w.heap.size w w13 := hB12.trans (ht13.below (by omega) hB12.size)
    clear o7 hg13
    replace k2 := k2.btw ht13 (.inl (by omega))
    replace o4 := o4.btw ht13 (.inr (fun g hg => by have := Hlt4.out g hg; omega))
    go_wp2_with fail
    refine (HH.out _ _ o13.rd).mono ?_
    rintro e w14 ⟨rfl, hb14⟩
    have hB14 : Below w.heap.size w w14 := hB13.trans (hb14.mono hB13.size)
    replace k2 := k2.below hb14 k2.lt
    replace o4 := o4.below hb14 (Nat.le_refl _)
    replace o13 := o13.below hb14 (Nat.le_refl _)
    have c0 := k2.cell 0
    have c1 := k2.cell 1
    simp only [List.getElem?_cons_zero, List.getElem?_cons_succ] at c0 c1
    go_wp2_with fail
    refine (HT.out _ _ (Hr.out.below hB14 (Nat.le_refl _))).mono ?_
    rintro e w15 ⟨v15, rfl, o15, hb15⟩
    have hB15 : Below w.heap.size w w15 := hB14.trans (hb15.mono hB14.size)
    replace k2 := k2.below hb15 k2.lt
    replace o4 := o4.below hb15 (Nat.le_refl _)
    replace o13 := o13.below hb15 (Nat.le_refl _)
    obtain ⟨a15, cv15, rfl⟩ := o15.rd.shape
    clear c0 c1
    go_wp2_with fail
    refine (HI.out _ _ o15.rd).mono ?_
    rintro e w16 ⟨v16, rfl, o16, hb16⟩
    have hB16 : Below w.heap.size w w16 := hB15.trans (hb16.mono hB15.size)
    replace k2 := k2.below hb16 k2.lt
    replace o4 := o4.below hb16 (Nat.le_refl _)
    replace o13 := o13.below hb16 (Nat.le_refl _)
    clear o15
    go_wp2_with fail
    refine (HEX.out _ _ _ o16.rd o4.rd).mono ?_
    rintro e w17 ⟨rfl, hb17⟩
    have hB17 : Below w.heap.size w w17 := hB16.trans (hb17.mono hB16.size)
    replace k2 := k2.below hb17 k2.lt
    replace o4 := o4.below hb17 (Nat.le_refl _)
    replace o13 := o13.below hb17 (Nat.le_refl _)
    go_wp2_with fail
    refine (HH.out _ _ o13.rd).mono ?_
    rintro e w18 ⟨rfl, hb18⟩
    have hB18 : Below w.heap.size w w18 := hB17.trans (hb18.mono hB17.size)
    go_wp2
    go_ret
    exact ⟨rfl, hB18⟩

set_option maxRecDepth 100000 in
theorem fnExactSetOf_lifted (os : Os) (started : os.Started) (H : Type) (enc : TypeId × Value → H) :
    ReturnsInHanded {} Try.checked os 7 .any (Rows.fnExactSetOfSpec.pre6 enc Try.prog Try.f7 Rows.fnExactSetOfRow.domain false) (Rows.fnExactSetOfSpec.post enc Try.prog Try.f7 false true false false) := by
  refine returnsInHanded_of_change (C := Try.checked) fnExactSetOf_own started (by kernel_rfl) Try.func7
    (ChangeSpec.witness6 (enc := enc) (C := Try.checked) false ⟨#[], #[.agg #[.int .i64 0, .slice none 0 0]], []⟩ 8 (by kernel_rfl) (by kernel_rfl) (by kernel_rfl) (by kernel_rfl)) ?_
  intro W base args ds gs before hval0 hW hcnd _
  have hval : ∀ (j : Nat) t v, Try.f7.params[j]? = some t → args[j]? = some v → Value.okWide Try.prog W .any base t v := hval0
  have hW' := hW
  obtain ⟨p, q, hA0, hV, rfl, hfz, hnd⟩ := hW
  have hA : DataW.TrodAll enc Try.prog W 0 (fun _ => true) true Try.f7.params.toList args.toList ds p := hA0
  rw [Try.params7] at hA hval
  obtain ⟨v0, vs0, d0, ds0, p0, q0, hargs, rfl, rfl, h0, r0⟩ := trodAll_cons hA
  obtain ⟨rfl, rfl, rfl⟩ := trodAll_nil r0
  obtain rfl : args = #[v0] := by cases args; simp_all
  obtain ⟨rfl, rfl⟩ := trodVars_none hV
  have k0 := h0
  have lt0 : ∀ x ∈ p0, x.block < W.heap.size := by obtain ⟨m, hm⟩ := k0; exact DataW.trod_lt m _ _ _ hm
  obtain ⟨a0, y0, z0, rfl, w0⟩ : ∃ (e : Int) (v : Value) (l : List Ac), v0 = lgV e v ∧ RdA W v l ∧ l.length ≤ maxLen ∧ ∀ q ∈ l, q.1.size ≤ maxLen ∧ q.2.2.2.2.length ≤ maxLen := by
    obtain ⟨cs, rfl, hsz⟩ := okWide_struct Try.underlying52 (hval 0 52 _ rfl rfl)
    obtain ⟨fuel, hf⟩ := h0
    obtain ⟨e, v, l, q, r⟩ := open_ledger (by simpa [Value.cells] using hf)
    exact ⟨e, v, l, by cases cs; simp at q; subst q; rfl, r⟩
  clear hA0 hval0
  refine (fnExactSetOf_walk a0 y0 z0 W w0).mono fun e W' ⟨he, bel⟩ => ?_
  subst he
  exact ⟨_, rfl, _, _, _, [], _, [], hW', trodAll_mk1 (shut_bool Try.underlying4 _), (trodAll_cons_mk (Below.trod fnExactSetOf_laidOut (by kernel_rfl) (of_decide_eq_true (by kernel_rfl)) k0 bel lt0) trodAll_mk0), rfl, bel.frame _, fun h => by cases h⟩

theorem fnExactSetOf_holds : Rows.FnExactSetOfSaid :=
  OpenClaim.holds_of_wide 7 Try.f7 rfl rfl rfl rfl rfl rfl rfl ⟨rfl, rfl, rfl, rfl, rfl⟩ rfl rfl rfl rfl rfl (by kernel_rfl) Try.func7 (by kernel_rfl)
    (of_decide_eq_true (by kernel_rfl)) (by unfold Func.isWrapper; first | (rw [if_pos (by decide +kernel)]; kernel_rfl) | (rw [if_neg (by decide +kernel)]; exact ⟨rfl, rfl⟩))
    (fun os started H enc _ => fnExactSetOf_lifted os started H enc)

end Go.Proofs.Ytoejikphbienfaa
