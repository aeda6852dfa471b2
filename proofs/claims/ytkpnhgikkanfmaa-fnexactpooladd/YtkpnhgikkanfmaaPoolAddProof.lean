/- At all lists of orders and all orders PoolAdd of the program answers as the model's PoolAdd, writes into no argument, and its answer owns its memory: the law FnExactPoolAdd returns true, with no condition. -/
import Derived.Test.YtkpnhgikkanfmaaRows
import Derived.Test.YtkpnhgikkanfmaaTxsOpen
import Derived.Test.YtkpnhgikkanfmaaTxMarkC
import Derived.Test.YtkpnhgikkanfmaaPlAddI
import Derived.Test.YtkpnhgikkanfmaaPlAddS
import Derived.WalkKit
import Derived.ProofKit
import Derived.OpenShut
import Derived.ShutString
import Derived.ChangeOld
import Derived.Below
import Derived.SliceStrings
namespace Go.Proofs.Ytkpnhgikkanfmaa
open Go.ChangeShapes Go.WideShapes Go.ChangeAt Go.RowKit
open Go.ChangeMaps (open_string shut_string)
set_option linter.unusedVariables false

theorem fnExactPoolAdd_own : ownKnob Try.prog.godebug = none := by kernel_rfl
theorem fnExactPoolAdd_laidOut : laidOutB Try.prog = true := by kernel_rfl

theorem poS_len (l : List Tx5) (t : Tx5) : (poS l t).1.length ≤ l.length + 1 := by
  unfold poS
  split
  · rw [insT_len]; exact Nat.le_refl _
  · simp
theorem OwnT.oth {S : Nat → Prop} {base : Nat} {w w' : World} {v : Value} {l : List Tx5} (h : OwnT base w v l) (hb : Oth S w w') (hn : ∀ k, v.ownBlock = some k → ¬ S k) : OwnT base w' v l := row_oth h hb hn
theorem Blk.oth1 {S : Nat → Prop} {W V : World} {B : Nat} {t : TypeId} {cs : List Value} (h : Blk W B t cs) (hb : Oth S W V) (hn : ¬ S B) : Blk V B t cs := (hb.block B h.lt hn).trans h
set_option maxRecDepth 20000 in
set_option maxHeartbeats 4000000 in
theorem fnExactPoolAdd_walk (a0 : Option Addr) (len0 cap0 : Nat) (z0 : List Tx5) (z1 : Tx5) (w : World) (w0 : len0 = z0.length ∧ RdT w (.slice a0 len0 cap0) z0 ∧ z0.length ≤ maxLen ∧ ∀ q ∈ z0, q.2.1.size ≤ maxLen ∧ q.2.2.1.size ≤ maxLen) (w1x : z1.2.1.size ≤ maxLen ∧ z1.2.2.1.size ≤ maxLen ∧ (Lit.int .i64 z1.1).wf = true ∧ (Lit.int .i64 z1.2.2.2.1).wf = true ∧ (Lit.int .i64 z1.2.2.2.2).wf = true) :
    Calls Try.prog 4 #[.slice a0 len0 cap0, txV z1] w fun e w' => e = .returned (.bool true) ∧ Below w.heap.size w w' := by
  obtain ⟨rfl, hrt, hlt, hst⟩ := w0
  obtain ⟨ht1, ht2, -, -, -⟩ := w1x
  have hlt' : z0.length ≤ 9223372036854775807 := by unfold maxLen at hlt; omega
  have hst' : ∀ a ∈ z0, a.2.1.size ≤ 9223372036854775807 ∧ a.2.2.1.size ≤ 9223372036854775807 := fun a ha => by have := hst a ha; unfold maxLen at this; omega
  have ht1' : z1.2.1.size ≤ 9223372036854775807 := by unfold maxLen at ht1; omega
  have ht2' : z1.2.2.1.size ≤ 9223372036854775807 := by unfold maxLen at ht2; omega
  have Hzt := hide (fun (m : Nat) w (hm : m ≤ 100000000) => szTx_any z1 (m : Int) w (by omega) (by omega) ht1' ht2')
  have HTt := hide (fun w => toTx_any z1 w)
  have HSp := hide (fun v w hr hl => specAddP_any v z0 z1 w hr hl hst ⟨ht1, ht2⟩)
  have HIp := hide (fun v w hr hl => implAddP_any v z0 z1 w hr hl hst ⟨ht1, ht2⟩)
  have hXl := poS_len z0 z1
  obtain ⟨X, b, hX⟩ : ∃ X b, poS z0 z1 = (X, b) := ⟨_, _, rfl⟩
  rw [hX] at HSp HIp hXl
  clear hX
  obtain ⟨kd, fm, tn, am, nc⟩ := z1
  simp only [txV] at *
  obtain ⟨w1, hw1⟩ : ∃ w1, w.alloc (.cells #[.int .i64 kd, .string fm, .string tn, .int .i64 am, .int .i64 nc] 30) = w1 := ⟨_, rfl⟩
  have hb1 : Below w.heap.size w w1 := by rw [← hw1]; exact (Below.refl _ w).alloc (Nat.le_refl _) _
  have k1 : Blk w1 w.heap.size 30 [.int .i64 kd, .string fm, .string tn, .int .i64 am, .int .i64 nc] := by rw [← hw1]; exact Blk.new w _ _
  have Hz := hide (szTxM_any _ z0 1048576 w1 (hrt.below hb1 (Nat.le_refl _)) (by omega) hlt' hst')
  have Hrt := hide hrt
  clear hrt hst hst' hlt hlt' ht1 ht2 ht1' ht2'
  go_enter Try.func4, Try.ntmps4
  go_wp2_with fail
  refine Hz.out.mono ?_
  rintro e w2a ⟨r, rfl, hfit, hb2a⟩
  have hB2a : Below w.heap.size w w2a := hb1.trans (hb2a.mono hb1.size)
  have k2 := k1.below hb2a k1.lt
  clear k1 Hz
  by_cases hneg : r < 0
  · clear hfit
    go_wp2
    go_ret
    exact ⟨rfl, hB2a⟩
  have hrm := hfit (by omega)
  obtain ⟨rn, hrn⟩ : ∃ n : Nat, r = (n : Int) := ⟨r.toNat, by omega⟩
  subst hrn
  have Hzu := hide (Hzt.out rn w2a (by omega))
  have c0 := k2.cell 0
  have c1 := k2.cell 1
  have c2 := k2.cell 2
  have c3 := k2.cell 3
  have c4 := k2.cell 4
  simp only [List.getElem?_cons_zero, List.getElem?_cons_succ] at c0 c1 c2 c3 c4
  generalize szT (kd, fm, tn, am, nc) (rn : Int) = r2 at Hzu
  clear hfit Hzt
  go_wp2_with fail
  refine Hzu.out.mono ?_
  rintro e w2 ⟨rfl, hb2⟩
  have hB2 : Below w.heap.size w w2 := hB2a.trans (hb2.mono hB2a.size)
  replace k2 := k2.below hb2 k2.lt
  clear Hzu c0 c1 c2 c3 c4
  by_cases hneg2 : r2 < 0
  · go_wp2
    go_ret
    exact ⟨rfl, hB2⟩
  · have hl0 : z0.length ≤ 1048576 := hrm.1
    have HS := hide (fun v w hr => HSp.out v w hr (by omega))
    have HI := hide (fun v w hr => HIp.out v w hr (by omega))
    have HX := hide (fun v w hr => toTxS_any v z0 w hr (by omega))
    have HE0 := hide (fun v1 v2 w h1 h2 => eqTxS_any v1 v2 z0 z0 w h1 h2 (by omega) (by omega) rfl)
    have HEX := hide (fun v1 v2 w h1 h2 => eqTxS_any v1 v2 X X w h1 h2 (by omega) (by omega) rfl)
    have HM0 := hide (fun v base w ho => markTxC_any v z0 1 base w ho (by omega) (by omega) (by omega))
    have HMX := hide (fun v base w ho => markTxC_any v X 1 base w ho (by omega) (by omega) (by omega))
    have HH := hide (fun v w hr => heldTxS_any v 1 X.length w hr (by omega) (by omega) (by omega))
    have hk0 : ¬ ((1 + 5 * z0.length : Nat) : Int) < 0 := by omega
    have hkX : ¬ ((1 + 5 * X.length : Nat) : Int) < 0 := by omega
    generalize 1 + 5 * z0.length = k0 at HM0 hk0
    generalize 1 + 5 * X.length = kX at HMX HH hkX
    have HLX := hide (fun w v (h : RdT w v X) => h.shape)
    generalize mkT 1 X.length = MX at HMX HH
    generalize X.length = xn at HLX hXl
    clear hrm hl0 HSp HIp hXl
    have hda : Below w2.heap.size w2 w2.drew := (Below.refl _ w2).drew
    have hB2d : Below w.heap.size w w2.drew := hB2.drew
    replace k2 := k2.below hda k2.lt
    have HSa : Hid (∀ W, Blk W w.heap.size 30 [.int .i64 kd, .string fm, .string tn, .int .i64 am, .int .i64 nc] → (W.cell? ⟨w.heap.size, 0, none⟩ = some (.int .i64 kd) ∧ W.cell? ⟨w.heap.size, 1, none⟩ = some (.string fm) ∧ W.cell? ⟨w.heap.size, 2, none⟩ = some (.string tn) ∧ W.cell? ⟨w.heap.size, 3, none⟩ = some (.int .i64 am) ∧ W.cell? ⟨w.heap.size, 4, none⟩ = some (.int .i64 nc))) := hide (fun W h1 => ⟨h1.cell 0, h1.cell 1, h1.cell 2, h1.cell 3, h1.cell 4⟩)
    have hS0 := HSa.out _ k2
    have Kk := hide k2
    clear k2
    go_wp2
    go_region_held_law (fun w' => w'.cell? ⟨w.heap.size, 0, none⟩ = some (.int .i64 kd) ∧ w'.cell? ⟨w.heap.size, 1, none⟩ = some (.string fm) ∧ w'.cell? ⟨w.heap.size, 2, none⟩ = some (.string tn) ∧ w'.cell? ⟨w.heap.size, 3, none⟩ = some (.int .i64 am) ∧ w'.cell? ⟨w.heap.size, 4, none⟩ = some (.int .i64 nc)) (first | with_reducible exact hS0 | with_reducible exact hS1 | with_reducible exact hS2 | with_reducible exact hS3) ((first
      | (go_at_call 15; refine (HS.out _ _ (oX.below hbT (Nat.le_refl _)).rd).mono ?_; rintro e w5 ⟨v5, rfl, o5, hbA⟩; have hS3 := HSa.out _ (((Kk.out.below hbX Kk.out.lt).below hbT (Kk.out.below hbX Kk.out.lt).lt).below hbA ((Kk.out.below hbX Kk.out.lt).below hbT (Kk.out.below hbX Kk.out.lt).lt).lt); obtain ⟨a5, c5, hv5⟩ := HLX.out _ _ o5.rd; subst hv5)
      | (go_at_call 16; refine (HTt.out _).mono ?_; rintro e wT ⟨rfl, hbT⟩; have hBT : Below w.heap.size w wT := hBX.trans (hbT.mono hBX.size); have hS2 := HSa.out _ ((Kk.out.below hbX Kk.out.lt).below hbT (Kk.out.below hbX Kk.out.lt).lt))
      | (go_at_call 11; refine (HX.out _ _ (Hrt.out.below hB2d (Nat.le_refl _))).mono ?_; rintro e wX ⟨vX, rfl, oX, hbX⟩; obtain ⟨aX, cX, rfl⟩ := oX.rd.shape; have hBX : Below w.heap.size w wX := hB2d.trans (hbX.mono hB2.size); have hS1 := HSa.out _ (Kk.out.below hbX Kk.out.lt))))
    have k2 := Kk.out
    have hb5 : Below w2.drew.heap.size w2.drew w5 := hbX.trans ((hbT.trans (hbA.mono hbT.size)).mono hbX.size)
    have hB5 : Below w.heap.size w w5 := hB2d.trans (hb5.mono hB2.size)
    replace k2 := k2.below hb5 k2.lt
    clear hS0 hS1 hS2 hS3 oX HSa Kk hbX hbT hbA hBX hBT
    have Hlt5 : Hid (∀ g, (Value.slice a5 xn c5).ownBlock = some g → g < w5.heap.size) := hide (fun g hg => (o5.lt g hg).2)
    go_wp2_with fail
    refine (HX.out _ _ (Hrt.out.below hB5 (Nat.le_refl _))).mono ?_
    rintro e w6 ⟨v6, rfl, o6, hb6⟩
    have hB6 : Below w.heap.size w w6 := hB5.trans (hb6.mono hB5.size)
    replace k2 := k2.below hb6 k2.lt
    replace o5 := o5.below hb6 (Nat.le_refl _)
    obtain ⟨a6, c6, rfl⟩ := o6.rd.shape
    have Hlt6 : Hid (∀ g, (Value.slice a6 z0.length c6).ownBlock = some g → w5.heap.size ≤ g ∧ g < w6.heap.size) := hide (fun g hg => o6.lt g hg)
    have c0 := k2.cell 0
    have c1 := k2.cell 1
    have c2 := k2.cell 2
    have c3 := k2.cell 3
    have c4 := k2.cell 4
    simp only [List.getElem?_cons_zero, List.getElem?_cons_succ] at c0 c1 c2 c3 c4
    go_wp2_with fail
    refine (HTt.out _).mono ?_
    rintro e w7 ⟨rfl, hb7⟩
    have hB7 : Below w.heap.size w w7 := hB6.trans (hb7.mono hB6.size)
    replace k2 := k2.below hb7 k2.lt
    replace o5 := o5.below hb7 (Nat.le_refl _)
    replace o6 := o6.below hb7 (Nat.le_refl _)
    clear c0 c1 c2 c3 c4
    go_wp2_with fail
    refine (HI.out _ _ o6.rd).mono ?_
    rintro e w9 ⟨v9, rfl, o9, hb9⟩
    have hB9 : Below w.heap.size w w9 := hB7.trans (hb9.mono hB7.size)
    replace k2 := k2.below hb9 k2.lt
    replace o5 := o5.below hb9 (Nat.le_refl _)
    replace o6 := o6.below hb9 (Nat.le_refl _)
    obtain ⟨a9, c9, hv9⟩ := HLX.out _ _ o9.rd
    subst hv9
    have Hlt9 : Hid (∀ g, (Value.slice a9 xn c9).ownBlock = some g → w7.heap.size ≤ g ∧ g < w9.heap.size) := hide (fun g hg => o9.lt g hg)
    go_wp2_with fail
    refine (HEX.out _ _ _ o9.rd o5.rd).mono ?_
    rintro e w10 ⟨rfl, hb10⟩
    have hB10 : Below w.heap.size w w10 := hB9.trans (hb10.mono hB9.size)
    replace k2 := k2.below hb10 k2.lt
    replace o5 := o5.below hb10 (Nat.le_refl _)
    replace o6 := o6.below hb10 (Nat.le_refl _)
    replace o9 := o9.below hb10 (Nat.le_refl _)
    go_wp2_with fail
    refine (HX.out _ _ (Hrt.out.below hB10 (Nat.le_refl _))).mono ?_
    rintro e w11 ⟨v11, rfl, o11, hb11⟩
    have hB11 : Below w.heap.size w w11 := hB10.trans (hb11.mono hB10.size)
    replace k2 := k2.below hb11 k2.lt
    replace o5 := o5.below hb11 (Nat.le_refl _)
    replace o6 := o6.below hb11 (Nat.le_refl _)
    replace o9 := o9.below hb11 (Nat.le_refl _)
    obtain ⟨a11, c11, rfl⟩ := o11.rd.shape
    go_wp2_with fail
    refine (HE0.out _ _ _ o6.rd o11.rd).mono ?_
    rintro e w12 ⟨rfl, hb12⟩
    clear o11
    have hB12 : Below w.heap.size w w12 := hB11.trans (hb12.mono hB11.size)
    replace k2 := k2.below hb12 k2.lt
    replace o5 := o5.below hb12 (Nat.le_refl _)
    replace o6 := o6.below hb12 (Nat.le_refl _)
    replace o9 := o9.below hb12 (Nat.le_refl _)
    have hz5 := hB5.size
    have hz6 := hb6.size
    have hz7 := hb7.size
    have hz9 := hb9.size
    have hk2 : w.heap.size < w2.heap.size := by have := hb2.size; have := hb2a.size; have : w1.heap.size = w.heap.size + 1 := by rw [← hw1]; simp
                                                omega
    have hz25 : w2.heap.size ≤ w5.heap.size := hb5.size
    go_wp2_with fail
    refine (HM0.out _ _ _ o6).mono ?_
    rintro e w15 ⟨rfl, -, hg15⟩
    have hB15 : Below w.heap.size w w15 := hB12.trans (hg15.below (B := w.heap.size) (fun q hq => by have := Hlt6.out q hq; omega) hB12.size)
    replace k2 := k2.oth1 hg15 (fun h => by have := Hlt6.out _ h; omega)
    replace o5 := o5.oth hg15 (fun q hq h => by have := Hlt6.out q h; have := Hlt5.out q hq; omega)
    replace o9 := o9.oth hg15 (fun q hq h => by have := Hlt6.out q h; have := Hlt9.out q hq; omega)
    clear o6 hg15
    go_wp2_with fail
    refine (HEX.out _ _ _ o9.rd o5.rd).mono ?_
    rintro e w17 ⟨rfl, hb17⟩
    have hB17 : Below w.heap.size w w17 := hB15.trans (hb17.mono hB15.size)
    replace k2 := k2.below hb17 k2.lt
    replace o5 := o5.below hb17 (Nat.le_refl _)
    replace o9 := o9.below hb17 (Nat.le_refl _)
    go_wp2_with fail
    refine (HMX.out _ _ _ o9).mono ?_
    rintro e w18 ⟨rfl, o18, hg18⟩
    have hB18 : Below w.heap.size w w18 := hB17.trans (hg18.below (B := w.heap.size) (fun q hq => by have := Hlt9.out q hq; omega) hB17.size)
    replace k2 := k2.oth1 hg18 (fun h => by have := Hlt9.out _ h; omega)
    replace o5 := o5.oth hg18 (fun q hq h => by have := Hlt9.out q h; have := Hlt5.out q hq; omega)
    clear o9 hg18
    go_wp2_with fail
    refine (HH.out _ _ o18.rd).mono ?_
    rintro e w19 ⟨rfl, hb19⟩
    have hB19 : Below w.heap.size w w19 := hB18.trans (hb19.mono hB18.size)
    replace k2 := k2.below hb19 k2.lt
    replace o5 := o5.below hb19 (Nat.le_refl _)
    replace o18 := o18.below hb19 (Nat.le_refl _)
    have hdb : Below w19.heap.size w19 w19.drew := (Below.refl _ w19).drew
    have hB19d : Below w.heap.size w w19.drew := hB19.drew
    replace k2 := k2.below hdb k2.lt
    replace o5 := o5.below hdb (Nat.le_refl _)
    replace o18 := o18.below hdb (Nat.le_refl _)
    have HSb : Hid (∀ W, Blk W w.heap.size 30 [.int .i64 kd, .string fm, .string tn, .int .i64 am, .int .i64 nc] → (W.cell? ⟨w.heap.size, 0, none⟩ = some (.int .i64 kd) ∧ W.cell? ⟨w.heap.size, 1, none⟩ = some (.string fm) ∧ W.cell? ⟨w.heap.size, 2, none⟩ = some (.string tn) ∧ W.cell? ⟨w.heap.size, 3, none⟩ = some (.int .i64 am) ∧ W.cell? ⟨w.heap.size, 4, none⟩ = some (.int .i64 nc))) := hide (fun W h1 => ⟨h1.cell 0, h1.cell 1, h1.cell 2, h1.cell 3, h1.cell 4⟩)
    have hS0 := HSb.out _ k2
    have Kk := hide k2
    clear k2
    go_wp2
    go_region_held_law (fun w' => w'.cell? ⟨w.heap.size, 0, none⟩ = some (.int .i64 kd) ∧ w'.cell? ⟨w.heap.size, 1, none⟩ = some (.string fm) ∧ w'.cell? ⟨w.heap.size, 2, none⟩ = some (.string tn) ∧ w'.cell? ⟨w.heap.size, 3, none⟩ = some (.int .i64 am) ∧ w'.cell? ⟨w.heap.size, 4, none⟩ = some (.int .i64 nc)) (first | with_reducible exact hS0 | with_reducible exact hS1 | with_reducible exact hS2 | with_reducible exact hS3) ((first
      | (go_at_call 17; refine (HI.out _ _ (oX.below hbT (Nat.le_refl _)).rd).mono ?_; rintro e w20 ⟨v20, rfl, o20, hbA⟩; have hS3 := HSb.out _ (((Kk.out.below hbX Kk.out.lt).below hbT (Kk.out.below hbX Kk.out.lt).lt).below hbA ((Kk.out.below hbX Kk.out.lt).below hbT (Kk.out.below hbX Kk.out.lt).lt).lt); obtain ⟨a20, c20, hv20⟩ := HLX.out _ _ o20.rd; subst hv20)
      | (go_at_call 16; refine (HTt.out _).mono ?_; rintro e wT ⟨rfl, hbT⟩; have hBT : Below w.heap.size w wT := hBX.trans (hbT.mono hBX.size); have hS2 := HSb.out _ ((Kk.out.below hbX Kk.out.lt).below hbT (Kk.out.below hbX Kk.out.lt).lt))
      | (go_at_call 11; refine (HX.out _ _ (Hrt.out.below hB19d (Nat.le_refl _))).mono ?_; rintro e wX ⟨vX, rfl, oX, hbX⟩; obtain ⟨aX, cX, rfl⟩ := oX.rd.shape; have hBX : Below w.heap.size w wX := hB19d.trans (hbX.mono hB19.size); have hS1 := HSb.out _ (Kk.out.below hbX Kk.out.lt))))
    have k2 := Kk.out
    have hb20 : Below w19.drew.heap.size w19.drew w20 := hbX.trans ((hbT.trans (hbA.mono hbT.size)).mono hbX.size)
    have hB20 : Below w.heap.size w w20 := hB19d.trans (hb20.mono hB19.size)
    replace k2 := k2.below hb20 k2.lt
    replace o5 := o5.below hb20 (Nat.le_refl _)
    replace o18 := o18.below hb20 (Nat.le_refl _)
    clear hS0 hS1 hS2 hS3 oX HSb Kk hbX hbT hbA hBX hBT
    go_wp2_with fail
    refine (HEX.out _ _ _ o20.rd o5.rd).mono ?_
    rintro e w21 ⟨rfl, hb21⟩
    have hB21 : Below w.heap.size w w21 := hB20.trans (hb21.mono hB20.size)
    replace k2 := k2.below hb21 k2.lt
    replace o5 := o5.below hb21 (Nat.le_refl _)
    replace o18 := o18.below hb21 (Nat.le_refl _)
    go_wp2_with fail
    refine (HH.out _ _ o18.rd).mono ?_
    rintro e w22 ⟨rfl, hb22⟩
    have hB22 : Below w.heap.size w w22 := hB21.trans (hb22.mono hB21.size)
    go_wp2
    go_ret
    exact ⟨rfl, hB22⟩

set_option maxRecDepth 100000 in
theorem fnExactPoolAdd_lifted (os : Os) (started : os.Started) (H : Type) (enc : TypeId × Value → H) :
    ReturnsInHanded {} Try.checked os 4 .any (Rows.fnExactPoolAddSpec.pre6 enc Try.prog Try.f4 Rows.fnExactPoolAddRow.domain false) (Rows.fnExactPoolAddSpec.post enc Try.prog Try.f4 false true false false) := by
  refine returnsInHanded_of_change (C := Try.checked) fnExactPoolAdd_own started (by kernel_rfl) Try.func4
    (ChangeSpec.witness6 (enc := enc) (C := Try.checked) false ⟨#[], #[.slice none 0 0, .agg #[.int .i64 0, .string ByteArray.empty, .string ByteArray.empty, .int .i64 0, .int .i64 0]], []⟩ 8 (by kernel_rfl) (by kernel_rfl) (by kernel_rfl) (by kernel_rfl)) ?_
  intro W base args ds gs before hval0 hW hcnd _
  have hval : ∀ (j : Nat) t v, Try.f4.params[j]? = some t → args[j]? = some v → Value.okWide Try.prog W .any base t v := hval0
  have hW' := hW
  obtain ⟨p, q, hA0, hV, rfl, hfz, hnd⟩ := hW
  have hA : DataW.TrodAll enc Try.prog W 0 (fun _ => true) true Try.f4.params.toList args.toList ds p := hA0
  rw [Try.params4] at hA hval
  obtain ⟨v0, vs0, d0, ds0, p0, q0, hargs, rfl, rfl, h0, r0⟩ := trodAll_cons hA
  obtain ⟨v1, vs1, d1, ds1, p1, q1, rfl, rfl, rfl, h1, r1⟩ := trodAll_cons r0
  obtain ⟨rfl, rfl, rfl⟩ := trodAll_nil r1
  obtain rfl : args = #[v0, v1] := by cases args; simp_all
  obtain ⟨rfl, rfl⟩ := trodVars_none hV
  have k0 := h0
  have lt0 : ∀ x ∈ p0, x.block < W.heap.size := by obtain ⟨m, hm⟩ := k0; exact DataW.trod_lt m _ _ _ hm
  obtain ⟨a0, len0, cap0, rfl⟩ := okWide_slice Try.underlying22 (hval 0 22 v0 rfl rfl)
  obtain ⟨z0, w0⟩ : ∃ l : List Tx5, len0 = l.length ∧ RdT W (.slice a0 len0 cap0) l ∧ l.length ≤ maxLen ∧ ∀ q ∈ l, q.2.1.size ≤ maxLen ∧ q.2.2.1.size ≤ maxLen := by
    obtain ⟨fuel, hf⟩ := h0
    exact open_txS (by simpa [Value.cells] using hf)
  have k1 := h1
  have lt1 : ∀ x ∈ p1, x.block < W.heap.size := by obtain ⟨m, hm⟩ := k1; exact DataW.trod_lt m _ _ _ hm
  obtain ⟨z1, rfl, w1⟩ : ∃ t : Tx5, v1 = txV t ∧ t.2.1.size ≤ maxLen ∧ t.2.2.1.size ≤ maxLen ∧ (Lit.int .i64 t.1).wf = true ∧ (Lit.int .i64 t.2.2.2.1).wf = true ∧ (Lit.int .i64 t.2.2.2.2).wf = true := by
    obtain ⟨cs, rfl, hsz⟩ := okWide_struct Try.underlying30 (hval 1 30 _ rfl rfl)
    obtain ⟨fuel, hf⟩ := h1
    obtain ⟨t, e, r⟩ := open_tx (by simpa [Value.cells] using hf)
    exact ⟨t, by cases cs; simp at e; subst e; rfl, r⟩
  clear hA0 hval0
  refine (fnExactPoolAdd_walk a0 len0 cap0 z0 z1 W w0 w1).mono fun e W' ⟨he, bel⟩ => ?_
  subst he
  exact ⟨_, rfl, _, _, _, [], _, [], hW', trodAll_mk1 (shut_bool Try.underlying4 _), (trodAll_cons_mk (Below.trod fnExactPoolAdd_laidOut (by kernel_rfl) (of_decide_eq_true (by kernel_rfl)) k0 bel lt0) (trodAll_cons_mk (Below.trod fnExactPoolAdd_laidOut (by kernel_rfl) (of_decide_eq_true (by kernel_rfl)) k1 bel lt1) trodAll_mk0)), rfl, bel.frame _, fun h => by cases h⟩

theorem fnExactPoolAdd_holds : Rows.FnExactPoolAddSaid :=
  OpenClaim.holds_of_wide 4 Try.f4 rfl rfl rfl rfl rfl rfl rfl ⟨rfl, rfl, rfl, rfl, rfl⟩ rfl rfl rfl rfl rfl (by kernel_rfl) Try.func4 (by kernel_rfl)
    (of_decide_eq_true (by kernel_rfl)) (by unfold Func.isWrapper; first | (rw [if_pos (by decide +kernel)]; kernel_rfl) | (rw [if_neg (by decide +kernel)]; exact ⟨rfl, rfl⟩))
    (fun os started H enc _ => fnExactPoolAdd_lifted os started H enc)

end Go.Proofs.Ytkpnhgikkanfmaa
