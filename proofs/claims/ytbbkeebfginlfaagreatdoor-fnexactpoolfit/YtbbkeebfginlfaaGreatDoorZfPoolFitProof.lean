/- At all lists of orders and all ledgers PoolFit of the program answers as the model's PoolFit, writes into no argument, and its answer owns its memory: the law FnExactPoolFit returns true, its one variable of the library read as the program's text lays it. -/
import Derived.Test.YtbbkeebfginlfaaGreatDoorRows
import Derived.Test.YtbbkeebfginlfaaGreatDoorTie
import Derived.Test.YtbbkeebfginlfaaGreatDoorCards
import Derived.Test.YtbbkeebfginlfaaGreatDoorZfLgOpen
import Derived.Test.YtbbkeebfginlfaaGreatDoorZfTxsOpen
import Derived.Test.YtbbkeebfginlfaaGreatDoorZfPlFit
import Derived.Test.YtbbkeebfginlfaaGreatDoorZfLgApF
import Derived.Test.YtbbkeebfginlfaaGreatDoorZfTxMarkC
import Derived.Test.YtbbkeebfginlfaaGreatDoorZfLgAllS
import Derived.Test.YtbbkeebfginlfaaGreatDoorZfGhLaid
import Derived.ChangeSame
import Derived.ChangeVars
import Derived.JoinedOf
import Derived.RowKitTokens
import Derived.WalkKit
import Derived.ProofKit
import Derived.OpenShut
import Derived.ShutString
import Derived.ChangeOld
import Derived.Below
import Derived.SliceStrings
import Derived.OpenVars
import Derived.SevenTiedAt
namespace Go.Proofs.YtbbkeebfginlfaaGreatDoor
open Go.ChangeShapes Go.WideShapes Go.ChangeAt Go.RowKit
open Go.ChangeMaps (open_string shut_string)
set_option linter.unusedVariables false

theorem fnExactPoolFit_own : ownKnob Tryz.prog.godebug = none := by kernel_rfl
theorem fnExactPoolFit_laidOut : laidOutB Tryz.prog = true := by kernel_rfl

theorem OwnT.btw {base lo hi : Nat} {w w' : World} {v : Value} {l : List Tx5} (h : OwnT base w v l) (hb : Btw lo hi w w') (hd : hi ≤ base ∨ ∀ k, v.ownBlock = some k → k < lo) : OwnT base w' v l :=
  row_btw h hb (fun k hk => by rcases hd with h' | h'; exact .inr (by have := (h.lt k hk).1; omega); exact .inl (h' k hk))
theorem btw_oth {S : Nat → Prop} {lo hi : Nat} {w w' : World} (h : Oth S w w') (hs : ∀ k, S k → lo ≤ k ∧ k < hi) : Btw lo hi w w' := ⟨h.os, h.tape, h.output, h.size, fun k hk hn => h.block k hk (fun e => by have := hs k e; omega)⟩
open Classical in
set_option maxRecDepth 20000 in
set_option maxHeartbeats 4000000 in
theorem fnExactPoolFit_walk (a0 : Option Addr) (len0 cap0 : Nat) (z0 : List Tx5) (a1 : Int) (y1 : Value) (z1 : List Ac) (w : World) (hgh : Gh w) (w0 : len0 = z0.length ∧ RdT w (.slice a0 len0 cap0) z0 ∧ z0.length ≤ maxLen ∧ ∀ q ∈ z0, q.2.1.size ≤ maxLen ∧ q.2.2.1.size ≤ maxLen) (w1x : RdA w y1 z1 ∧ z1.length ≤ maxLen ∧ ∀ q ∈ z1, q.1.size ≤ maxLen ∧ q.2.2.2.2.length ≤ maxLen) :
    Calls Tryz.prog 3 #[.slice a0 len0 cap0, lgV a1 y1] w fun e w' => e = .returned (.bool true) ∧ Below w.heap.size w w' := by
  obtain ⟨rfl, hrt, hlt, hst⟩ := w0
  obtain ⟨hr, hlm, hsm⟩ := w1x
  obtain ⟨av, cv, rfl⟩ := hr.shape
  have hlm' : z1.length ≤ 9223372036854775807 := by unfold maxLen at hlm; omega
  have hsm' : ∀ a ∈ z1, a.1.size ≤ 9223372036854775807 ∧ a.2.2.2.2.length ≤ 9223372036854775807 := fun a ha => by have := hsm a ha; unfold maxLen at this; omega
  have hlt' : z0.length ≤ 9223372036854775807 := by unfold maxLen at hlt; omega
  have hst' : ∀ a ∈ z0, a.2.1.size ≤ 9223372036854775807 ∧ a.2.2.1.size ≤ 9223372036854775807 := fun a ha => by have := hst a ha; unfold maxLen at this; omega
  obtain ⟨w1, hw1⟩ : ∃ w1, w.alloc (.cells #[.int .i64 a1, .slice av z1.length cv] 25) = w1 := ⟨_, rfl⟩
  have hb1 : Below w.heap.size w w1 := by rw [← hw1]; exact (Below.refl _ w).alloc (Nat.le_refl _) _
  have k1 : Blk w1 w.heap.size 25 [.int .i64 a1, .slice av z1.length cv] := by rw [← hw1]; exact Blk.new w _ _
  have Hz := hide (szTxM_any _ z0 1048576 w1 (hrt.below hb1 (Nat.le_refl _)) (by omega) hlt' hst')
  have Hr := hide hr
  have Hrt := hide hrt
  have Hsm := hide hsm
  have Hst := hide hst
  have Hsm' := hide hsm'
  have Hgh := hide hgh
  have l1 : w1.heap.size = w.heap.size + 1 := by rw [← hw1]; simp
  simp only [lgV] at *
  clear hr hsm hsm' hlm hrt hst hst' hlt hlt' hgh
  go_enter Tryz.func3, Tryz.ntmps3
  go_wp2_with fail
  refine Hz.out.mono ?_
  rintro e w2a ⟨r, rfl, hfit, hb2a⟩
  have hB2a : Below w.heap.size w w2a := hb1.trans (hb2a.mono hb1.size)
  have k2 := k1.below hb2a k1.lt
  clear k1 Hz
  by_cases hneg : r < 0
  · clear hfit
    go_wp2
    go_ret
    exact ⟨rfl, hB2a⟩
  have hrm := hfit (by omega)
  obtain ⟨rn, hrn⟩ : ∃ n : Nat, r = (n : Int) := ⟨r.toNat, by omega⟩
  subst hrn
  have Hzt := hide (szLedger_any a1 _ z1 rn w2a (Hr.out.below hB2a (Nat.le_refl _)) (by omega) hlm' Hsm'.out)
  simp only [lgV] at Hzt
  have c0 := k2.cell 0
  have c1 := k2.cell 1
  simp only [List.getElem?_cons_zero, List.getElem?_cons_succ] at c0 c1
  clear hfit
  go_wp2_with fail
  refine Hzt.out.mono ?_
  rintro e w2 ⟨r2, rfl, hfit, hb2⟩
  have hB2 : Below w.heap.size w w2 := hB2a.trans (hb2.mono hB2a.size)
  replace k2 := k2.below hb2 k2.lt
  clear Hzt Hsm' hlm' c0 c1
  by_cases hneg2 : r2 < 0
  · clear hfit
    go_wp2
    go_ret
    exact ⟨rfl, hB2⟩
  · have hl := hfit (by omega)
    have hl0 : z0.length ≤ 1048576 := hrm.1
    have hl4 : z1.length ≤ 1048576 := by omega
    have hlv : ∀ a ∈ z1, a.2.2.2.2.length ≤ 1048576 := fun a ha => by have h1 := totA_at z1 a ha; unfold wgA at h1; omega
    have hnl3 : ∀ a ∈ z1, a.1.size ≤ maxLen ∧ a.2.2.2.2.length ≤ 3999999 := fun a ha => ⟨(Hsm.out a ha).1, by have := hlv a ha; omega⟩
    have hnz : nxs (1 + 5 * z0.length) z1 ≤ 90000000 := by have := nxs_tot (1 + 5 * z0.length) z1; omega
    have HS := hide (fun v vt w hr hrt => specFit_any a1 v vt z1 z0 w hr hrt (by omega) hnl3 (by omega) Hst.out)
    have HI := hide (fun v vt w (hgw : Gh w) hr hrt => implFit_any a1 v vt z1 z0 w hgw hr hrt (by omega) hnl3 (by omega) Hst.out)
    have HT := hide (fun v w hr => toLedger_any a1 v z1 w hr (by omega) (fun a ha => by have := hlv a ha; omega))
    have HE := hide (fun v1 v2 w h1 h2 => eqLedger_any a1 a1 v1 v2 z1 z1 w h1 h2 (by omega) (by omega) (fun a ha => by have := hlv a ha; omega) (fun a ha => by have := hlv a ha; omega))
    rw [decide_eq_true rfl, decide_eq_true rfl, Bool.true_and] at HE
    have HX := hide (fun v w hr => toTxS_any v z0 w hr (by omega))
    have HE0 := hide (fun v1 v2 w h1 h2 => eqTxS_any v1 v2 z0 z0 w h1 h2 (by omega) (by omega) rfl)
    have hXl : (fiA a1 z1 z0).length ≤ 1048576 := by have : (fiA a1 z1 z0).length ≤ z0.length := fiA_len a1 z1 z0; omega
    generalize (fiA a1 z1 z0) = X at HS HI hXl
    have HEX := hide (fun v1 v2 w h1 h2 => eqTxS_any v1 v2 X X w h1 h2 (by omega) (by omega) rfl)
    have HM0 := hide (fun v base w ho => markTxC_any v z0 1 base w ho (by omega) (by omega) (by omega))
    have HM := hide (fun v base hi w ho => markLedger_any a1 v z1 (1 + 5 * z0.length) base hi w ho (by omega) (fun a ha => by have := hlv a ha; omega) hnz (by omega))
    have HMX := hide (fun v base w ho => markTxC_any v X 1 base w ho (by omega) (by omega) (by omega))
    have HH := hide (fun v w hr => heldTxS_any v 1 X.length w hr (by omega) (by omega) (by omega))
    have hkz : ¬ ((nxs (1 + 5 * z0.length) z1 : Nat) : Int) < 0 := by omega
    have hkX : ¬ ((1 + 5 * X.length : Nat) : Int) < 0 := by omega
    generalize nxs (1 + 5 * z0.length) z1 = kz at HM hkz
    generalize 1 + 5 * z0.length = k0 at HM0 HM
    generalize 1 + 5 * X.length = kX at HMX HH hkX
    have HLX := hide (fun w v (h : RdT w v X) => h.shape)
    generalize mkT 1 X.length = MX at HMX HH
    generalize X.length = xn at HLX
    simp only [lgV] at HS HI HT HE HM
    clear hfit hl hl4 hlv hnl3 Hsm Hst hnz hXl hrm hl0
    have hda : Below w2.heap.size w2 w2.drew := (Below.refl _ w2).drew
    have hB2d : Below w.heap.size w w2.drew := hB2.drew
    replace k2 := k2.below hda k2.lt
    have HSa : Hid (∀ W, Blk W w.heap.size 25 [.int .i64 a1, .slice av z1.length cv] → (W.cell? ⟨w.heap.size, 0, none⟩ = some (.int .i64 a1) ∧ W.cell? ⟨w.heap.size, 1, none⟩ = some (.slice av z1.length cv))) := hide (fun W h1 => ⟨h1.cell 0, h1.cell 1⟩)
    have hS0 := HSa.out _ k2
    have Kk := hide k2
    clear k2
    go_wp2
    go_region_held_law (fun w' => w'.cell? ⟨w.heap.size, 0, none⟩ = some (.int .i64 a1) ∧ w'.cell? ⟨w.heap.size, 1, none⟩ = some (.slice av z1.length cv)) (first | with_reducible exact hS0 | with_reducible exact hS1 | with_reducible exact hS2 | with_reducible exact hS3) ((first
      | (go_at_call 7; refine (HS.out _ _ _ oT.rd (oX.below hbT (Nat.le_refl _)).rd).mono ?_; rintro e w5 ⟨v5, rfl, o5, hbA⟩; have hS3 := HSa.out _ (((Kk.out.below hbX Kk.out.lt).below hbT (Kk.out.below hbX Kk.out.lt).lt).below hbA ((Kk.out.below hbX Kk.out.lt).below hbT (Kk.out.below hbX Kk.out.lt).lt).lt))
      | (go_at_call 9; refine (HT.out _ _ (Hr.out.below hBX (Nat.le_refl _))).mono ?_; rintro e wT ⟨vT, rfl, oT, hbT⟩; obtain ⟨aT, cT, rfl⟩ := oT.rd.shape; have hBT : Below w.heap.size w wT := hBX.trans (hbT.mono hBX.size); have hS2 := HSa.out _ ((Kk.out.below hbX Kk.out.lt).below hbT (Kk.out.below hbX Kk.out.lt).lt))
      | (go_at_call 8; refine (HX.out _ _ (Hrt.out.below hB2d (Nat.le_refl _))).mono ?_; rintro e wX ⟨vX, rfl, oX, hbX⟩; obtain ⟨aX, cX, rfl⟩ := oX.rd.shape; have hBX : Below w.heap.size w wX := hB2d.trans (hbX.mono hB2.size); have hS1 := HSa.out _ (Kk.out.below hbX Kk.out.lt))))
    have k2 := Kk.out
    have hb5 : Below w2.drew.heap.size w2.drew w5 := hbX.trans ((hbT.trans (hbA.mono hbT.size)).mono hbX.size)
    have hB5 : Below w.heap.size w w5 := hB2d.trans (hb5.mono hB2.size)
    replace k2 := k2.below hb5 k2.lt
    have hT5 := hBT.size
    have hX5 := hbX.size
    clear hS0 hS1 hS2 hS3 oT oX HSa Kk hbX hbT hbA hBX hBT
    have Hlt5 : Hid (∀ g, v5.ownBlock = some g → g < w5.heap.size) := hide (fun g hg => (o5.lt g hg).2)
    obtain ⟨a5, c5, hv5⟩ := HLX.out _ _ o5.rd
    subst hv5
    go_wp2_with fail
    refine (HX.out _ _ (Hrt.out.below hB5 (Nat.le_refl _))).mono ?_
    rintro e w6 ⟨v6, rfl, o6, hb6⟩
    have hB6 : Below w.heap.size w w6 := hB5.trans (hb6.mono hB5.size)
    replace k2 := k2.below hb6 k2.lt
    replace o5 := o5.below hb6 (Nat.le_refl _)
    have Hlt6 : Hid (∀ g, v6.ownBlock = some g → w5.heap.size ≤ g ∧ g < w6.heap.size) := hide (fun g hg => o6.lt g hg)
    obtain ⟨a6, c6, rfl⟩ := o6.rd.shape
    have c0 := k2.cell 0
    have c1 := k2.cell 1
    simp only [List.getElem?_cons_zero, List.getElem?_cons_succ] at c0 c1
    go_wp2_with fail
    refine (HT.out _ _ (Hr.out.below hB6 (Nat.le_refl _))).mono ?_
    rintro e w7 ⟨v7, rfl, o7, hb7⟩
    have hB7 : Below w.heap.size w w7 := hB6.trans (hb7.mono hB6.size)
    replace k2 := k2.below hb7 k2.lt
    replace o5 := o5.below hb7 (Nat.le_refl _)
    replace o6 := o6.below hb7 (Nat.le_refl _)
    have x7 := o7.ox
    clear o7 c0 c1
    obtain ⟨a7, cv7, rfl⟩ := x7.rd.shape
    obtain ⟨w8, hw8⟩ : ∃ x, w7.alloc (.cells #[.int .i64 a1, .slice a7 z1.length cv7] 33) = x := ⟨_, rfl⟩
    have hb8 : Below w7.heap.size w7 w8 := by rw [← hw8]; exact (Below.refl _ w7).alloc (Nat.le_refl _) _
    have b8 : Blk w8 w7.heap.size 33 [.int .i64 a1, .slice a7 z1.length cv7] := by rw [← hw8]; exact Blk.new w7 _ _
    have hB8 : Below w.heap.size w w8 := hB7.trans (hb8.mono hB7.size)
    replace k2 := k2.below hb8 k2.lt
    replace o5 := o5.below hb8 (Nat.le_refl _)
    replace o6 := o6.below hb8 (Nat.le_refl _)
    replace x7 := x7.below hb8 (Nat.le_refl _)
    have c0 := b8.cell 0
    have c1 := b8.cell 1
    simp only [List.getElem?_cons_zero, List.getElem?_cons_succ] at c0 c1
    go_wp2_with fail
    refine (HI.out _ _ _ (Hgh.out.below hB8) x7.rd o6.rd).mono ?_
    rintro e w9 ⟨v9, rfl, o9, hb9⟩
    have hB9 : Below w.heap.size w w9 := hB8.trans (hb9.mono hB8.size)
    replace k2 := k2.below hb9 k2.lt
    replace b8 := b8.below hb9 b8.lt
    replace o5 := o5.below hb9 (Nat.le_refl _)
    replace o6 := o6.below hb9 (Nat.le_refl _)
    replace x7 := x7.below hb9 (Nat.le_refl _)
    have Hlt9 : Hid (∀ g, v9.ownBlock = some g → w8.heap.size ≤ g ∧ g < w9.heap.size) := hide (fun g hg => o9.lt g hg)
    obtain ⟨a9, c9, hv9⟩ := HLX.out _ _ o9.rd
    subst hv9
    clear c0 c1
    go_wp2_with fail
    refine (HEX.out _ _ _ o9.rd o5.rd).mono ?_
    rintro e w10 ⟨rfl, hb10⟩
    have hB10 : Below w.heap.size w w10 := hB9.trans (hb10.mono hB9.size)
    replace k2 := k2.below hb10 k2.lt
    replace b8 := b8.below hb10 b8.lt
    replace o5 := o5.below hb10 (Nat.le_refl _)
    replace o6 := o6.below hb10 (Nat.le_refl _)
    replace x7 := x7.below hb10 (Nat.le_refl _)
    replace o9 := o9.below hb10 (Nat.le_refl _)
    go_wp2_with fail
    refine (HX.out _ _ (Hrt.out.below hB10 (Nat.le_refl _))).mono ?_
    rintro e w11 ⟨v11, rfl, o11, hb11⟩
    have hB11 : Below w.heap.size w w11 := hB10.trans (hb11.mono hB10.size)
    replace k2 := k2.below hb11 k2.lt
    replace b8 := b8.below hb11 b8.lt
    replace o5 := o5.below hb11 (Nat.le_refl _)
    replace o6 := o6.below hb11 (Nat.le_refl _)
    replace x7 := x7.below hb11 (Nat.le_refl _)
    replace o9 := o9.below hb11 (Nat.le_refl _)
    obtain ⟨a11, c11, rfl⟩ := o11.rd.shape
    go_wp2_with fail
    refine (HE0.out _ _ _ o6.rd o11.rd).mono ?_
    rintro e w12 ⟨rfl, hb12⟩
    clear o11
    have hB12 : Below w.heap.size w w12 := hB11.trans (hb12.mono hB11.size)
    replace k2 := k2.below hb12 k2.lt
    replace b8 := b8.below hb12 b8.lt
    replace o5 := o5.below hb12 (Nat.le_refl _)
    replace o6 := o6.below hb12 (Nat.le_refl _)
    replace x7 := x7.below hb12 (Nat.le_refl _)
    replace o9 := o9.below hb12 (Nat.le_refl _)
    have hd12 : Below w12.heap.size w12 w12.drew := (Below.refl _ w12).drew
    have hB12d : Below w.heap.size w w12.drew := hB12.drew
    replace k2 := k2.below hd12 k2.lt
    replace b8 := b8.below hd12 b8.lt
    replace o5 := o5.below hd12 (Nat.le_refl _)
    replace o6 := o6.below hd12 (Nat.le_refl _)
    replace x7 := x7.below hd12 (Nat.le_refl _)
    replace o9 := o9.below hd12 (Nat.le_refl _)
    have HSx : Hid (∀ W, Blk W w.heap.size 25 [.int .i64 a1, .slice av z1.length cv] → Blk W w7.heap.size 33 [.int .i64 a1, .slice a7 z1.length cv7] → (W.cell? ⟨w.heap.size, 0, none⟩ = some (.int .i64 a1) ∧ W.cell? ⟨w.heap.size, 1, none⟩ = some (.slice av z1.length cv) ∧ W.cell? ⟨w7.heap.size, 0, none⟩ = some (.int .i64 a1) ∧ W.cell? ⟨w7.heap.size, 1, none⟩ = some (.slice a7 z1.length cv7))) := hide (fun W h1 h2 => ⟨h1.cell 0, h1.cell 1, h2.cell 0, h2.cell 1⟩)
    have hS12 := HSx.out _ k2 b8
    have Kk := hide k2
    have Kb := hide b8
    have Kx := hide x7
    clear k2 b8 x7
    go_wp2
    go_region_held_law (fun w' => w'.cell? ⟨w.heap.size, 0, none⟩ = some (.int .i64 a1) ∧ w'.cell? ⟨w.heap.size, 1, none⟩ = some (.slice av z1.length cv) ∧ w'.cell? ⟨w7.heap.size, 0, none⟩ = some (.int .i64 a1) ∧ w'.cell? ⟨w7.heap.size, 1, none⟩ = some (.slice a7 z1.length cv7)) (first | with_reducible exact hS12 | with_reducible exact hS13 | with_reducible exact hS14) ((first
      | (go_at_call 12; refine (HE.out _ _ _ (Kx.out.below hb13 (Nat.le_refl _)).rd o13.rd).mono ?_; rintro e w14 ⟨rfl, hb14⟩; have hS14 := HSx.out _ ((Kk.out.below hb13 Kk.out.lt).below hb14 (Kk.out.below hb13 Kk.out.lt).lt) ((Kb.out.below hb13 Kb.out.lt).below hb14 (Kb.out.below hb13 Kb.out.lt).lt))
      | (go_at_call 9; refine (HT.out _ _ (Hr.out.below hB12d (Nat.le_refl _))).mono ?_; rintro e w13 ⟨v13, rfl, o13, hb13⟩; have hsh := o13.rd.shape; obtain ⟨a13, cv13, hv13⟩ := hsh; subst hv13; have hS13 := HSx.out _ (Kk.out.below hb13 Kk.out.lt) (Kb.out.below hb13 Kb.out.lt))))
    have k2 := Kk.out
    have b8 := Kb.out
    have x7 := Kx.out
    have hB13 : Below w.heap.size w w13 := hB12d.trans (hb13.mono hB12.size)
    replace k2 := k2.below hb13 k2.lt
    replace b8 := b8.below hb13 b8.lt
    replace o5 := o5.below hb13 (Nat.le_refl _)
    replace o6 := o6.below hb13 (Nat.le_refl _)
    replace x7 := x7.below hb13 (Nat.le_refl _)
    replace o9 := o9.below hb13 (Nat.le_refl _)
    have hB14 : Below w.heap.size w w14 := hB13.trans (hb14.mono hB13.size)
    replace k2 := k2.below hb14 k2.lt
    replace b8 := b8.below hb14 b8.lt
    replace o5 := o5.below hb14 (Nat.le_refl _)
    replace o6 := o6.below hb14 (Nat.le_refl _)
    replace x7 := x7.below hb14 (Nat.le_refl _)
    replace o9 := o9.below hb14 (Nat.le_refl _)
    clear hS12 hS13 hS14 o13 HSx Kk Kb Kx
    have hz2 := hB2.size
    have hz5 := hb5.size
    have hz6 := hb6.size
    have hz7 := hb7.size
    have hz8 := hb8.size
    have hz9 := hb9.size
    have hk2 : w.heap.size < w2.heap.size := by have := hb2.size; have := hb2a.size; omega
    have hz25 : w2.heap.size ≤ w5.heap.size := hz5
    have hz78 : w8.heap.size = w7.heap.size + 1 := by rw [← hw8]; simp
    have Hz78 := hide hz78
    clear hz78
    go_wp2_with fail
    refine (HM0.out _ _ _ o6).mono ?_
    rintro e w15 ⟨rfl, -, hg15⟩
    have ht15 : Btw w5.heap.size w6.heap.size w14 w15 := btw_oth hg15 Hlt6.out
    have hB15 : Below w.heap.size w w15 := hB14.trans (ht15.below (by omega) hB14.size)
    clear o6 hg15
    replace k2 := k2.btw ht15 (.inl (by omega))
    replace b8 := b8.btw ht15 (.inr (by omega))
    replace x7 := x7.btw ht15 (.inr (by omega))
    replace o5 := o5.btw ht15 (.inr Hlt5.out)
    replace o9 := o9.btw ht15 (.inl (by omega))
    have c0 := b8.cell 0
    have c1 := b8.cell 1
    simp only [List.getElem?_cons_zero, List.getElem?_cons_succ] at c0 c1
    go_wp2_with fail
    refine (HM.out _ _ _ _ x7).mono ?_
    rintro e w16 ⟨rfl, -, ht16⟩
    have hB16 : Below w.heap.size w w16 := hB15.trans (ht16.below (by omega) hB15.size)
    clear c0 c1 x7 b8
    replace k2 := k2.btw ht16 (.inl (by omega))
    replace o5 := o5.btw ht16 (.inr (fun g hg => by have := Hlt5.out g hg; omega))
    replace o9 := o9.btw ht16 (.inl (by omega))
    go_wp2_with fail
    refine (HEX.out _ _ _ o9.rd o5.rd).mono ?_
    rintro e w17 ⟨rfl, hb17⟩
    have hB17 : Below w.heap.size w w17 := hB16.trans (hb17.mono hB16.size)
    replace k2 := k2.below hb17 k2.lt
    replace o5 := o5.below hb17 (Nat.le_refl _)
    replace o9 := o9.below hb17 (Nat.le_refl _)
    go_wp2_with fail
    refine (HMX.out _ _ _ o9).mono ?_
    rintro e w18 ⟨rfl, o18, hg18⟩
    have ht18 : Btw w8.heap.size w9.heap.size w17 w18 := btw_oth hg18 Hlt9.out
    have hB18 : Below w.heap.size w w18 := hB17.trans (ht18.below (by omega) hB17.size)
    clear o9 hg18
    replace k2 := k2.btw ht18 (.inl (by omega))
    replace o5 := o5.btw ht18 (.inr (fun g hg => by have := Hlt5.out g hg; omega))
    go_wp2_with fail
    refine (HH.out _ _ o18.rd).mono ?_
    rintro e w19 ⟨rfl, hb19⟩
    have hB19 : Below w.heap.size w w19 := hB18.trans (hb19.mono hB18.size)
    replace k2 := k2.below hb19 k2.lt
    replace o5 := o5.below hb19 (Nat.le_refl _)
    replace o18 := o18.below hb19 (Nat.le_refl _)
    have hdb : Below w19.heap.size w19 w19.drew := (Below.refl _ w19).drew
    have hB19d : Below w.heap.size w w19.drew := hB19.drew
    replace k2 := k2.below hdb k2.lt
    replace o5 := o5.below hdb (Nat.le_refl _)
    replace o18 := o18.below hdb (Nat.le_refl _)
    have HSb : Hid (∀ W, Blk W w.heap.size 25 [.int .i64 a1, .slice av z1.length cv] → (W.cell? ⟨w.heap.size, 0, none⟩ = some (.int .i64 a1) ∧ W.cell? ⟨w.heap.size, 1, none⟩ = some (.slice av z1.length cv))) := hide (fun W h1 => ⟨h1.cell 0, h1.cell 1⟩)
    have hS0 := HSb.out _ k2
    have Kk := hide k2
    clear k2
    go_wp2
    go_region_held_law (fun w' => w'.cell? ⟨w.heap.size, 0, none⟩ = some (.int .i64 a1) ∧ w'.cell? ⟨w.heap.size, 1, none⟩ = some (.slice av z1.length cv)) (first | with_reducible exact hS0 | with_reducible exact hS1 | with_reducible exact hS2 | with_reducible exact hS3) ((first
      | (go_at_call 10; refine (HI.out _ _ _ (Hgh.out.below hBT) oT.rd (oX.below hbT (Nat.le_refl _)).rd).mono ?_; rintro e w20 ⟨v20, rfl, o20, hbA⟩; have hS3 := HSb.out _ (((Kk.out.below hbX Kk.out.lt).below hbT (Kk.out.below hbX Kk.out.lt).lt).below hbA ((Kk.out.below hbX Kk.out.lt).below hbT (Kk.out.below hbX Kk.out.lt).lt).lt))
      | (go_at_call 9; refine (HT.out _ _ (Hr.out.below hBX (Nat.le_refl _))).mono ?_; rintro e wT ⟨vT, rfl, oT, hbT⟩; obtain ⟨aT, cT, rfl⟩ := oT.rd.shape; have hBT : Below w.heap.size w wT := hBX.trans (hbT.mono hBX.size); have hS2 := HSb.out _ ((Kk.out.below hbX Kk.out.lt).below hbT (Kk.out.below hbX Kk.out.lt).lt))
      | (go_at_call 8; refine (HX.out _ _ (Hrt.out.below hB19d (Nat.le_refl _))).mono ?_; rintro e wX ⟨vX, rfl, oX, hbX⟩; obtain ⟨aX, cX, rfl⟩ := oX.rd.shape; have hBX : Below w.heap.size w wX := hB19d.trans (hbX.mono hB19.size); have hS1 := HSb.out _ (Kk.out.below hbX Kk.out.lt))))
    have k2 := Kk.out
    have hb20 : Below w19.drew.heap.size w19.drew w20 := hbX.trans ((hbT.trans (hbA.mono hbT.size)).mono hbX.size)
    have hB20 : Below w.heap.size w w20 := hB19d.trans (hb20.mono hB19.size)
    replace k2 := k2.below hb20 k2.lt
    replace o5 := o5.below hb20 (Nat.le_refl _)
    replace o18 := o18.below hb20 (Nat.le_refl _)
    have hT20 := hBT.size
    have hX20 := hbX.size
    clear hS0 hS1 hS2 hS3 oT oX HSb Kk hbX hbT hbA hBX hBT
    obtain ⟨a20, c20, hv20⟩ := HLX.out _ _ o20.rd
    subst hv20
    go_wp2_with fail
    refine (HEX.out _ _ _ o20.rd o5.rd).mono ?_
    rintro e w21 ⟨rfl, hb21⟩
    have hB21 : Below w.heap.size w w21 := hB20.trans (hb21.mono hB20.size)
    replace k2 := k2.below hb21 k2.lt
    replace o5 := o5.below hb21 (Nat.le_refl _)
    replace o18 := o18.below hb21 (Nat.le_refl _)
    go_wp2_with fail
    refine (HH.out _ _ o18.rd).mono ?_
    rintro e w22 ⟨rfl, hb22⟩
    have hB22 : Below w.heap.size w w22 := hB21.trans (hb22.mono hB21.size)
    go_wp2
    go_ret
    exact ⟨rfl, hB22⟩

theorem fnExactPoolFit_met (os : Os) (args : Array Value) : laidMetH Tryz.prog Rows.fnExactPoolFitRow.laid ((laidOn (World.holding Tryz.prog os ⟨#[], #[], []⟩)).forCall (fun _ _ => 0) ⟨#[], args, []⟩).memory :=
  laidMetH_of_parts (laidMet_nil _ _) (by kernel_rfl)
theorem fnExactPoolFit_gh {W : World} (h : laidMetH Tryz.prog Rows.fnExactPoolFitRow.laid W) : Gh W := by
  have h' : laidMet Tryz.prog [] W ∧ handlesMet Tryz.prog Rows.fnExactPoolFitRow.laid W := h
  exact gh_of_handles h'.2

set_option maxRecDepth 100000 in
theorem fnExactPoolFit_lifted (os : Os) (started : os.Started) (H : Type) (enc : TypeId × Value → H) :
    ReturnsInHanded {} Tryz.checked os 3 .any (fun w args => (Rows.fnExactPoolFitSpec.pre enc Tryz.prog Tryz.f3 [] false w args ∧ laidMetH Tryz.prog Rows.fnExactPoolFitRow.laid w) ∧ sizedMet enc Tryz.prog Tryz.f3 (OpenSpec.ofChange Rows.fnExactPoolFitSpec) false w args)
      (Rows.fnExactPoolFitSpec.post enc Tryz.prog Tryz.f3 false true false false) := by
  refine returnsInHanded_of_change_and (C := Tryz.checked) (X := fun w _ => laidMetH Tryz.prog Rows.fnExactPoolFitRow.laid w) (fun _ _ _ hh h => h.of_heap hh) fnExactPoolFit_own started (by kernel_rfl) Tryz.func3
    (ChangeSpec.witness_at (enc := enc) (C := Tryz.checked) (os := os) (X := fun w _ => laidMetH Tryz.prog Rows.fnExactPoolFitRow.laid w) false (laidOn (World.holding Tryz.prog os ⟨#[], #[], []⟩)) #[.slice none 0 0, .agg #[.int .i64 0, .slice none 0 0]] 8 rfl (by kernel_rfl) (by kernel_rfl) (by kernel_rfl) (by kernel_rfl) (by kernel_rfl) (fnExactPoolFit_met os _)) ?_
  intro W base args ds gs before hval0 hW _ _ hL _
  have hval : ∀ (j : Nat) t v, Tryz.f3.params[j]? = some t → args[j]? = some v → Value.okWide Tryz.prog W .any base t v := hval0
  have hW' := hW
  obtain ⟨p, q, hA0, hV0, rfl, hfz, hnd⟩ := hW
  have hV : DataW.TrodVars enc Tryz.prog W (fun _ => true) [] gs q := hV0
  obtain ⟨rfl, rfl⟩ : gs = [] ∧ q = [] := by
    cases gs with
    | nil => exact ⟨rfl, hV⟩
    | cons g r => exact absurd hV (by intro h; cases h)
  have hA : DataW.TrodAll enc Tryz.prog W 0 (fun _ => true) true Tryz.f3.params.toList args.toList ds p := hA0
  rw [Tryz.params3] at hA hval
  obtain ⟨v0, vs0, d0, ds0, p0, q0, hargs, rfl, rfl, h0, r0⟩ := trodAll_cons hA
  obtain ⟨v1, vs1, d1, ds1, p1, q1, rfl, rfl, rfl, h1, r1⟩ := trodAll_cons r0
  obtain ⟨rfl, rfl, rfl⟩ := trodAll_nil r1
  obtain rfl : args = #[v0, v1] := by cases args; simp_all
  have k0 := h0
  have lt0 : ∀ x ∈ p0, x.block < W.heap.size := by obtain ⟨m, hm⟩ := k0; exact DataW.trod_lt m _ _ _ hm
  obtain ⟨a0, len0, cap0, rfl⟩ := okWide_slice Tryz.underlying22 (hval 0 22 v0 rfl rfl)
  obtain ⟨z0, w0⟩ : ∃ l : List Tx5, len0 = l.length ∧ RdT W (.slice a0 len0 cap0) l ∧ l.length ≤ maxLen ∧ ∀ q ∈ l, q.2.1.size ≤ maxLen ∧ q.2.2.1.size ≤ maxLen := by
    obtain ⟨fuel, hf⟩ := h0
    exact open_txS (by simpa [Value.cells] using hf)
  have k1 := h1
  have lt1 : ∀ x ∈ p1, x.block < W.heap.size := by obtain ⟨m, hm⟩ := k1; exact DataW.trod_lt m _ _ _ hm
  obtain ⟨a1, y1, z1, rfl, w1⟩ : ∃ (e : Int) (v : Value) (l : List Ac), v1 = lgV e v ∧ RdA W v l ∧ l.length ≤ maxLen ∧ ∀ q ∈ l, q.1.size ≤ maxLen ∧ q.2.2.2.2.length ≤ maxLen := by
    obtain ⟨cs, rfl, hsz⟩ := okWide_struct Tryz.underlying25 (hval 1 25 _ rfl rfl)
    obtain ⟨fuel, hf⟩ := h1
    obtain ⟨e, v, l, q, r⟩ := open_ledger (by simpa [Value.cells] using hf)
    exact ⟨e, v, l, by cases cs; simp at q; subst q; rfl, r⟩
  clear hA0 hval0
  refine (fnExactPoolFit_walk a0 len0 cap0 z0 a1 y1 z1 W (fnExactPoolFit_gh hL) w0 w1).mono fun e W' ⟨he, bel⟩ => ?_
  subst he
  exact ⟨_, rfl, _, _, _, [], _, [], hW', trodAll_mk1 (shut_bool Tryz.underlying4 _), (trodAll_cons_mk (Below.trod fnExactPoolFit_laidOut (by kernel_rfl) (of_decide_eq_true (by kernel_rfl)) k0 bel lt0) (trodAll_cons_mk (Below.trod fnExactPoolFit_laidOut (by kernel_rfl) (of_decide_eq_true (by kernel_rfl)) k1 bel lt1) trodAll_mk0)), rfl, bel.frame _, fun h => by cases h⟩

theorem fnExactPoolFit_holds : Rows.FnExactPoolFitSaid :=
  OpenClaim.holds_of_wide 3 Tryz.f3 rfl rfl rfl rfl rfl rfl rfl ⟨rfl, rfl, rfl, rfl, rfl⟩ rfl rfl rfl rfl rfl (by kernel_rfl) Tryz.func3 (by kernel_rfl)
    (of_decide_eq_true (by kernel_rfl)) (by unfold Func.isWrapper; first | (rw [if_pos (by decide +kernel)]; kernel_rfl) | (rw [if_neg (by decide +kernel)]; exact ⟨rfl, rfl⟩))
    (fun os started H enc _ => fnExactPoolFit_lifted os started H enc)

/-- The card: the variable is tied to the program's text by the given tie. -/
theorem fnExactPoolFit_card : Rows.FnExactPoolFitCardSaid :=
  Claim7.holds_tied_plain_at .later [] [.handle] true Rows.fnExactPoolFitCard.stood.harness true
    fnExactPoolFit_holds (fun _ h => by cases h) (by kernel_rfl) (fun _ h => by cases h) fnExactPoolFit_row_tie rfl ⟨rfl, rfl⟩ (by kernel_rfl) rfl
    (fun f fn hf hfn => by
      obtain rfl : f = 3 := Option.some.inj ((show Tryz.prog.funcNamed Rows.fnExactPoolFitRow.func = some 3 by kernel_rfl).symm.trans hf) |>.symm
      obtain rfl : fn = Tryz.f3 := (Option.some.inj (Tryz.func3.symm.trans hfn)).symm
      exact ⟨by kernel_rfl, fun j t ht => by
        rw [Tryz.params3] at ht
        have hm : t ∈ [22, 25] := by simpa using Array.mem_of_getElem? ht
        have hall : ([22, 25].all fun u => !Tryz.prog.wantsStandIn u) = true := by kernel_rfl
        exact (show Tryz.prog.wantsStandIn t = false by simpa using List.all_eq_true.1 hall t hm)⟩)
    (by kernel_rfl)

end Go.Proofs.YtbbkeebfginlfaaGreatDoor
