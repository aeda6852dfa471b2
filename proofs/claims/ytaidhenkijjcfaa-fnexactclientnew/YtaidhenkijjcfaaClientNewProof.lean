/- At all ledgers ClientNew of the program answers as the model's ClientNew, writes into no argument, and its answer owns its memory: the law FnExactClientNew returns true, with no condition. -/
import Derived.Test.YtaidhenkijjcfaaRows
import Derived.Test.YtaidhenkijjcfaaLgOpen
import Derived.Test.YtaidhenkijjcfaaClNew
import Derived.Test.YtaidhenkijjcfaaLgFacts
import Derived.WalkKit
import Derived.ProofKit
import Derived.OpenShut
import Derived.ShutString
import Derived.ChangeOld
import Derived.Below
import Derived.SliceStrings
namespace Go.Proofs.Ytaidhenkijjcfaa
open Go.ChangeShapes Go.WideShapes Go.ChangeAt Go.RowKit
open Go.ChangeMaps (open_string shut_string)
set_option linter.unusedVariables false

theorem fnExactClientNew_own : ownKnob Try.prog.godebug = none := by kernel_rfl
theorem fnExactClientNew_laidOut : laidOutB Try.prog = true := by kernel_rfl

open Classical in
set_option maxRecDepth 20000 in
set_option maxHeartbeats 4000000 in
theorem fnExactClientNew_walk (a0 : Int) (y0 : Value) (z0 : List Ac) (w : World) (w0 : RdA w y0 z0 ∧ z0.length ≤ maxLen ∧ ∀ q ∈ z0, q.1.size ≤ maxLen ∧ q.2.2.2.2.length ≤ maxLen) :
    Calls Try.prog 3 #[lgV a0 y0] w fun e w' => e = .returned (.bool true) ∧ Below w.heap.size w w' := by
  obtain ⟨hr, hlm, hsm⟩ := w0
  obtain ⟨av, cv, rfl⟩ := hr.shape
  have hlm' : z0.length ≤ 9223372036854775807 := by unfold maxLen at hlm; omega
  have hsm' : ∀ a ∈ z0, a.1.size ≤ 9223372036854775807 ∧ a.2.2.2.2.length ≤ 9223372036854775807 := fun a ha => by have := hsm a ha; unfold maxLen at this; omega
  obtain ⟨w1, hw1⟩ : ∃ w1, w.alloc (.cells #[.int .i64 a0, .slice av z0.length cv] 24) = w1 := ⟨_, rfl⟩
  have hb1 : Below w.heap.size w w1 := by rw [← hw1]; exact (Below.refl _ w).alloc (Nat.le_refl _) _
  have k1 : Blk w1 w.heap.size 24 [.int .i64 a0, .slice av z0.length cv] := by rw [← hw1]; exact Blk.new w _ _
  have Hz := hide (szLedger_any a0 _ z0 1048576 w1 (hr.below hb1 (Nat.le_refl _)) (by omega) hlm' hsm')
  have Hr := hide hr
  have Hsm := hide hsm
  have l1 : w1.heap.size = w.heap.size + 1 := by rw [← hw1]; simp
  have c0 := k1.cell 0
  have c1 := k1.cell 1
  simp only [List.getElem?_cons_zero, List.getElem?_cons_succ] at c0 c1
  simp only [lgV] at *
  clear hr hsm hsm' hlm
  go_enter Try.func3, Try.ntmps3
  go_wp2_with fail
  refine Hz.out.mono ?_
  rintro e w2 ⟨r, rfl, hfit, hb2⟩
  have hB2 : Below w.heap.size w w2 := hb1.trans (hb2.mono hb1.size)
  have k2 := k1.below hb2 k1.lt
  clear c0 c1 k1
  by_cases hneg : r < 0
  · clear hfit
    go_wp2
    go_ret
    exact ⟨rfl, hB2⟩
  · have hl := hfit (by omega)
    have hl4 : z0.length ≤ 4000000 := by omega
    have hlv : ∀ a ∈ z0, a.2.2.2.2.length ≤ 4000000 := fun a ha => by have h1 := totA_at z0 a ha; unfold wgA at h1; omega
    have hnl : ∀ a ∈ z0, a.1.size ≤ maxLen ∧ a.2.2.2.2.length ≤ 4000000 := fun a ha => ⟨(Hsm.out a ha).1, hlv a ha⟩
    have hnz : nxs 1 z0 ≤ 90000000 := by have := nxs_tot 1 z0; omega
    have HS := hide (fun v w hr => specClientNew_any a0 v z0 w hr hl4 hnl)
    have HI := hide (fun v w hr => implClientNew_any a0 v z0 w hr hl4 hnl)
    have HT := hide (fun v w hr => toLedger_any a0 v z0 w hr hl4 hlv)
    have HE := hide (fun v1 v2 w h1 h2 => eqLedger_any a0 a0 v1 v2 z0 z0 w h1 h2 hl4 hl4 hlv hlv)
    have hP4 : (cnA a0 z0).2.length ≤ 4000000 := by have := cnA_len a0 z0; omega
    generalize (cnA a0 z0).2 = P at HS HI hP4
    generalize (cnA a0 z0).1 = E at HS HI
    have HEP := hide (fun v1 v2 w h1 h2 => eqClient_any E E v1 v2 P P w h1 h2 hP4 hP4)
    rw [decide_eq_true rfl, decide_eq_true rfl, Bool.true_and] at HE HEP
    have HM := hide (fun v base hi w ho => markLedger_any a0 v z0 1 base hi w ho (by omega) (fun a ha => by have := hlv a ha; omega) hnz (by omega))
    have HMP := hide (fun v base hi w ho => markClient_any E v P 1 base hi w ho (by omega) (by omega) (by omega))
    have HH := hide (fun v w hr => heldClient_any E v P.length 1 w hr (by omega) (by omega) (by omega))
    have hkz : ¬ ((nxs 1 z0 : Nat) : Int) < 0 := by omega
    have hkP : ¬ ((1 + 2 * P.length : Nat) : Int) < 0 := by omega
    generalize nxs 1 z0 = kz at HM hkz
    generalize 1 + 2 * P.length = kP at HMP HH hkP
    simp only [lgV] at HS HI HT HE HEP HM HMP HH
    have HL := hide (fun w v (h : RdV w v P) => h.shape)
    generalize P.length = pn at HL HMP HH
    clear hfit hl hl4 hlv hnl Hsm Hz hnz hP4
    have c0 := k2.cell 0
    have c1 := k2.cell 1
    simp only [List.getElem?_cons_zero, List.getElem?_cons_succ] at c0 c1
    go_wp2_with fail
    refine (HT.out _ _ (Hr.out.below hB2 (Nat.le_refl _))).mono ?_
    rintro e w3 ⟨v3, rfl, o3, hb3⟩
    have hB3 : Below w.heap.size w w3 := hB2.trans (hb3.mono hB2.size)
    replace k2 := k2.below hb3 k2.lt
    obtain ⟨a3, cv3, rfl⟩ := o3.rd.shape
    clear c0 c1
    go_wp2_with fail
    refine (HS.out _ _ o3.rd).mono ?_
    rintro e w4 ⟨v4, rfl, o4, hb4⟩
    have hB4 : Below w.heap.size w w4 := hB3.trans (hb4.mono hB3.size)
    replace k2 := k2.below hb4 k2.lt
    have x4 := o4.oc
    clear o3 o4
    obtain ⟨a4, cv4, rfl⟩ := HL.out _ _ x4.rd
    obtain ⟨w5, hw5⟩ : ∃ w5, w4.alloc (.cells #[.int .i64 E, .slice a4 pn cv4] 28) = w5 := ⟨_, rfl⟩
    have hb5 : Below w4.heap.size w4 w5 := by rw [← hw5]; exact (Below.refl _ w4).alloc (Nat.le_refl _) _
    have b5 : Blk w5 w4.heap.size 28 [.int .i64 E, .slice a4 pn cv4] := by rw [← hw5]; exact Blk.new w4 _ _
    have l5 : w5.heap.size = w4.heap.size + 1 := by rw [← hw5]; simp
    have hB5 : Below w.heap.size w w5 := hB4.trans (hb5.mono hB4.size)
    replace k2 := k2.below hb5 k2.lt
    replace x4 := x4.below hb5 (Nat.le_refl _)
    have c0 := k2.cell 0
    have c1 := k2.cell 1
    simp only [List.getElem?_cons_zero, List.getElem?_cons_succ] at c0 c1
    go_wp2_with fail
    refine (HT.out _ _ (Hr.out.below hB5 (Nat.le_refl _))).mono ?_
    rintro e w6 ⟨v6, rfl, o6, hb6⟩
    have hB6 : Below w.heap.size w w6 := hB5.trans (hb6.mono hB5.size)
    replace k2 := k2.below hb6 k2.lt
    replace b5 := b5.below hb6 b5.lt
    replace x4 := x4.below hb6 (Nat.le_refl _)
    have x6 := o6.ox
    clear o6 c0 c1
    obtain ⟨a6, cv6, rfl⟩ := x6.rd.shape
    obtain ⟨w7, hw7⟩ : ∃ w7, w6.alloc (.cells #[.int .i64 a0, .slice a6 z0.length cv6] 32) = w7 := ⟨_, rfl⟩
    have hb7 : Below w6.heap.size w6 w7 := by rw [← hw7]; exact (Below.refl _ w6).alloc (Nat.le_refl _) _
    have b7 : Blk w7 w6.heap.size 32 [.int .i64 a0, .slice a6 z0.length cv6] := by rw [← hw7]; exact Blk.new w6 _ _
    have l7 : w7.heap.size = w6.heap.size + 1 := by rw [← hw7]; simp
    have hB7 : Below w.heap.size w w7 := hB6.trans (hb7.mono hB6.size)
    replace k2 := k2.below hb7 k2.lt
    replace b5 := b5.below hb7 b5.lt
    replace x4 := x4.below hb7 (Nat.le_refl _)
    replace x6 := x6.below hb7 (Nat.le_refl _)
    have c0 := b7.cell 0
    have c1 := b7.cell 1
    simp only [List.getElem?_cons_zero, List.getElem?_cons_succ] at c0 c1
    go_wp2_with fail
    refine (HI.out _ _ x6.rd).mono ?_
    rintro e w8 ⟨v8, rfl, o8, hb8⟩
    have hB8 : Below w.heap.size w w8 := hB7.trans (hb8.mono hB7.size)
    replace k2 := k2.below hb8 k2.lt
    replace b5 := b5.below hb8 b5.lt
    replace b7 := b7.below hb8 b7.lt
    replace x4 := x4.below hb8 (Nat.le_refl _)
    replace x6 := x6.below hb8 (Nat.le_refl _)
    have x8 := o8.oc
    clear o8 c0 c1
    obtain ⟨a8, cv8, rfl⟩ := HL.out _ _ x8.rd
    obtain ⟨w9, hw9⟩ : ∃ w9, w8.alloc (.cells #[.int .i64 E, .slice a8 pn cv8] 28) = w9 := ⟨_, rfl⟩
    have hb9 : Below w8.heap.size w8 w9 := by rw [← hw9]; exact (Below.refl _ w8).alloc (Nat.le_refl _) _
    have b9 : Blk w9 w8.heap.size 28 [.int .i64 E, .slice a8 pn cv8] := by rw [← hw9]; exact Blk.new w8 _ _
    have l9 : w9.heap.size = w8.heap.size + 1 := by rw [← hw9]; simp
    have hB9 : Below w.heap.size w w9 := hB8.trans (hb9.mono hB8.size)
    replace k2 := k2.below hb9 k2.lt
    replace b5 := b5.below hb9 b5.lt
    replace b7 := b7.below hb9 b7.lt
    replace x4 := x4.below hb9 (Nat.le_refl _)
    replace x6 := x6.below hb9 (Nat.le_refl _)
    replace x8 := x8.below hb9 (Nat.le_refl _)
    have c0 := b9.cell 0
    have c1 := b9.cell 1
    simp only [List.getElem?_cons_zero, List.getElem?_cons_succ] at c0 c1
    have d0 := b5.cell 0
    have d1 := b5.cell 1
    simp only [List.getElem?_cons_zero, List.getElem?_cons_succ] at d0 d1
    go_wp2_with fail
    refine (HEP.out _ _ _ x8.rd x4.rd).mono ?_
    rintro e w10 ⟨rfl, hb10⟩
    have hB10 : Below w.heap.size w w10 := hB9.trans (hb10.mono hB9.size)
    replace k2 := k2.below hb10 k2.lt
    replace b5 := b5.below hb10 b5.lt
    replace b7 := b7.below hb10 b7.lt
    replace b9 := b9.below hb10 b9.lt
    replace x4 := x4.below hb10 (Nat.le_refl _)
    replace x6 := x6.below hb10 (Nat.le_refl _)
    replace x8 := x8.below hb10 (Nat.le_refl _)
    clear c0 c1 d0 d1
    have hd10 : Below w10.heap.size w10 w10.drew := (Below.refl _ w10).drew
    have hB10d : Below w.heap.size w w10.drew := hB10.drew
    replace k2 := k2.below hd10 k2.lt
    replace b5 := b5.below hd10 b5.lt
    replace b7 := b7.below hd10 b7.lt
    replace b9 := b9.below hd10 b9.lt
    replace x4 := x4.below hd10 (Nat.le_refl _)
    replace x6 := x6.below hd10 (Nat.le_refl _)
    replace x8 := x8.below hd10 (Nat.le_refl _)
    have HSx : Hid (∀ W, Blk W w.heap.size 24 [.int .i64 a0, .slice av z0.length cv] → Blk W w6.heap.size 32 [.int .i64 a0, .slice a6 z0.length cv6] → (W.cell? ⟨w.heap.size, 0, none⟩ = some (.int .i64 a0) ∧ W.cell? ⟨w.heap.size, 1, none⟩ = some (.slice av z0.length cv) ∧ W.cell? ⟨w6.heap.size, 0, none⟩ = some (.int .i64 a0) ∧ W.cell? ⟨w6.heap.size, 1, none⟩ = some (.slice a6 z0.length cv6))) := hide (fun W h1 h2 => ⟨h1.cell 0, h1.cell 1, h2.cell 0, h2.cell 1⟩)
    have hS10 := HSx.out _ k2 b7
    have Kk := hide k2
    have Kb := hide b7
    have Kx := hide x6
    clear k2 b7 x6
    go_wp2
    go_region_held_law (fun w' => w'.cell? ⟨w.heap.size, 0, none⟩ = some (.int .i64 a0) ∧ w'.cell? ⟨w.heap.size, 1, none⟩ = some (.slice av z0.length cv) ∧ w'.cell? ⟨w6.heap.size, 0, none⟩ = some (.int .i64 a0) ∧ w'.cell? ⟨w6.heap.size, 1, none⟩ = some (.slice a6 z0.length cv6)) (first | with_reducible exact hS10 | with_reducible exact hS11 | with_reducible exact hS12) ((first
      | (go_at_call 9; refine (HE.out _ _ _ (Kx.out.below hb11 (Nat.le_refl _)).rd o11.rd).mono ?_; rintro e w12 ⟨rfl, hb12⟩; have hS12 := HSx.out _ ((Kk.out.below hb11 Kk.out.lt).below hb12 (Kk.out.below hb11 Kk.out.lt).lt) ((Kb.out.below hb11 Kb.out.lt).below hb12 (Kb.out.below hb11 Kb.out.lt).lt))
      | (go_at_call 6; refine (HT.out _ _ (Hr.out.below hB10d (Nat.le_refl _))).mono ?_; rintro e w11 ⟨v11, rfl, o11, hb11⟩; have hsh := o11.rd.shape; obtain ⟨a11, cv11, hv11⟩ := hsh; subst hv11; have hS11 := HSx.out _ (Kk.out.below hb11 Kk.out.lt) (Kb.out.below hb11 Kb.out.lt))))
    have k2 := Kk.out
    have b7 := Kb.out
    have x6 := Kx.out
    have hB11 : Below w.heap.size w w11 := hB10d.trans (hb11.mono hB10.size)
    replace k2 := k2.below hb11 k2.lt
    replace b5 := b5.below hb11 b5.lt
    replace b7 := b7.below hb11 b7.lt
    replace b9 := b9.below hb11 b9.lt
    replace x4 := x4.below hb11 (Nat.le_refl _)
    replace x6 := x6.below hb11 (Nat.le_refl _)
    replace x8 := x8.below hb11 (Nat.le_refl _)
    have hB12 : Below w.heap.size w w12 := hB11.trans (hb12.mono hB11.size)
    replace k2 := k2.below hb12 k2.lt
    replace b5 := b5.below hb12 b5.lt
    replace b7 := b7.below hb12 b7.lt
    replace b9 := b9.below hb12 b9.lt
    replace x4 := x4.below hb12 (Nat.le_refl _)
    replace x6 := x6.below hb12 (Nat.le_refl _)
    replace x8 := x8.below hb12 (Nat.le_refl _)
    clear hS10 hS11 hS12 o11 HSx Kk Kb Kx
    have c0 := b7.cell 0
    have c1 := b7.cell 1
    simp only [List.getElem?_cons_zero, List.getElem?_cons_succ] at c0 c1
    go_wp2_with fail
    refine (HM.out _ _ _ _ x6).mono ?_
    rintro e w13 ⟨rfl, -, ht13⟩
    have hB13 : Below w.heap.size w w13 := hB12.trans (ht13.below (by have := hB5.size; omega) hB12.size)
    have hz4 := hb4.size
    have hz6 := hb6.size
    have hz8 := hb8.size
    clear c0 c1 x6
    replace k2 := k2.btw ht13 (.inl (by have := hB4.size; have := k2.lt; omega))
    replace b5 := b5.btw ht13 (.inl (by omega))
    replace b7 := b7.btw ht13 (.inr (by omega))
    replace b9 := b9.btw ht13 (.inr (by omega))
    replace x4 := x4.btw ht13 (.inl (by omega))
    replace x8 := x8.btw ht13 (.inr (by omega))
    have c0 := b9.cell 0
    have c1 := b9.cell 1
    simp only [List.getElem?_cons_zero, List.getElem?_cons_succ] at c0 c1
    have d0 := b5.cell 0
    have d1 := b5.cell 1
    simp only [List.getElem?_cons_zero, List.getElem?_cons_succ] at d0 d1
    go_wp2_with fail
    refine (HEP.out _ _ _ x8.rd x4.rd).mono ?_
    rintro e w14 ⟨rfl, hb14⟩
    have hB14 : Below w.heap.size w w14 := hB13.trans (hb14.mono hB13.size)
    replace k2 := k2.below hb14 k2.lt
    replace b5 := b5.below hb14 b5.lt
    replace b7 := b7.below hb14 b7.lt
    replace b9 := b9.below hb14 b9.lt
    replace x4 := x4.below hb14 (Nat.le_refl _)
    replace x8 := x8.below hb14 (Nat.le_refl _)
    clear c0 c1 d0 d1
    have c0 := b9.cell 0
    have c1 := b9.cell 1
    simp only [List.getElem?_cons_zero, List.getElem?_cons_succ] at c0 c1
    go_wp2_with fail
    refine (HMP.out _ _ _ _ x8).mono ?_
    rintro e w15 ⟨rfl, y8, ht15⟩
    have hB15 : Below w.heap.size w w15 := hB14.trans (ht15.below (by have := hB7.size; omega) hB14.size)
    clear c0 c1 x8
    replace k2 := k2.btw ht15 (.inl (by have := hB6.size; omega))
    replace b5 := b5.btw ht15 (.inl (by omega))
    replace b9 := b9.btw ht15 (.inr (by omega))
    replace x4 := x4.btw ht15 (.inl (by omega))
    clear b7
    have c0 := b9.cell 0
    have c1 := b9.cell 1
    simp only [List.getElem?_cons_zero, List.getElem?_cons_succ] at c0 c1
    go_wp2_with fail
    refine (HH.out _ _ y8.rd).mono ?_
    rintro e w16 ⟨rfl, hb16⟩
    have hB16 : Below w.heap.size w w16 := hB15.trans (hb16.mono hB15.size)
    replace k2 := k2.below hb16 k2.lt
    replace b5 := b5.below hb16 b5.lt
    replace b9 := b9.below hb16 b9.lt
    replace x4 := x4.below hb16 (Nat.le_refl _)
    replace y8 := y8.below hb16 (Nat.le_refl _)
    clear c0 c1
    have c0 := k2.cell 0
    have c1 := k2.cell 1
    simp only [List.getElem?_cons_zero, List.getElem?_cons_succ] at c0 c1
    go_wp2_with fail
    refine (HT.out _ _ (Hr.out.below hB16 (Nat.le_refl _))).mono ?_
    rintro e w17 ⟨v17, rfl, o17, hb17⟩
    have hB17 : Below w.heap.size w w17 := hB16.trans (hb17.mono hB16.size)
    replace k2 := k2.below hb17 k2.lt
    replace b5 := b5.below hb17 b5.lt
    replace b9 := b9.below hb17 b9.lt
    replace x4 := x4.below hb17 (Nat.le_refl _)
    replace y8 := y8.below hb17 (Nat.le_refl _)
    obtain ⟨a17, cv17, rfl⟩ := o17.rd.shape
    clear c0 c1
    go_wp2_with fail
    refine (HI.out _ _ o17.rd).mono ?_
    rintro e w18 ⟨v18, rfl, o18, hb18⟩
    have hB18 : Below w.heap.size w w18 := hB17.trans (hb18.mono hB17.size)
    replace k2 := k2.below hb18 k2.lt
    replace b5 := b5.below hb18 b5.lt
    replace b9 := b9.below hb18 b9.lt
    replace x4 := x4.below hb18 (Nat.le_refl _)
    replace y8 := y8.below hb18 (Nat.le_refl _)
    have x18 := o18.oc
    clear o17 o18
    obtain ⟨a18, cv18, rfl⟩ := HL.out _ _ x18.rd
    obtain ⟨w19, hw19⟩ : ∃ w19, w18.alloc (.cells #[.int .i64 E, .slice a18 pn cv18] 28) = w19 := ⟨_, rfl⟩
    have hb19 : Below w18.heap.size w18 w19 := by rw [← hw19]; exact (Below.refl _ w18).alloc (Nat.le_refl _) _
    have b19 : Blk w19 w18.heap.size 28 [.int .i64 E, .slice a18 pn cv18] := by rw [← hw19]; exact Blk.new w18 _ _
    have l19 : w19.heap.size = w18.heap.size + 1 := by rw [← hw19]; simp
    have hB19 : Below w.heap.size w w19 := hB18.trans (hb19.mono hB18.size)
    replace k2 := k2.below hb19 k2.lt
    replace b5 := b5.below hb19 b5.lt
    replace b9 := b9.below hb19 b9.lt
    replace x4 := x4.below hb19 (Nat.le_refl _)
    replace y8 := y8.below hb19 (Nat.le_refl _)
    replace x18 := x18.below hb19 (Nat.le_refl _)
    have c0 := b19.cell 0
    have c1 := b19.cell 1
    simp only [List.getElem?_cons_zero, List.getElem?_cons_succ] at c0 c1
    have d0 := b5.cell 0
    have d1 := b5.cell 1
    simp only [List.getElem?_cons_zero, List.getElem?_cons_succ] at d0 d1
    go_wp2_with fail
    refine (HEP.out _ _ _ x18.rd x4.rd).mono ?_
    rintro e w20 ⟨rfl, hb20⟩
    have hB20 : Below w.heap.size w w20 := hB19.trans (hb20.mono hB19.size)
    replace k2 := k2.below hb20 k2.lt
    replace b5 := b5.below hb20 b5.lt
    replace b9 := b9.below hb20 b9.lt
    replace b19 := b19.below hb20 b19.lt
    replace x4 := x4.below hb20 (Nat.le_refl _)
    replace y8 := y8.below hb20 (Nat.le_refl _)
    replace x18 := x18.below hb20 (Nat.le_refl _)
    clear c0 c1 d0 d1
    have c0 := b9.cell 0
    have c1 := b9.cell 1
    simp only [List.getElem?_cons_zero, List.getElem?_cons_succ] at c0 c1
    go_wp2_with fail
    refine (HH.out _ _ y8.rd).mono ?_
    rintro e w21 ⟨rfl, hb21⟩
    have hB21 : Below w.heap.size w w21 := hB20.trans (hb21.mono hB20.size)
    go_wp2
    go_ret
    exact ⟨rfl, hB21⟩

set_option maxRecDepth 100000 in
theorem fnExactClientNew_lifted (os : Os) (started : os.Started) (H : Type) (enc : TypeId × Value → H) :
    ReturnsInHanded {} Try.checked os 3 .any (Rows.fnExactClientNewSpec.pre6 enc Try.prog Try.f3 Rows.fnExactClientNewRow.domain false) (Rows.fnExactClientNewSpec.post enc Try.prog Try.f3 false true false false) := by
  refine returnsInHanded_of_change (C := Try.checked) fnExactClientNew_own started (by kernel_rfl) Try.func3
    (ChangeSpec.witness6 (enc := enc) (C := Try.checked) false ⟨#[], #[.agg #[.int .i64 0, .slice none 0 0]], []⟩ 8 (by kernel_rfl) (by kernel_rfl) (by kernel_rfl) (by kernel_rfl)) ?_
  intro W base args ds gs before hval0 hW hcnd _
  have hval : ∀ (j : Nat) t v, Try.f3.params[j]? = some t → args[j]? = some v → Value.okWide Try.prog W .any base t v := hval0
  have hW' := hW
  obtain ⟨p, q, hA0, hV, rfl, hfz, hnd⟩ := hW
  have hA : DataW.TrodAll enc Try.prog W 0 (fun _ => true) true Try.f3.params.toList args.toList ds p := hA0
  rw [Try.params3] at hA hval
  obtain ⟨v0, vs0, d0, ds0, p0, q0, hargs, rfl, rfl, h0, r0⟩ := trodAll_cons hA
  obtain ⟨rfl, rfl, rfl⟩ := trodAll_nil r0
  obtain rfl : args = #[v0] := by cases args; simp_all
  obtain ⟨rfl, rfl⟩ := trodVars_none hV
  have k0 := h0
  have lt0 : ∀ x ∈ p0, x.block < W.heap.size := by obtain ⟨m, hm⟩ := k0; exact DataW.trod_lt m _ _ _ hm
  obtain ⟨a0, y0, z0, rfl, w0⟩ : ∃ (e : Int) (v : Value) (l : List Ac), v0 = lgV e v ∧ RdA W v l ∧ l.length ≤ maxLen ∧ ∀ q ∈ l, q.1.size ≤ maxLen ∧ q.2.2.2.2.length ≤ maxLen := by
    obtain ⟨cs, rfl, hsz⟩ := okWide_struct Try.underlying24 (hval 0 24 _ rfl rfl)
    obtain ⟨fuel, hf⟩ := h0
    obtain ⟨e, v, l, q, r⟩ := open_ledger (by simpa [Value.cells] using hf)
    exact ⟨e, v, l, by cases cs; simp at q; subst q; rfl, r⟩
  clear hA0 hval0
  refine (fnExactClientNew_walk a0 y0 z0 W w0).mono fun e W' ⟨he, bel⟩ => ?_
  subst he
  exact ⟨_, rfl, _, _, _, [], _, [], hW', trodAll_mk1 (shut_bool Try.underlying4 _), (trodAll_cons_mk (Below.trod fnExactClientNew_laidOut (by kernel_rfl) (of_decide_eq_true (by kernel_rfl)) k0 bel lt0) trodAll_mk0), rfl, bel.frame _, fun h => by cases h⟩

theorem fnExactClientNew_holds : Rows.FnExactClientNewSaid :=
  OpenClaim.holds_of_wide 3 Try.f3 rfl rfl rfl rfl rfl rfl rfl ⟨rfl, rfl, rfl, rfl, rfl⟩ rfl rfl rfl rfl rfl (by kernel_rfl) Try.func3 (by kernel_rfl)
    (of_decide_eq_true (by kernel_rfl)) (by unfold Func.isWrapper; first | (rw [if_pos (by decide +kernel)]; kernel_rfl) | (rw [if_neg (by decide +kernel)]; exact ⟨rfl, rfl⟩))
    (fun os started H enc _ => fnExactClientNew_lifted os started H enc)

end Go.Proofs.Ytaidhenkijjcfaa
