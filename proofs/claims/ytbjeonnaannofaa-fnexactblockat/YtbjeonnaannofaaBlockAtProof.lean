/- At all lists of blocks and numbers BlockAt of the program answers as the model's BlockAt, writes into no argument, and its answer owns its memory: the law FnExactBlockAt returns true, with no condition. -/
import Derived.Test.YtbjeonnaannofaaRows
import Derived.Test.YtbjeonnaannofaaKsOpen
import Derived.Test.YtbjeonnaannofaaKsEq
import Derived.Test.YtbjeonnaannofaaKsSz
import Derived.Test.YtbjeonnaannofaaKsAt
import Derived.Test.YtbjeonnaannofaaKsMark
import Derived.Test.YtbjeonnaannofaaBkHeld
import Derived.WalkKit
import Derived.ProofKit
import Derived.OpenShut
import Derived.ShutString
import Derived.ChangeOld
import Derived.Below
import Derived.SliceStrings
namespace Go.Proofs.Ytbjeonnaannofaa
open Go.ChangeShapes Go.WideShapes Go.ChangeAt Go.RowKit
open Go.ChangeMaps (open_string shut_string)
set_option linter.unusedVariables false

theorem fnExactBlockAt_own : ownKnob Try.prog.godebug = none := by kernel_rfl
theorem fnExactBlockAt_laidOut : laidOutB Try.prog = true := by kernel_rfl

theorem totM_sum (l : List Bk) : totM l ≤ 9 * l.length + 5 * totK l := by
  induction l with
  | nil => simp [totM]
  | cons b l ih =>
    have e1 : totM (b :: l) = mkN b + totM l := by simp [totM]
    have e2 : totK (b :: l) = wgK b + totK l := by simp [totK]
    rw [e1, e2, List.length_cons]
    unfold mkN wgK
    omega
theorem fewN_of {l : List Bk} (h : ∀ q ∈ l, FitK q) (hm : totK l ≤ 1048576) : ∀ b ∈ l, FewK b := fun b hb => by
  have f := h b hb
  have m := totK_at l b hb
  unfold wgK at m
  exact ⟨by omega, by omega, by omega, by omega, by omega, f.qs, f.ws, f.ts, f.ns, f.ms, f.rs⟩
theorem few_bk0 : FewK bk0 := ⟨by simp [bk0], by simp [bk0], by simp [bk0], by simp [bk0], by simp [bk0], by simp [bk0], by simp [bk0], by simp [bk0], by simp [bk0], by simp [bk0, ByteArray.size], by simp [bk0, ByteArray.size]⟩
theorem few_baK {l : List Bk} (h : ∀ b ∈ l, FewK b) (id : Int) : FewK (baK l id) := by
  rcases at_two l id with ⟨e, _⟩ | ⟨k, hk, e, _⟩
  · rw [baK_no (by omega)]; exact few_bk0
  · rw [baK_yes hk e]; exact h _ (List.getElem_mem hk)
theorem RdK.othK {S : Nat → Prop} {base : Nat} {w w' : World} {b : Bk} {v : Bv} (h : OwnK base w b v) (hO : Oth S w w') (hn : ∀ g, v.has g → ¬ S g) : OwnK base w' b v :=
  ⟨row_oth h.q hO (fun g e => hn g (.inl e)), row_oth h.p hO (fun g e => hn g (.inr (.inl e))), row_oth h.h hO (fun g e => hn g (.inr (.inr (.inl e)))), row_oth h.t hO (fun g e => hn g (.inr (.inr (.inr (.inl e))))), row_oth h.n hO (fun g e => hn g (.inr (.inr (.inr (.inr e)))))⟩
set_option maxRecDepth 20000 in
set_option maxHeartbeats 8000000 in
theorem fnExactBlockAt_walk (a0 : Option Addr) (len0 cap0 : Nat) (z0 : List Bk) (a1 : Int) (w : World) (w0 : len0 = z0.length ∧ RdKs w (.slice a0 len0 cap0) z0 ∧ z0.length ≤ maxLen ∧ ∀ q ∈ z0, FitK q) (w1 : (Lit.int .i64 a1).wf = true) :
    Calls Try.prog 6 #[.slice a0 len0 cap0, .int .i64 a1] w fun e w' => e = .returned (.bool true) ∧ Below w.heap.size w w' := by
  clear w1
  obtain ⟨rfl, hr, hlm, hsm⟩ := w0
  have Hz := hide (szBlockSN_any _ z0 1048576 w hr (by omega) hlm hsm)
  have Hr := hide hr
  have Hsm := hide hsm
  clear hr hsm hlm
  go_enter Try.func6, Try.ntmps6
  go_wp2_with fail
  refine Hz.out.mono ?_
  rintro e w1 ⟨r, rfl, hfit, hb1⟩
  by_cases hneg : r < 0
  · clear hfit
    go_wp2
    go_ret
    exact ⟨rfl, hb1⟩
  have hl := hfit (by omega)
  have hl4 : z0.length ≤ 1048576 := by omega
  have hlk : totK z0 ≤ 1048576 := by omega
  have hfew := fewN_of Hsm.out hlk
  have htm := totM_sum z0
  have hst : 1 + totM z0 ≤ 80000000 := by omega
  have hFX := few_baK hfew a1
  have HS := hide (fun v w hr => specBlockAt_any v z0 a1 w hr (by omega) hfew)
  have HI := hide (fun v w hr => implBlockAt_any v z0 a1 w hr (by omega) hfew)
  have HT := hide (fun v w hr => toBlockS_any v z0 w hr (by omega) hfew)
  have HE := hide (fun v1 v2 w h1 h2 => eqBlockS_any v1 v2 z0 w h1 h2 (by omega) hfew)
  have HM := hide (fun v base V0 V ho hb => markBlockS_any v z0 1 base V0 V ho hb (by omega) (fun b hb => ⟨(hfew b hb).q, (hfew b hb).w, (hfew b hb).h, (hfew b hb).t, (hfew b hb).n⟩) hst (by omega))
  unfold BaP at HS HI
  generalize baK z0 a1 = X at HS HI hFX
  generalize decide (0 ≤ atI z0 a1) = FL at HS HI
  have HEX := hide (fun v1 v2 w h1 h2 => eqBlock_any X v1 v2 w h1 h2 hFX)
  have HMX := hide (fun v base w ho hin => markBlockC_any X v 1 base w ho hin hFX.q hFX.w hFX.h hFX.t hFX.n (by omega) (by omega))
  have HH := hide (fun v w hr => heldBlock_any X v 1 w hr hFX.q hFX.w hFX.h hFX.t hFX.n (by omega) (by omega))
  have hkz : ¬ ((1 + totM z0 : Nat) : Int) < 0 := by omega
  have hkX : ¬ ((mkC 1 X : Nat) : Int) < 0 := by omega
  generalize 1 + totM z0 = kz at HM hkz
  generalize mkC 1 X = kX at HMX HH hkX
  clear hfit hl hl4 hlk hfew htm hst Hsm Hz hFX
  generalize hMK : mkK 1 X = MK at HMX HH
  clear hMK
  obtain ⟨id, ep, rd, md, qr, qb, qw, tr, tw, th, ts, en, nx, rt⟩ := X
  simp only [bkV] at HS HI HEX HMX HH
  go_wp2_with fail
  refine (HT.out _ _ (Hr.out.below hb1 (Nat.le_refl _))).mono ?_
  rintro e w2 ⟨v2, rfl, o2, hb2⟩
  have hB2 : Below w.heap.size w w2 := hb1.trans (hb2.mono hb1.size)
  go_wp2_with fail
  refine (HS.out _ _ o2.rd).mono ?_
  rintro e w3 ⟨v3, rfl, o3, -, hb3⟩
  have hB3 : Below w.heap.size w w3 := hB2.trans (hb3.mono hB2.size)
  have Hlt3 : Hid (∀ g, v3.has g → g < w3.heap.size) := hide (fun g hg => (o3.in9 g hg).2)
  obtain ⟨aq3, cq3, aw3, cw3, ah3, ch3, at3, ct3, an3, cn3, rfl⟩ := o3.rd.shapes9
  simp only
  obtain ⟨w4, hw4⟩ : ∃ x, w3.alloc (.cells #[.int .i64 id, .int .i64 ep, .int .i64 rd, .string md, .int .i64 qr, .int .i64 qb, .slice aq3 qw.length cq3, .int .i64 tr, .slice aw3 tw.length cw3, .slice ah3 th.length ch3, .slice at3 ts.length ct3, .bool en, .slice an3 nx.length cn3, .string rt] 37) = x := ⟨_, rfl⟩
  have b4 : Below w3.heap.size w3 w4 := by rw [← hw4]; exact (Below.refl _ w3).alloc (Nat.le_refl _) _
  have k4 : Blk w4 w3.heap.size 37 [.int .i64 id, .int .i64 ep, .int .i64 rd, .string md, .int .i64 qr, .int .i64 qb, .slice aq3 qw.length cq3, .int .i64 tr, .slice aw3 tw.length cw3, .slice ah3 th.length ch3, .slice at3 ts.length ct3, .bool en, .slice an3 nx.length cn3, .string rt] := by rw [← hw4]; exact Blk.new w3 _ _
  have hB4 : Below w.heap.size w w4 := hB3.trans (b4.mono hB3.size)
  have s4 : w3.heap.size < w4.heap.size := k4.lt
  have O3 := hide (o3.below9 b4 (Nat.le_refl _))
  have K6 := hide k4
  clear o2 o3 k4 b4
  go_wp2_with fail
  refine (HT.out _ _ (Hr.out.below hB4 (Nat.le_refl _))).mono ?_
  rintro e w5 ⟨v5, rfl, o5, hb5⟩
  have hB5 : Below w.heap.size w w5 := hB4.trans (hb5.mono hB4.size)
  have Ho5 := hide o5
  have O3b := hide (O3.out.below9 hb5 (Nat.le_refl _))
  have K6b := hide (K6.out.below hb5 K6.out.lt)
  have s5 := hb5.size
  clear O3 K6 hw4
  go_wp2_with fail
  refine (HI.out _ _ o5.rd).mono ?_
  rintro e w6 ⟨v6, rfl, o6, hin6, hb6⟩
  have hB6 : Below w.heap.size w w6 := hB5.trans (hb6.mono hB5.size)
  have H56 := hide hb6
  have Hlt6 : Hid (∀ g, v6.has g → w5.heap.size ≤ g ∧ g < w6.heap.size) := hide (fun g hg => o6.in9 g hg)
  have O3c := hide (O3b.out.below9 hb6 (Nat.le_refl _))
  have K6c := hide (K6b.out.below hb6 K6b.out.lt)
  obtain ⟨aq6, cq6, aw6, cw6, ah6, ch6, at6, ct6, an6, cn6, rfl⟩ := o6.rd.shapes9
  simp only
  have Hin6 := hide hin6
  obtain ⟨w7, hw7⟩ : ∃ x, w6.alloc (.cells #[.int .i64 id, .int .i64 ep, .int .i64 rd, .string md, .int .i64 qr, .int .i64 qb, .slice aq6 qw.length cq6, .int .i64 tr, .slice aw6 tw.length cw6, .slice ah6 th.length ch6, .slice at6 ts.length ct6, .bool en, .slice an6 nx.length cn6, .string rt] 37) = x := ⟨_, rfl⟩
  have b7 : Below w6.heap.size w6 w7 := by rw [← hw7]; exact (Below.refl _ w6).alloc (Nat.le_refl _) _
  have k7 : Blk w7 w6.heap.size 37 [.int .i64 id, .int .i64 ep, .int .i64 rd, .string md, .int .i64 qr, .int .i64 qb, .slice aq6 qw.length cq6, .int .i64 tr, .slice aw6 tw.length cw6, .slice ah6 th.length ch6, .slice at6 ts.length ct6, .bool en, .slice an6 nx.length cn6, .string rt] := by rw [← hw7]; exact Blk.new w6 _ _
  have hB7 : Below w.heap.size w w7 := hB6.trans (b7.mono hB6.size)
  have s6 := hb6.size
  have s7 : w6.heap.size < w7.heap.size := k7.lt
  have O6 := hide (o6.below9 b7 (Nat.le_refl _))
  have O3 := hide (O3c.out.below9 b7 (Nat.le_refl _))
  have H57 := hide (H56.out.trans (b7.mono H56.out.size))
  have k6 := K6c.out.below b7 K6c.out.lt
  clear o5 o6 b7 O3b O3c K6b K6c H56 hin6
  have p0 := k6.cell 0
  have p1 := k6.cell 1
  have p2 := k6.cell 2
  have p3 := k6.cell 3
  have p4 := k6.cell 4
  have p5 := k6.cell 5
  have p6 := k6.cell 6
  have p7 := k6.cell 7
  have p8 := k6.cell 8
  have p9 := k6.cell 9
  have p10 := k6.cell 10
  have p11 := k6.cell 11
  have p12 := k6.cell 12
  have p13 := k6.cell 13
  simp only [List.getElem?_cons_zero, List.getElem?_cons_succ] at p0 p1 p2 p3 p4 p5 p6 p7 p8 p9 p10 p11 p12 p13
  have g0 := k7.cell 0
  have g1 := k7.cell 1
  have g2 := k7.cell 2
  have g3 := k7.cell 3
  have g4 := k7.cell 4
  have g5 := k7.cell 5
  have g6 := k7.cell 6
  have g7 := k7.cell 7
  have g8 := k7.cell 8
  have g9 := k7.cell 9
  have g10 := k7.cell 10
  have g11 := k7.cell 11
  have g12 := k7.cell 12
  have g13 := k7.cell 13
  simp only [List.getElem?_cons_zero, List.getElem?_cons_succ] at g0 g1 g2 g3 g4 g5 g6 g7 g8 g9 g10 g11 g12 g13
  have K6 := hide k6
  have K9 := hide k7
  clear k6 k7
  go_wp2_with (go_at_call 26; refine (HEX.out _ _ _ O6.out.rd O3.out.rd).mono ?_; rintro e w8 ⟨rfl, hb8⟩)
  have hB8 : Below w.heap.size w w8 := hB7.trans (hb8.mono hB7.size)
  have O6b := hide (O6.out.below9 hb8 (Nat.le_refl _))
  have O3b := hide (O3.out.below9 hb8 (Nat.le_refl _))
  have K6b := hide (K6.out.below hb8 K6.out.lt)
  have K9b := hide (K9.out.below hb8 K9.out.lt)
  have H58 := hide (H57.out.trans (hb8.mono H57.out.size))
  clear p0 p1 p2 p3 p4 p5 p6 p7 p8 p9 p10 p11 p12 p13 g0 g1 g2 g3 g4 g5 g6 g7 g8 g9 g10 g11 g12 g13
  clear hw7 O6 O3 K6 K9 H57
  go_wp2_with fail
  refine (HT.out _ _ (Hr.out.below hB8 (Nat.le_refl _))).mono ?_
  rintro e w9 ⟨v9, rfl, o9, hb9⟩
  have hB9 : Below w.heap.size w w9 := hB8.trans (hb9.mono hB8.size)
  have O6 := hide (O6b.out.below9 hb9 (Nat.le_refl _))
  have O3 := hide (O3b.out.below9 hb9 (Nat.le_refl _))
  have K6 := hide (K6b.out.below hb9 K6b.out.lt)
  have K9 := hide (K9b.out.below hb9 K9b.out.lt)
  have H59 := hide (H58.out.trans (hb9.mono H58.out.size))
  clear O6b O3b K6b K9b H58
  go_wp2_with fail
  refine (HE.out _ _ _ (Ho5.out.rd.below H59.out (Nat.le_refl _)) o9.rd).mono ?_
  rintro e w10 ⟨rfl, hb10⟩
  have hB10 : Below w.heap.size w w10 := hB9.trans (hb10.mono hB9.size)
  have O6b := hide (O6.out.below9 hb10 (Nat.le_refl _))
  have O3b := hide (O3.out.below9 hb10 (Nat.le_refl _))
  have K6b := hide (K6.out.below hb10 K6.out.lt)
  have K9b := hide (K9.out.below hb10 K9.out.lt)
  have H510 := hide (H59.out.trans (hb10.mono H59.out.size))
  clear O6 O3 K6 K9 H59 o9
  go_wp2_with fail
  refine (HM.out _ _ _ _ Ho5.out H510.out).mono ?_
  rintro e w11 ⟨rfl, -, hO11⟩
  have hB11 : Below w.heap.size w w11 := hB10.trans (hO11.below (fun k hk => by have := hB4.size; omega) hB10.size)
  have O6 := hide (RdK.othK O6b.out hO11 (fun g hg h => by have := Hlt6.out g hg; omega))
  have O3 := hide (RdK.othK O3b.out hO11 (fun g hg h => by have := Hlt3.out g hg; omega))
  have k6 := K6b.out.othB hO11 (fun h => by omega)
  have k9 := K9b.out.othB hO11 (fun h => by omega)
  have K6 := hide k6
  have K9 := hide k9
  clear O6b O3b K6b K9b H510 hO11 HM Ho5
  have p0 := k6.cell 0
  have p1 := k6.cell 1
  have p2 := k6.cell 2
  have p3 := k6.cell 3
  have p4 := k6.cell 4
  have p5 := k6.cell 5
  have p6 := k6.cell 6
  have p7 := k6.cell 7
  have p8 := k6.cell 8
  have p9 := k6.cell 9
  have p10 := k6.cell 10
  have p11 := k6.cell 11
  have p12 := k6.cell 12
  have p13 := k6.cell 13
  simp only [List.getElem?_cons_zero, List.getElem?_cons_succ] at p0 p1 p2 p3 p4 p5 p6 p7 p8 p9 p10 p11 p12 p13
  have g0 := k9.cell 0
  have g1 := k9.cell 1
  have g2 := k9.cell 2
  have g3 := k9.cell 3
  have g4 := k9.cell 4
  have g5 := k9.cell 5
  have g6 := k9.cell 6
  have g7 := k9.cell 7
  have g8 := k9.cell 8
  have g9 := k9.cell 9
  have g10 := k9.cell 10
  have g11 := k9.cell 11
  have g12 := k9.cell 12
  have g13 := k9.cell 13
  simp only [List.getElem?_cons_zero, List.getElem?_cons_succ] at g0 g1 g2 g3 g4 g5 g6 g7 g8 g9 g10 g11 g12 g13
  clear k6 k9
  go_wp2_with (go_at_call 26; refine (HEX.out _ _ _ O6.out.rd O3.out.rd).mono ?_; rintro e w12 ⟨rfl, hb12⟩; have n12 := K9.out.below hb12 K9.out.lt; have m0 := n12.cell 0; have m1 := n12.cell 1; have m2 := n12.cell 2; have m3 := n12.cell 3; have m4 := n12.cell 4; have m5 := n12.cell 5; have m6 := n12.cell 6; have m7 := n12.cell 7; have m8 := n12.cell 8; have m9 := n12.cell 9; have m10 := n12.cell 10; have m11 := n12.cell 11; have m12 := n12.cell 12; have m13 := n12.cell 13; simp only [List.getElem?_cons_zero, List.getElem?_cons_succ] at m0 m1 m2 m3 m4 m5 m6 m7 m8 m9 m10 m11 m12 m13; clear n12)
  have hB12 : Below w.heap.size w w12 := hB11.trans (hb12.mono hB11.size)
  have O6b := hide (O6.out.below9 hb12 (Nat.le_refl _))
  have O3b := hide (O3.out.below9 hb12 (Nat.le_refl _))
  have K6b := hide (K6.out.below hb12 K6.out.lt)
  have K9b := hide (K9.out.below hb12 K9.out.lt)
  clear p0 p1 p2 p3 p4 p5 p6 p7 p8 p9 p10 p11 p12 p13 g0 g1 g2 g3 g4 g5 g6 g7 g8 g9 g10 g11 g12 g13
  clear O6 O3 K6 K9
  refine (HMX.out _ _ _ O6b.out Hin6.out).mono ?_
  rintro e w13 ⟨rfl, o13, hO13⟩
  have hB13 : Below w.heap.size w w13 := hB12.trans (hO13.below (fun k hk => by have := (Hlt6.out k hk).1; have := hB5.size; omega) hB12.size)
  have O3 := hide (RdK.othK O3b.out hO13 (fun g hg h => by have := Hlt3.out g hg; have := (Hlt6.out g h).1; omega))
  have k6 := K6b.out.othB hO13 (fun h => by have := (Hlt6.out _ h).1; omega)
  have k9 := K9b.out.othB hO13 (fun h => by have := (Hlt6.out _ h).2; omega)
  have K6 := hide k6
  have K9 := hide k9
  have O13 := hide o13
  clear m0 m1 m2 m3 m4 m5 m6 m7 m8 m9 m10 m11 m12 m13
  have g0 := k9.cell 0
  have g1 := k9.cell 1
  have g2 := k9.cell 2
  have g3 := k9.cell 3
  have g4 := k9.cell 4
  have g5 := k9.cell 5
  have g6 := k9.cell 6
  have g7 := k9.cell 7
  have g8 := k9.cell 8
  have g9 := k9.cell 9
  have g10 := k9.cell 10
  have g11 := k9.cell 11
  have g12 := k9.cell 12
  have g13 := k9.cell 13
  simp only [List.getElem?_cons_zero, List.getElem?_cons_succ] at g0 g1 g2 g3 g4 g5 g6 g7 g8 g9 g10 g11 g12 g13
  clear O6b O3b K6b K9b hO13 HMX k6 k9 o13
  go_wp2_with fail
  refine (HH.out _ _ O13.out.rd).mono ?_
  rintro e w14 ⟨rfl, hb14⟩
  have hB14 : Below w.heap.size w w14 := hB13.trans (hb14.mono hB13.size)
  have O13b := hide (O13.out.below9 hb14 (Nat.le_refl _))
  have O3b := hide (O3.out.below9 hb14 (Nat.le_refl _))
  have K6b := hide (K6.out.below hb14 K6.out.lt)
  have K9b := hide (K9.out.below hb14 K9.out.lt)
  clear g0 g1 g2 g3 g4 g5 g6 g7 g8 g9 g10 g11 g12 g13
  clear O13 O3 K6 K9
  go_wp2_with fail
  refine (HT.out _ _ (Hr.out.below hB14 (Nat.le_refl _))).mono ?_
  rintro e w15 ⟨v15, rfl, o15, hb15⟩
  have hB15 : Below w.heap.size w w15 := hB14.trans (hb15.mono hB14.size)
  have O13 := hide (O13b.out.below9 hb15 (Nat.le_refl _))
  have O3 := hide (O3b.out.below9 hb15 (Nat.le_refl _))
  have K6 := hide (K6b.out.below hb15 K6b.out.lt)
  have K9 := hide (K9b.out.below hb15 K9b.out.lt)
  clear O13b O3b K6b K9b
  go_wp2_with fail
  refine (HI.out _ _ o15.rd).mono ?_
  rintro e w16 ⟨v16, rfl, o16, -, hb16⟩
  have hB16 : Below w.heap.size w w16 := hB15.trans (hb16.mono hB15.size)
  obtain ⟨aq7, cq7, aw7, cw7, ah7, ch7, at7, ct7, an7, cn7, rfl⟩ := o16.rd.shapes9
  simp only
  obtain ⟨w17, hw17⟩ : ∃ x, w16.alloc (.cells #[.int .i64 id, .int .i64 ep, .int .i64 rd, .string md, .int .i64 qr, .int .i64 qb, .slice aq7 qw.length cq7, .int .i64 tr, .slice aw7 tw.length cw7, .slice ah7 th.length ch7, .slice at7 ts.length ct7, .bool en, .slice an7 nx.length cn7, .string rt] 37) = x := ⟨_, rfl⟩
  have b17 : Below w16.heap.size w16 w17 := by rw [← hw17]; exact (Below.refl _ w16).alloc (Nat.le_refl _) _
  have k17 : Blk w17 w16.heap.size 37 [.int .i64 id, .int .i64 ep, .int .i64 rd, .string md, .int .i64 qr, .int .i64 qb, .slice aq7 qw.length cq7, .int .i64 tr, .slice aw7 tw.length cw7, .slice ah7 th.length ch7, .slice at7 ts.length ct7, .bool en, .slice an7 nx.length cn7, .string rt] := by rw [← hw17]; exact Blk.new w16 _ _
  have hB17 : Below w.heap.size w w17 := hB16.trans (b17.mono hB16.size)
  have h1617 := hb16.trans (b17.mono hb16.size)
  have O13b := hide (O13.out.below9 h1617 (Nat.le_refl _))
  have O3b := hide (O3.out.below9 h1617 (Nat.le_refl _))
  have k6 := K6.out.below h1617 K6.out.lt
  have K9b := hide (K9.out.below h1617 K9.out.lt)
  have O16 := hide (o16.below9 b17 (Nat.le_refl _))
  have p0 := k6.cell 0
  have p1 := k6.cell 1
  have p2 := k6.cell 2
  have p3 := k6.cell 3
  have p4 := k6.cell 4
  have p5 := k6.cell 5
  have p6 := k6.cell 6
  have p7 := k6.cell 7
  have p8 := k6.cell 8
  have p9 := k6.cell 9
  have p10 := k6.cell 10
  have p11 := k6.cell 11
  have p12 := k6.cell 12
  have p13 := k6.cell 13
  simp only [List.getElem?_cons_zero, List.getElem?_cons_succ] at p0 p1 p2 p3 p4 p5 p6 p7 p8 p9 p10 p11 p12 p13
  have g0 := k17.cell 0
  have g1 := k17.cell 1
  have g2 := k17.cell 2
  have g3 := k17.cell 3
  have g4 := k17.cell 4
  have g5 := k17.cell 5
  have g6 := k17.cell 6
  have g7 := k17.cell 7
  have g8 := k17.cell 8
  have g9 := k17.cell 9
  have g10 := k17.cell 10
  have g11 := k17.cell 11
  have g12 := k17.cell 12
  have g13 := k17.cell 13
  simp only [List.getElem?_cons_zero, List.getElem?_cons_succ] at g0 g1 g2 g3 g4 g5 g6 g7 g8 g9 g10 g11 g12 g13
  clear O13 O3 K6 K9 o15 o16 b17 k17 k6 h1617
  go_wp2_with (go_at_call 26; refine (HEX.out _ _ _ O16.out.rd O3b.out.rd).mono ?_; rintro e w18 ⟨rfl, hb18⟩; have n18 := K9b.out.below hb18 K9b.out.lt; have m0 := n18.cell 0; have m1 := n18.cell 1; have m2 := n18.cell 2; have m3 := n18.cell 3; have m4 := n18.cell 4; have m5 := n18.cell 5; have m6 := n18.cell 6; have m7 := n18.cell 7; have m8 := n18.cell 8; have m9 := n18.cell 9; have m10 := n18.cell 10; have m11 := n18.cell 11; have m12 := n18.cell 12; have m13 := n18.cell 13; simp only [List.getElem?_cons_zero, List.getElem?_cons_succ] at m0 m1 m2 m3 m4 m5 m6 m7 m8 m9 m10 m11 m12 m13; clear n18)
  have hB18 : Below w.heap.size w w18 := hB17.trans (hb18.mono hB17.size)
  have O13 := hide (O13b.out.below9 hb18 (Nat.le_refl _))
  refine (HH.out _ _ O13.out.rd).mono ?_
  rintro e w19 ⟨rfl, hb19⟩
  have hB19 : Below w.heap.size w w19 := hB18.trans (hb19.mono hB18.size)
  clear p0 p1 p2 p3 p4 p5 p6 p7 p8 p9 p10 p11 p12 p13 g0 g1 g2 g3 g4 g5 g6 g7 g8 g9 g10 g11 g12 g13 m0 m1 m2 m3 m4 m5 m6 m7 m8 m9 m10 m11 m12 m13
  clear hw17
  go_wp2
  go_ret
  exact ⟨rfl, hB19⟩

set_option maxRecDepth 100000 in
theorem fnExactBlockAt_lifted (os : Os) (started : os.Started) (H : Type) (enc : TypeId × Value → H) :
    ReturnsInHanded {} Try.checked os 6 .any (Rows.fnExactBlockAtSpec.pre6 enc Try.prog Try.f6 Rows.fnExactBlockAtRow.domain false) (Rows.fnExactBlockAtSpec.post enc Try.prog Try.f6 false true false false) := by
  refine returnsInHanded_of_change (C := Try.checked) fnExactBlockAt_own started (by kernel_rfl) Try.func6
    (ChangeSpec.witness6 (enc := enc) (C := Try.checked) false ⟨#[], #[.slice none 0 0, .int .i64 0], []⟩ 8 (by kernel_rfl) (by kernel_rfl) (by kernel_rfl) (by kernel_rfl)) ?_
  intro W base args ds gs before hval0 hW hcnd _
  have hval : ∀ (j : Nat) t v, Try.f6.params[j]? = some t → args[j]? = some v → Value.okWide Try.prog W .any base t v := hval0
  have hW' := hW
  obtain ⟨p, q, hA0, hV, rfl, hfz, hnd⟩ := hW
  have hA : DataW.TrodAll enc Try.prog W 0 (fun _ => true) true Try.f6.params.toList args.toList ds p := hA0
  rw [Try.params6] at hA hval
  obtain ⟨v0, vs0, d0, ds0, p0, q0, hargs, rfl, rfl, h0, r0⟩ := trodAll_cons hA
  obtain ⟨v1, vs1, d1, ds1, p1, q1, rfl, rfl, rfl, h1, r1⟩ := trodAll_cons r0
  obtain ⟨rfl, rfl, rfl⟩ := trodAll_nil r1
  obtain rfl : args = #[v0, v1] := by cases args; simp_all
  obtain ⟨rfl, rfl⟩ := trodVars_none hV
  have k0 := h0
  have lt0 : ∀ x ∈ p0, x.block < W.heap.size := by obtain ⟨m, hm⟩ := k0; exact DataW.trod_lt m _ _ _ hm
  obtain ⟨a0, len0, cap0, rfl⟩ := okWide_slice Try.underlying50 (hval 0 50 v0 rfl rfl)
  obtain ⟨z0, w0⟩ : ∃ l : List Bk, len0 = l.length ∧ RdKs W (.slice a0 len0 cap0) l ∧ l.length ≤ maxLen ∧ ∀ q ∈ l, FitK q := by
    obtain ⟨fuel, hf⟩ := h0
    exact open_blockS (by simpa [Value.cells] using hf)
  obtain ⟨a1, rfl, rfl, rfl, w1⟩ := open_int Try.underlying3 (hval 1 3 v1 rfl rfl) h1
  clear hA0 hval0
  refine (fnExactBlockAt_walk a0 len0 cap0 z0 a1 W w0 w1).mono fun e W' ⟨he, bel⟩ => ?_
  subst he
  exact ⟨_, rfl, _, _, _, [], _, [], hW', trodAll_mk1 (shut_bool Try.underlying4 _), (trodAll_cons_mk (Below.trod fnExactBlockAt_laidOut (by kernel_rfl) (of_decide_eq_true (by kernel_rfl)) k0 bel lt0) (trodAll_cons_mk (shut_int Try.underlying3 w1) trodAll_mk0)), rfl, bel.frame _, fun h => by cases h⟩

theorem fnExactBlockAt_holds : Rows.FnExactBlockAtSaid :=
  OpenClaim.holds_of_wide 6 Try.f6 rfl rfl rfl rfl rfl rfl rfl ⟨rfl, rfl, rfl, rfl, rfl⟩ rfl rfl rfl rfl rfl (by kernel_rfl) Try.func6 (by kernel_rfl)
    (of_decide_eq_true (by kernel_rfl)) (by unfold Func.isWrapper; first | (rw [if_pos (by decide +kernel)]; kernel_rfl) | (rw [if_neg (by decide +kernel)]; exact ⟨rfl, rfl⟩))
    (fun os started H enc _ => fnExactBlockAt_lifted os started H enc)

end Go.Proofs.Ytbjeonnaannofaa
