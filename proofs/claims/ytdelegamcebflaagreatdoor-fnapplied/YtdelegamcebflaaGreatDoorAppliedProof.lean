/- What a drawn order does leaves as much as there was, makes the number of orders of the one who gave it one more, and its amount goes where it must: the law FnApplied returns true at every code, with no condition but that the package-level variable of the errors package reads as the program's text lays it. -/
import Derived.Test.YtdelegamcebflaaGreatDoorRows
import Derived.Test.YtdelegamcebflaaGreatDoorTie
import Derived.Test.YtdelegamcebflaaGreatDoorCards
import Derived.Test.YtdelegamcebflaaGreatDoorJoin1
import Derived.Test.YtdelegamcebflaaGreatDoorLgApplyI
import Derived.Test.YtdelegamcebflaaGreatDoorLgApplyS
import Derived.Test.YtdelegamcebflaaGreatDoorGhLaid
import Derived.Test.YtdelegamcebflaaGreatDoorJoin9
import Derived.Test.YtdelegamcebflaaGreatDoorLgApF
import Derived.Test.YtdelegamcebflaaGreatDoorAcImpl2
import Derived.Test.YtdelegamcebflaaGreatDoorAcCutA
import Derived.Test.YtdelegamcebflaaGreatDoorLgApW
import Derived.Test.YtdelegamcebflaaGreatDoorJoin14
import Derived.ChangeSame
import Derived.ChangeVars
import Derived.JoinedOf
import Derived.RowKitTokens
import Derived.WalkKit
import Derived.ProofKit
import Derived.OpenShut
import Derived.ShutString
import Derived.ChangeOld
import Derived.Below
import Derived.SliceStrings
import Derived.OpenVars
import Derived.SevenTiedAt
namespace Go.Proofs.YtdelegamcebflaaGreatDoor
open Go.ChangeShapes Go.WideShapes Go.ChangeAt Go.RowKit
open Go.ChangeMaps (open_string shut_string)
set_option linter.unusedVariables false

theorem fnApplied_own : ownKnob Tryz.prog.godebug = none := by kernel_rfl
theorem fnApplied_laidOut : laidOutB Tryz.prog = true := by kernel_rfl

theorem nmB_le {s : ByteArray} (h : nmB s = true) : s.size ≤ 8 := by
  unfold nmB inB at h
  simp only [Bool.and_eq_true, decide_eq_true_eq] at h
  omega
set_option maxRecDepth 20000 in
set_option maxHeartbeats 4000000 in
theorem fnApplied_walk (a0 : Option Addr) (len0 cap0 : Nat) (z0 : List Int) (w : World) (hgh : Gh w) (w0 : IsRow .u8 w a0 len0 cap0 z0) :
    Calls Tryz.prog 3 #[.slice a0 len0 cap0] w fun e w' => e = .returned (.bool true) ∧ Below w.heap.size w w' := by
  obtain ⟨cd, rfl, hr⟩ := w0.rd
  clear w0
  have hcap : cd.length ≤ 9223372036854775807 := by
    rcases hr with ⟨_, _, _, e, _⟩ | ⟨_, _, cap, _, _, h1, h2, _⟩
    · subst e; simp
    · unfold maxLen at h2; omega
  have Hbig := hide (big_any _ cd w hr hcap)
  by_cases hbig : 1048576 < cd.length
  · rw [decide_eq_true hbig] at Hbig
    clear hr hgh
    go_enter Tryz.func3, Tryz.ntmps3
    go_wp2_with fail
    refine Hbig.out.mono ?_
    rintro e w ⟨rfl, rfl⟩
    go_wp2
    go_ret
    exact ⟨rfl, Below.refl _ _⟩
  rw [decide_eq_false hbig] at Hbig
  have Hd := hide (drawApply_any w _ cd hr (by omega))
  have Hgh := hide hgh
  clear hr hgh
  go_enter Tryz.func3, Tryz.ntmps3
  go_wp2_with fail
  refine Hbig.out.mono ?_
  rintro e w ⟨rfl, rfl⟩
  go_wp2_with fail
  refine Hd.out.mono ?_
  rintro en w2 ⟨e, v, l, ⟨kd, fm, tn, am, nc⟩, rfl, hrl, hl6, hsm, hf9, ht9, hB2⟩
  obtain ⟨av, cv, rfl⟩ := hrl.shape
  simp only [lgV, txV]
  simp only at hf9 ht9
  clear Hbig Hd hbig hcap
  have hall : ∀ a ∈ l, a.1.size ≤ maxLen ∧ a.2.2.2.2.length ≤ 3999999 := fun a ha => by have := hsm a ha; unfold maxLen; omega
  have hfm : fm.size ≤ maxLen := by unfold maxLen; omega
  have htn : tn.size ≤ maxLen := by unfold maxLen; omega
  obtain ⟨w3, hw3⟩ : ∃ x, (w2.alloc (.cells #[.int .i64 e, .slice av l.length cv] 26)).alloc (.cells #[.int .i64 kd, .string fm, .string tn, .int .i64 am, .int .i64 nc] 28) = x := ⟨_, rfl⟩
  have hb3 : Below w2.heap.size w2 w3 := by rw [← hw3]; exact ((Below.refl _ w2).alloc (Nat.le_refl _) _).alloc (by simp) _
  have hs3 : w3.heap.size = w2.heap.size + 2 := by rw [← hw3]; simp
  have kL3 : Blk w3 w2.heap.size 26 [.int .i64 e, .slice av l.length cv] := by rw [← hw3]; exact (Blk.new w2 _ _).allocD _
  have kT3 : Blk w3 (w2.heap.size + 1) 28 [.int .i64 kd, .string fm, .string tn, .int .i64 am, .int .i64 nc] := by rw [← hw3]; exact Blk.new' _ _ [.int .i64 kd, .string fm, .string tn, .int .i64 am, .int .i64 nc] _ (by simp)
  have hB3 : Below w.heap.size w w3 := hB2.trans (hb3.mono hB2.size)
  have hr3 := hrl.below hb3 (Nat.le_refl _)
  have HI := hide (implApply_any e _ l (kd, fm, tn, am, nc) w3 (Hgh.out.below hB3) hr3 (by omega) hall hfm htn)
  have HS := hide (fun V (hV : Below w3.heap.size w3 V) => specApply_any e (.slice av l.length cv) l (kd, fm, tn, am, nc) V (hr3.below hV (Nat.le_refl _)) (by omega) hall hfm htn)
  have HT := hide (apA_told e l (kd, fm, tn, am, nc))
  have HWe := hide (apA_wealth e l (kd, fm, tn, am, nc))
  have HF := hide (apA_is e l (kd, fm, tn, am, nc))
  simp only [ApPost, lgV, txV] at HI HS
  generalize apA e l (kd, fm, tn, am, nc) = R at HI HS HT HWe HF
  obtain ⟨X, C⟩ := R
  simp only at HI HS HT HWe HF
  have hX12 : X.length ≤ 12 := by
    rcases HF.out with h | h
    · rw [h]; omega
    · exact acs_len' h
  have hXall : ∀ a ∈ X, a.1.size ≤ maxLen ∧ a.2.2.2.2.length ≤ 4000000 := by
    rcases HF.out with h | h
    · rw [h]; exact fun a ha => by have := hall a ha; omega
    · exact fun a ha => ⟨by have := nmB_le (ac_parts (acs_all h a ha)).1; unfold maxLen; omega, by have := acs_four h a ha; omega⟩
  have c0 := kL3.cell 0
  have c1 := kL3.cell 1
  have d0 := kT3.cell 0
  have d1 := kT3.cell 1
  have d2 := kT3.cell 2
  have d3 := kT3.cell 3
  have d4 := kT3.cell 4
  simp only [List.getElem?_cons_zero, List.getElem?_cons_succ] at c0 c1 d0 d1 d2 d3 d4
  have KL3 := hide kL3
  have KT3 := hide kT3
  have HB3 := hide hB3
  have Hr3 := hide hr3
  clear hrl hr3 hB2 hB3 hb3 kL3 kT3
  go_wp2_with fail
  refine HI.out.mono ?_
  rintro en w4 ⟨v4, rfl, ho4, hb4⟩
  obtain ⟨a4, q4, rfl⟩ := ho4.rd.shape
  obtain ⟨w5, hw5⟩ : ∃ x, w4.alloc (.cells #[.int .i64 e, .slice a4 X.length q4] 26) = x := ⟨_, rfl⟩
  have b5 : Below w4.heap.size w4 w5 := by rw [← hw5]; exact (Below.refl _ w4).alloc (Nat.le_refl _) _
  have kX5 : Blk w5 w4.heap.size 26 [.int .i64 e, .slice a4 X.length q4] := by rw [← hw5]; exact Blk.new w4 _ _
  have hb35 := hb4.trans (b5.mono hb4.size)
  have HX5 := hide (ho4.rd.below b5 (Nat.le_refl _))
  have kL5 := KL3.out.below hb35 KL3.out.lt
  have kT5 := KT3.out.below hb35 KT3.out.lt
  have HS5 := hide (HS.out w5 hb35)
  clear c0 c1 d0 d1 d2 d3 d4 hw3 HI HS ho4
  have c0 := kL5.cell 0
  have c1 := kL5.cell 1
  have d0 := kT5.cell 0
  have d1 := kT5.cell 1
  have d2 := kT5.cell 2
  have d3 := kT5.cell 3
  have d4 := kT5.cell 4
  simp only [List.getElem?_cons_zero, List.getElem?_cons_succ] at c0 c1 d0 d1 d2 d3 d4
  have KX5 := hide kX5
  have KL5 := hide kL5
  have KT5 := hide kT5
  have Hb35 := hide hb35
  clear kX5 kL5 kT5 b5 hb4 hb35
  go_wp2_with fail
  refine HS5.out.mono ?_
  rintro en w6 ⟨v6, rfl, ho6, hb6⟩
  obtain ⟨a6, q6, rfl⟩ := ho6.rd.shape
  obtain ⟨w7, hw7⟩ : ∃ x, w6.alloc (.cells #[.int .i64 e, .slice a6 X.length q6] 26) = x := ⟨_, rfl⟩
  have b7 : Below w6.heap.size w6 w7 := by rw [← hw7]; exact (Below.refl _ w6).alloc (Nat.le_refl _) _
  have hb57 := hb6.trans (b7.mono hb6.size)
  have kX7 := KX5.out.below hb57 KX5.out.lt
  have kL7 := KL5.out.below hb57 KL5.out.lt
  have kT7 := KT5.out.below hb57 KT5.out.lt
  have hX7 := HX5.out.below hb57 (Nat.le_refl _)
  have hb37 := Hb35.out.trans (hb57.mono Hb35.out.size)
  have hL7 := Hr3.out.below hb37 (Nat.le_refl _)
  have hB7 := HB3.out.trans (hb37.mono HB3.out.size)
  clear c0 c1 d0 d1 d2 d3 d4 hw5 HS5 ho6
  have hall4 : ∀ a ∈ l, a.2.2.2.2.length ≤ 4000000 := fun a ha => by have := hall a ha; omega
  have HW1 := hide (fun (d : Nat) (os : Array Obj) => Calls.regrown_of (implWealth_any (.slice a4 X.length q4) X (Sort.grow (redrawn w7 d) os) (hX7.below (below_regrown w7 d os) (Nat.le_refl _)) (by omega) (fun a ha => (hXall a ha).2)))
  have HW2 := hide (fun (d : Nat) (os : Array Obj) => Calls.regrown_of (implWealth_any (.slice av l.length cv) l (Sort.grow (redrawn w7 d) os) (hL7.below (below_regrown w7 d os) (Nat.le_refl _)) (by omega) hall4))
  rw [HWe.out] at HW1
  generalize wealthA l = We at HW1 HW2 HWe
  have x1 := cell_regrown (show w7.cell? ⟨w4.heap.size, 1, none⟩ = some (.slice a4 X.length q4) from kX7.cell 1)
  have y1 := cell_regrown (show w7.cell? ⟨w2.heap.size, 1, none⟩ = some (.slice av l.length cv) from kL7.cell 1)
  have KX7 := hide kX7
  have KL7 := hide kL7
  have KT7 := hide kT7
  have HX7 := hide hX7
  have HL7 := hide hL7
  have HB7 := hide hB7
  clear kX7 kL7 kT7 hX7 hL7 hB7 b7 hb6 hb57 hb37 Hb35 HB3 Hr3
  go_wp2
  refine wp_region_quiet_below (by kernel_rfl) (by kernel_rfl) ?_
  repeat (go_big_quiet_step ((go_at_call 9; first | with_reducible exact HW1.out _ _ | with_reducible exact HW2.out _ _)))
  refine wpQuiet_nil ?_
  intro _ hw'
  obtain ⟨⟨dq, osq⟩, hw''⟩ := hw'
  subst hw''
  have b8 := below_regrown w7 dq osq
  generalize Sort.grow (redrawn w7 dq) osq = w8 at b8 ⊢
  have kX8 := KX7.out.below b8 KX7.out.lt
  have kL8 := KL7.out.below b8 KL7.out.lt
  have kT8 := KT7.out.below b8 KT7.out.lt
  have hX8 := HX7.out.below b8 (Nat.le_refl _)
  have hL8 := HL7.out.below b8 (Nat.le_refl _)
  have hB8 := HB7.out.trans (b8.mono HB7.out.size)
  clear x1 y1 hw7 HW1 HW2 HWe KX7 KL7 KT7 HX7 HL7 HB7 b8 KX5 KL5 KT5 KL3 KT3 HX5
  rcases HT.out with ⟨hC, hXl⟩ | ⟨hC, hlg, hlg0, -, k, hk, j, hj, ek, ej, hG⟩
  · subst hXl
    have hCb : (C == 0) = false := by rw [beq_eq_false_iff_ne]; exact hC
    have x0 := kX8.cell 0
    have x1 := kX8.cell 1
    have y0 := kL8.cell 0
    have y1 := kL8.cell 1
    simp only [List.getElem?_cons_zero, List.getElem?_cons_succ] at x0 x1 y0 y1
    have HB8 := hide hB8
    clear kX8 kL8 kT8 hX8 hL8 hB8 HT HF hC
    go_wp2
    go_ret
    exact ⟨rfl, HB8.out⟩
  · subst hC
    obtain ⟨b1, o1, lv1, rfl, p1, p2, p3, hA1, hM1⟩ := hL8.atP hk
    obtain ⟨b2, o2, lv2, rfl, p4, p5, p6, hA2, hM2⟩ := hX8.atP hj
    generalize l[k] = A at hA1 hM1 hG
    generalize X[j] = B at hA2 hM2 hG
    obtain ⟨An, Af, Ao, As, Al⟩ := A
    obtain ⟨Bn, Bf, Bo, Bs, Bl⟩ := B
    obtain ⟨bf, bn, bs, bm, hno, hbond, hunb, hpay⟩ := hG
    simp only at bf bn bs bm hno hbond hunb hpay ek ej
    subst hno
    obtain ⟨g0, g1, g2, g3, g4⟩ := hA1
    obtain ⟨f0, f1, f2, f3, f4⟩ := hA2
    obtain ⟨ax, cx, rfl⟩ := hM1.shape
    obtain ⟨bx, dx, rfl⟩ := hM2.shape
    simp only at g0 g1 g2 g3 g4 f0 f1 f2 f3 f4
    have hki : (k : Int) < (l.length : Int) := by omega
    have hji : (j : Int) < (X.length : Int) := by omega
    have HAt1 := hide (fun V (hV : Below w8.heap.size w8 V) => implAcctAt_any (.slice (some ⟨b1, o1, none⟩) l.length cv) l fm V (hL8.below hV (Nat.le_refl _)) (by omega))
    rw [ek] at HAt1
    have HAt2 := hide (fun V (hV : RdA V (.slice (some ⟨b2, o2, none⟩) X.length q4) X) => implAcctAt_any (.slice (some ⟨b2, o2, none⟩) X.length q4) X fm V hV (by omega))
    rw [ej] at HAt2
    have HOk := hide (fun V (hV : RdA V (.slice (some ⟨b2, o2, none⟩) X.length q4) X) => implLedgerOk_any e (.slice (some ⟨b2, o2, none⟩) X.length q4) X V hV (by omega) hXall)
    rw [hlg] at HOk
    simp only [lgV] at HOk
    have hw1 : IntKind.i64.wrap (Ao + 1) = Ao + 1 := by rw [IntKind.wrap_i64]; omega
    have hw2 : IntKind.i64.wrap (As + am) = As + am := by rw [IntKind.wrap_i64]; omega
    have hw3 : IntKind.i64.wrap (Af - am) = Af - am := by rw [IntKind.wrap_i64]; omega
    have hw4 : IntKind.i64.wrap (As - am) = As - am := by rw [IntKind.wrap_i64]; omega
    clear HT HF hXall hall hall4 hM1 hM2 ek ej hlg hlg0 hsm
    have HS1 : Hid (∀ V, Below w8.heap.size w8 V → (V.cell? ⟨w2.heap.size, 1, none⟩ = some (.slice (some ⟨b1, o1, none⟩) l.length cv) ∧ V.cell? ⟨w2.heap.size + 1, 1, none⟩ = some (.string fm) ∧ V.cell? ⟨b1, o1 + k * 5, none⟩ = some (.string An) ∧ V.cell? ⟨b1, o1 + k * 5 + 1, none⟩ = some (.int .i64 Af) ∧ V.cell? ⟨b1, o1 + k * 5 + 2, none⟩ = some (.int .i64 Ao) ∧ V.cell? ⟨b1, o1 + k * 5 + 3, none⟩ = some (.int .i64 As) ∧ V.cell? ⟨b1, o1 + k * 5 + 4, none⟩ = some (.slice ax Al.length cx))) := hide (fun V hv => ⟨(kL8.below hv kL8.lt).cell 1, (kT8.below hv kT8.lt).cell 1, (hv.cell (p := ⟨b1, o1 + k * 5, none⟩) p3).trans g0, (hv.cell (p := ⟨b1, o1 + k * 5 + 1, none⟩) p3).trans g1, (hv.cell (p := ⟨b1, o1 + k * 5 + 2, none⟩) p3).trans g2, (hv.cell (p := ⟨b1, o1 + k * 5 + 3, none⟩) p3).trans g3, (hv.cell (p := ⟨b1, o1 + k * 5 + 4, none⟩) p3).trans g4⟩)
    have bD1 : Below w8.heap.size w8 w8.drew := (Below.refl _ w8).drew
    have bE1 : Below w8.heap.size w8 (w8.alloc (.cells #[.string { data := #[] }, .int .i64 0, .int .i64 0, .int .i64 0, .slice none 0 0] 36)).drew := ((Below.refl _ w8).alloc (Nat.le_refl _) _).drew
    have nE1 : Blk (w8.alloc (.cells #[.string { data := #[] }, .int .i64 0, .int .i64 0, .int .i64 0, .slice none 0 0] 36)).drew w8.heap.size 36 [.string { data := #[] }, .int .i64 0, .int .i64 0, .int .i64 0, .slice none 0 0] := Blk.new w8 _ _
    go_upto_region 10 with fail
    go_cut [9] (fun sp wc => ∃ Ba : Nat, sp = .pointer (some ⟨Ba, 0, none⟩) ∧ Blk wc Ba 36 [.string An, .int .i64 Af, .int .i64 Ao, .int .i64 As, .slice ax Al.length cx] ∧ Below w8.heap.size w8 wc)
    case first =>
      go_region_held_law (fun w' => w'.cell? ⟨w2.heap.size, 1, none⟩ = some (.slice (some ⟨b1, o1, none⟩) l.length cv) ∧ w'.cell? ⟨w2.heap.size + 1, 1, none⟩ = some (.string fm) ∧ w'.cell? ⟨b1, o1 + k * 5, none⟩ = some (.string An) ∧ w'.cell? ⟨b1, o1 + k * 5 + 1, none⟩ = some (.int .i64 Af) ∧ w'.cell? ⟨b1, o1 + k * 5 + 2, none⟩ = some (.int .i64 Ao) ∧ w'.cell? ⟨b1, o1 + k * 5 + 3, none⟩ = some (.int .i64 As) ∧ w'.cell? ⟨b1, o1 + k * 5 + 4, none⟩ = some (.slice ax Al.length cx)) ((refine HS1.out _ ?_; repeat (first | with_reducible exact bD1 | with_reducible exact bE1 | with_reducible exact cc1 | with_reducible exact Below.refl _ _ | refine Below.drew ?_ | refine Below.alloc ?_ (by first | omega | (simp; done) | (simp; omega)) _ | refine Below.setCell ?_ (by first | omega | (simp; done)) _))) ((first
        | (go_at_call 10; (with_reducible refine (HAt1.out w8.drew bD1).mono ?_); rintro en u1 ⟨rfl, hu1⟩; have cc1 := bD1.trans (hu1.mono bD1.size); have zz1 := cc1.size)
        | (go_at_call 10; (with_reducible refine (HAt1.out (w8.alloc (.cells #[.string { data := #[] }, .int .i64 0, .int .i64 0, .int .i64 0, .slice none 0 0] 36)).drew bE1).mono ?_); rintro en u1 ⟨rfl, hu1⟩; have cc1 := bE1.trans (hu1.mono bE1.size); have zz1 := cc1.size; have nb1 := nE1.below hu1 nE1.lt; have n0 := nb1.cell 0; have n1 := nb1.cell 1; have n2 := nb1.cell 2; have n3 := nb1.cell 3; have n4 := nb1.cell 4; have m0 := nb1.frozen 0; have m1 := nb1.frozen 1; have m2 := nb1.frozen 2; have m3 := nb1.frozen 3; have m4 := nb1.frozen 4; simp only [List.getElem?_cons_zero, List.getElem?_cons_succ] at n0 n1 n2 n3 n4)))
      all_goals
        go_wp2_with fail
        go_meet
        case rel =>
          first
            | exact ⟨w8.heap.size, rfl, ((((nb1.setD 0 _ (by simp)).setD 1 _ (by simp)).setD 2 _ (by simp)).setD 3 _ (by simp)).setD 4 _ (by simp), cc1.trans (below_put5 u1 w8.heap.size _ _ _ _ _)⟩
            | exact ⟨u1.heap.size, rfl, Blk.new u1 _ _, cc1.alloc zz1 _⟩
    obtain ⟨w9, rfl⟩ : ∃ x, x = wc := ⟨_, rfl⟩
    obtain ⟨Ba1, rfl, kA1, bW1⟩ := hcut
    have kX9 := kX8.below bW1 kX8.lt
    have kT9 := kT8.below bW1 kT8.lt
    have hX9 := hX8.below bW1 (Nat.le_refl _)
    have hB9 := hB8.trans (bW1.mono hB8.size)
    have f90 := (bW1.cell (p := ⟨b2, o2 + j * 5, none⟩) p6).trans f0
    have f91 := (bW1.cell (p := ⟨b2, o2 + j * 5 + 1, none⟩) p6).trans f1
    have f92 := (bW1.cell (p := ⟨b2, o2 + j * 5 + 2, none⟩) p6).trans f2
    have f93 := (bW1.cell (p := ⟨b2, o2 + j * 5 + 3, none⟩) p6).trans f3
    have f94 := (bW1.cell (p := ⟨b2, o2 + j * 5 + 4, none⟩) p6).trans f4
    have p9 : b2 < w9.heap.size := Nat.lt_of_lt_of_le p6 bW1.size
    have HAt3 := hide (fun V (hV : Below w9.heap.size w9 V) => HAt2.out V (hX9.below hV (Nat.le_refl _)))
    have hAlt := kA1.lt
    clear kX8 kL8 kT8 hX8 hL8 hB8 bW1 f0 f1 f2 f3 f4 g0 g1 g2 g3 g4 HS1 bD1 bE1 nE1 HAt1 HAt2 p6
    have HS2 : Hid (∀ V, Below w9.heap.size w9 V → (V.cell? ⟨w4.heap.size, 1, none⟩ = some (.slice (some ⟨b2, o2, none⟩) X.length q4) ∧ V.cell? ⟨w2.heap.size + 1, 1, none⟩ = some (.string fm) ∧ V.cell? ⟨b2, o2 + j * 5, none⟩ = some (.string Bn) ∧ V.cell? ⟨b2, o2 + j * 5 + 1, none⟩ = some (.int .i64 Bf) ∧ V.cell? ⟨b2, o2 + j * 5 + 2, none⟩ = some (.int .i64 (Ao + 1)) ∧ V.cell? ⟨b2, o2 + j * 5 + 3, none⟩ = some (.int .i64 Bs) ∧ V.cell? ⟨b2, o2 + j * 5 + 4, none⟩ = some (.slice bx Bl.length dx))) := hide (fun V hv => ⟨(kX9.below hv kX9.lt).cell 1, (kT9.below hv kT9.lt).cell 1, (hv.cell (p := ⟨b2, o2 + j * 5, none⟩) p9).trans f90, (hv.cell (p := ⟨b2, o2 + j * 5 + 1, none⟩) p9).trans f91, (hv.cell (p := ⟨b2, o2 + j * 5 + 2, none⟩) p9).trans f92, (hv.cell (p := ⟨b2, o2 + j * 5 + 3, none⟩) p9).trans f93, (hv.cell (p := ⟨b2, o2 + j * 5 + 4, none⟩) p9).trans f94⟩)
    have bD2 : Below w9.heap.size w9 w9.drew := (Below.refl _ w9).drew
    have bE2 : Below w9.heap.size w9 (w9.alloc (.cells #[.string { data := #[] }, .int .i64 0, .int .i64 0, .int .i64 0, .slice none 0 0] 36)).drew := ((Below.refl _ w9).alloc (Nat.le_refl _) _).drew
    have nE2 : Blk (w9.alloc (.cells #[.string { data := #[] }, .int .i64 0, .int .i64 0, .int .i64 0, .slice none 0 0] 36)).drew w9.heap.size 36 [.string { data := #[] }, .int .i64 0, .int .i64 0, .int .i64 0, .slice none 0 0] := Blk.new w9 _ _
    go_upto_region 11 with fail
    go_cut [10] (fun sp wc => ∃ Ba : Nat, sp = .pointer (some ⟨Ba, 0, none⟩) ∧ Blk wc Ba 36 [.string Bn, .int .i64 Bf, .int .i64 (Ao + 1), .int .i64 Bs, .slice bx Bl.length dx] ∧ Below w9.heap.size w9 wc)
    case first =>
      go_region_held_law (fun w' => w'.cell? ⟨w4.heap.size, 1, none⟩ = some (.slice (some ⟨b2, o2, none⟩) X.length q4) ∧ w'.cell? ⟨w2.heap.size + 1, 1, none⟩ = some (.string fm) ∧ w'.cell? ⟨b2, o2 + j * 5, none⟩ = some (.string Bn) ∧ w'.cell? ⟨b2, o2 + j * 5 + 1, none⟩ = some (.int .i64 Bf) ∧ w'.cell? ⟨b2, o2 + j * 5 + 2, none⟩ = some (.int .i64 (Ao + 1)) ∧ w'.cell? ⟨b2, o2 + j * 5 + 3, none⟩ = some (.int .i64 Bs) ∧ w'.cell? ⟨b2, o2 + j * 5 + 4, none⟩ = some (.slice bx Bl.length dx)) ((refine HS2.out _ ?_; repeat (first | with_reducible exact bD2 | with_reducible exact bE2 | with_reducible exact cc2 | with_reducible exact Below.refl _ _ | refine Below.drew ?_ | refine Below.alloc ?_ (by first | omega | (simp; done) | (simp; omega)) _ | refine Below.setCell ?_ (by first | omega | (simp; done)) _))) ((first
        | (go_at_call 10; (with_reducible refine (HAt3.out w9.drew bD2).mono ?_); rintro en u2 ⟨rfl, hu2⟩; have cc2 := bD2.trans (hu2.mono bD2.size); have zz2 := cc2.size)
        | (go_at_call 10; (with_reducible refine (HAt3.out (w9.alloc (.cells #[.string { data := #[] }, .int .i64 0, .int .i64 0, .int .i64 0, .slice none 0 0] 36)).drew bE2).mono ?_); rintro en u2 ⟨rfl, hu2⟩; have cc2 := bE2.trans (hu2.mono bE2.size); have zz2 := cc2.size; have nb2 := nE2.below hu2 nE2.lt; have n0 := nb2.cell 0; have n1 := nb2.cell 1; have n2 := nb2.cell 2; have n3 := nb2.cell 3; have n4 := nb2.cell 4; have m0 := nb2.frozen 0; have m1 := nb2.frozen 1; have m2 := nb2.frozen 2; have m3 := nb2.frozen 3; have m4 := nb2.frozen 4; simp only [List.getElem?_cons_zero, List.getElem?_cons_succ] at n0 n1 n2 n3 n4)))
      all_goals
        go_wp2_with fail
        go_meet
        case rel =>
          first
            | exact ⟨w9.heap.size, rfl, ((((nb2.setD 0 _ (by simp)).setD 1 _ (by simp)).setD 2 _ (by simp)).setD 3 _ (by simp)).setD 4 _ (by simp), cc2.trans (below_put5 u2 w9.heap.size _ _ _ _ _)⟩
            | exact ⟨u2.heap.size, rfl, Blk.new u2 _ _, cc2.alloc zz2 _⟩
    obtain ⟨w10, rfl⟩ : ∃ x, x = wc := ⟨_, rfl⟩
    obtain ⟨Ba2, rfl, kA2, bW2⟩ := hcut
    have kX10 := kX9.below bW2 kX9.lt
    have kT10 := kT9.below bW2 kT9.lt
    have kA10 := kA1.below bW2 hAlt
    have hX10 := hX9.below bW2 (Nat.le_refl _)
    have HB10 := hide (hB9.trans (bW2.mono hB9.size))
    have HO10 := hide (HOk.out w10 hX10)
    have d0 := kT10.cell 0
    have d1 := kT10.cell 1
    have d2 := kT10.cell 2
    have d3 := kT10.cell 3
    have s1 := kA10.cell 1
    have s2 := kA10.cell 2
    have s3 := kA10.cell 3
    have r1 := kA2.cell 1
    have r2 := kA2.cell 2
    have r3 := kA2.cell 3
    have x0 := kX10.cell 0
    have x1 := kX10.cell 1
    simp only [List.getElem?_cons_zero, List.getElem?_cons_succ] at d0 d1 d2 d3 s1 s2 s3 r1 r2 r3 x0 x1
    clear kX9 kT9 hX9 hB9 bW2 kX10 kT10 kA10 kA1 kA2 hX10 f90 f91 f92 f93 f94 HS2 bD2 bE2 nE2 HAt3 HOk p9
    by_cases h2 : kd = 2
    · obtain ⟨rfl, rfl⟩ := hbond h2
      subst h2
      clear hbond hunb hpay
      go_wp2_with fail
      refine HO10.out.mono ?_
      rintro en w11 ⟨rfl, hb11⟩
      have HB11 := hide (HB10.out.trans (hb11.mono HB10.out.size))
      clear d0 d1 d2 d3 s1 s2 s3 r1 r2 r3 x0 x1 hb11
      go_wp2
      go_ret
      exact ⟨rfl, HB11.out⟩
    · have h2b : (kd == 2) = false := by rw [beq_eq_false_iff_ne]; exact h2
      by_cases h3 : kd = 3
      · obtain ⟨rfl, rfl⟩ := hunb h3
        subst h3
        clear hbond hunb hpay h2
        go_wp2_with fail
        refine HO10.out.mono ?_
        rintro en w11 ⟨rfl, hb11⟩
        have HB11 := hide (HB10.out.trans (hb11.mono HB10.out.size))
        clear d0 d1 d2 d3 s1 s2 s3 r1 r2 r3 x0 x1 hb11
        go_wp2
        go_ret
        exact ⟨rfl, HB11.out⟩
      · have h3b : (kd == 3) = false := by rw [beq_eq_false_iff_ne]; exact h3
        obtain ⟨hp1, rfl⟩ := hpay h2 h3
        clear hbond hunb hpay h2 h3
        by_cases h4 : tn = fm
        · subst h4
          clear hp1
          go_wp2_with fail
          refine HO10.out.mono ?_
          rintro en w11 ⟨rfl, hb11⟩
          have HB11 := hide (HB10.out.trans (hb11.mono HB10.out.size))
          clear d0 d1 d2 d3 s1 s2 s3 r1 r2 r3 x0 x1 hb11
          go_wp2
          go_ret
          exact ⟨rfl, HB11.out⟩
        · have e1 := hp1 h4
          subst e1
          have h4b := bytes_ne h4
          clear hp1 h4
          go_wp2_with fail
          refine HO10.out.mono ?_
          rintro en w11 ⟨rfl, hb11⟩
          have HB11 := hide (HB10.out.trans (hb11.mono HB10.out.size))
          clear d0 d1 d2 d3 s1 s2 s3 r1 r2 r3 x0 x1 hb11
          go_wp2
          go_ret
          exact ⟨rfl, HB11.out⟩

theorem fnApplied_met (os : Os) (args : Array Value) : laidMetH Tryz.prog Rows.fnAppliedRow.laid ((laidWorld os).forCall (fun _ _ => 0) ⟨#[], args, []⟩).memory :=
  laidMetH_of_parts (laidMet_nil _ _) (by kernel_rfl)
theorem fnApplied_gh {W : World} (h : laidMetH Tryz.prog Rows.fnAppliedRow.laid W) : Gh W := by
  have h' : laidMet Tryz.prog [] W ∧ handlesMet Tryz.prog Rows.fnAppliedRow.laid W := h
  exact gh_of_handles h'.2

set_option maxRecDepth 100000 in
theorem fnApplied_lifted (os : Os) (started : os.Started) (H : Type) (enc : TypeId × Value → H) :
    ReturnsInHanded {} Tryz.checked os 3 .any (fun w args => (Rows.fnAppliedSpec.pre enc Tryz.prog Tryz.f3 [] false w args ∧ laidMetH Tryz.prog Rows.fnAppliedRow.laid w) ∧ sizedMet enc Tryz.prog Tryz.f3 (OpenSpec.ofChange Rows.fnAppliedSpec) false w args)
      (Rows.fnAppliedSpec.post enc Tryz.prog Tryz.f3 false true false false) := by
  refine returnsInHanded_of_change_and (C := Tryz.checked) (X := fun w _ => laidMetH Tryz.prog Rows.fnAppliedRow.laid w) (fun _ _ _ hh h => h.of_heap hh) fnApplied_own started (by kernel_rfl) Tryz.func3
    (ChangeSpec.witness_at (enc := enc) (C := Tryz.checked) (os := os) (X := fun w _ => laidMetH Tryz.prog Rows.fnAppliedRow.laid w) false (laidWorld os) #[.slice none 0 0] 8 rfl (by kernel_rfl) (by kernel_rfl) (by kernel_rfl) (by kernel_rfl) (by kernel_rfl) (fnApplied_met os _)) ?_
  intro W base args ds gs before hval0 hW _ _ hL _
  have hval : ∀ (j : Nat) t v, Tryz.f3.params[j]? = some t → args[j]? = some v → Value.okWide Tryz.prog W .any base t v := hval0
  have hW' := hW
  obtain ⟨p, q, hA0, hV0, rfl, hfz, hnd⟩ := hW
  have hV : DataW.TrodVars enc Tryz.prog W (fun _ => true) [] gs q := hV0
  obtain ⟨rfl, rfl⟩ : gs = [] ∧ q = [] := by
    cases gs with
    | nil => exact ⟨rfl, hV⟩
    | cons g r => exact absurd hV (by intro h; cases h)
  have hA : DataW.TrodAll enc Tryz.prog W 0 (fun _ => true) true Tryz.f3.params.toList args.toList ds p := hA0
  rw [Tryz.params3] at hA hval
  obtain ⟨v0, vs0, d0, ds0, p0, q0, hargs, rfl, rfl, h0, r0⟩ := trodAll_cons hA
  obtain ⟨rfl, rfl, rfl⟩ := trodAll_nil r0
  obtain rfl : args = #[v0] := by cases args; simp_all
  obtain ⟨a0, len0, cap0, rfl⟩ := okWide_slice Tryz.underlying22 (hval 0 22 v0 rfl rfl)
  have k0 := h0
  have lt0 : ∀ x ∈ p0, x.block < W.heap.size := by obtain ⟨m, hm⟩ := k0; exact DataW.trod_lt m _ _ _ hm
  obtain ⟨z0, w0⟩ : ∃ zs, IsRow .u8 W a0 len0 cap0 zs := by
    obtain ⟨fuel, hf⟩ := h0
    rcases open_ints Tryz.underlying22 Tryz.underlying5 (by kernel_rfl) hf with ⟨hcs, _⟩ | ⟨x, l, c, zs, hcs, _, hl, hm, hz, _, hcell, hwz⟩
    · simp [Value.cells] at hcs
      obtain ⟨rfl, rfl, rfl⟩ := hcs
      exact ⟨[], .inl ⟨rfl, rfl, rfl, rfl⟩⟩
    · simp [Value.cells] at hcs
      obtain ⟨rfl, rfl, rfl⟩ := hcs
      exact ⟨zs, .inr ⟨_, rfl, hl, hm, by simpa using hz, hcell, hwz⟩⟩
  clear hA0 hval0
  refine (fnApplied_walk a0 len0 cap0 z0 W (fnApplied_gh hL) w0).mono fun e W' ⟨he, bel⟩ => ?_
  subst he
  exact ⟨_, rfl, _, _, _, [], _, [], hW', trodAll_mk1 (shut_bool Tryz.underlying4 _), (trodAll_cons_mk (Below.trod fnApplied_laidOut (by kernel_rfl) (of_decide_eq_true (by kernel_rfl)) k0 bel lt0) trodAll_mk0), rfl, bel.frame _, fun h => by cases h⟩

theorem fnApplied_holds : Rows.FnAppliedSaid :=
  OpenClaim.holds_of_wide 3 Tryz.f3 rfl rfl rfl rfl rfl rfl rfl ⟨rfl, rfl, rfl, rfl, rfl⟩ rfl rfl rfl rfl rfl (by kernel_rfl) Tryz.func3 (by kernel_rfl)
    (of_decide_eq_true (by kernel_rfl)) (by unfold Func.isWrapper; first | (rw [if_pos (by decide +kernel)]; kernel_rfl) | (rw [if_neg (by decide +kernel)]; exact ⟨rfl, rfl⟩))
    (fun os started H enc _ => fnApplied_lifted os started H enc)

/-- The card: the variable is tied to the program's text by the given tie. -/
theorem fnApplied_card : Rows.FnAppliedCardSaid :=
  Claim7.holds_tied_plain_at .later [] [.handle] true Rows.fnAppliedCard.stood.harness true
    fnApplied_holds (fun _ h => by cases h) (by kernel_rfl) (fun _ h => by cases h) fnApplied_row_tie rfl ⟨rfl, rfl⟩ (by kernel_rfl) rfl
    (fun f fn hf hfn => by
      obtain rfl : f = 3 := Option.some.inj ((show Tryz.prog.funcNamed Rows.fnAppliedRow.func = some 3 by kernel_rfl).symm.trans hf) |>.symm
      obtain rfl : fn = Tryz.f3 := (Option.some.inj (Tryz.func3.symm.trans hfn)).symm
      exact ⟨by kernel_rfl, fun j t ht => by
        rw [Tryz.params3] at ht
        have hm : t ∈ [22] := by simpa using Array.mem_of_getElem? ht
        have hall : ([22].all fun u => !Tryz.prog.wantsStandIn u) = true := by kernel_rfl
        exact (show Tryz.prog.wantsStandIn t = false by simpa using List.all_eq_true.1 hall t hm)⟩)
    (by kernel_rfl)

end Go.Proofs.YtdelegamcebflaaGreatDoor
