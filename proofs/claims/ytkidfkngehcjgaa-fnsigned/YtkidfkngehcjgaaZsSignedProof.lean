/- A drawn word is signed just if each of its signatures is in the table, or of a foul one: the law FnSigned returns true at every code, with no condition. -/
import Derived.Test.YtkidfkngehcjgaaRows
import Derived.Test.YtkidfkngehcjgaaZsRow
import Derived.Test.YtkidfkngehcjgaaZsStrs
import Derived.Test.YtkidfkngehcjgaaZsDrawSg
import Derived.Test.YtkidfkngehcjgaaZsSgSgn
import Derived.Test.YtkidfkngehcjgaaZsVsLaw
import Derived.WalkKit
import Derived.ProofKit
import Derived.OpenShut
import Derived.ShutString
import Derived.ChangeOld
import Derived.Below
import Derived.SliceStrings
namespace Go.Proofs.Ytkidfkngehcjgaa
open Go.ChangeShapes Go.WideShapes Go.ChangeAt Go.RowKit
open Go.ChangeMaps (open_string shut_string)
set_option linter.unusedVariables false

theorem fnSigned_own : ownKnob Try.prog.godebug = none := by kernel_rfl
theorem fnSigned_laidOut : laidOutB Try.prog = true := by kernel_rfl

theorem sgn_all {L : List Sg} {foul : List ByteArray} : sdB L foul L = true := by
  unfold sdB
  rw [List.all_eq_true]
  intro s hs
  unfold okS
  rw [inS_mem.2 hs, Bool.true_or]
theorem sgn_has {table L : List Sg} {foul : List ByteArray} (h : sdB table foul L = true) {s : Sg} (hs : s ∈ L) : (hasN foul s.2.2.2.2 || inS table s) = true := by
  unfold sdB at h
  rw [List.all_eq_true] at h
  have := h s hs
  unfold okS at this
  rw [Bool.or_comm]
  exact this
theorem inS_snoc {l : List Sg} {s : Sg} {k : Nat} (hk : k < l.length) : inS (l.take (k + 1)) s = (inS (l.take k) s || decide (l[k] = s)) := by
  unfold inS
  rw [List.take_succ_eq_append_getElem hk, List.any_append]
  simp
set_option maxRecDepth 20000 in
set_option maxHeartbeats 8000000 in
theorem fnSigned_walk (a0 : Option Addr) (len0 cap0 : Nat) (z0 : List Int) (w : World) (w0 : IsRow .u8 w a0 len0 cap0 z0) :
    Calls Try.prog 3 #[.slice a0 len0 cap0] w fun e w' => e = .returned (.bool true) ∧ Below w.heap.size w w' := by
  obtain ⟨cd, rfl, hr⟩ := w0.rd
  clear w0
  have hcap : cd.length ≤ 9223372036854775807 := by
    rcases hr with ⟨_, _, _, e, _⟩ | ⟨_, _, cap, _, _, h1, h2, _⟩
    · subst e; simp
    · unfold maxLen at h2; omega
  have Hbig := hide (big_any _ cd w hr hcap)
  by_cases hbig : 1048576 < cd.length
  · rw [decide_eq_true hbig] at Hbig
    clear hr
    go_enter Try.func3, Try.ntmps3
    go_wp2_with fail
    refine Hbig.out.mono ?_
    rintro e w' ⟨rfl, rfl⟩
    go_wp2
    go_ret
    exact ⟨rfl, Below.refl _ _⟩
  rw [decide_eq_false hbig] at Hbig
  have HD := hide (drawSigned_any w _ cd hr (by omega))
  clear hr hcap hbig
  go_enter Try.func3, Try.ntmps3
  go_wp2_with fail
  refine Hbig.out.mono ?_
  rintro e w1 ⟨rfl, rfl⟩
  clear Hbig
  go_wp2_with fail
  refine HD.out.mono ?_
  rintro e w2 ⟨vt, vf, table, foul, m, v, rfl, hrt, hrf, hrm, hF, hin, htl, hfl, hb2⟩
  obtain ⟨at_, ct, rfl⟩ := hrt.shape
  obtain ⟨af, cf, rfl⟩ := hrf.shape
  obtain ⟨vb, vq, vw, vh⟩ := v
  obtain ⟨ab, cb, hvb⟩ := hrm.b.shape
  obtain ⟨aq, cq, hvq⟩ := hrm.q.shape
  obtain ⟨aw, cw, hvw⟩ := hrm.p.shape
  obtain ⟨ah, ch, hvh⟩ := hrm.h.shape
  simp only at hvb hvq hvw hvh
  subst hvb hvq hvw hvh
  simp only [mgV]
  obtain ⟨w3, hw3⟩ : ∃ x, w2.alloc (.cells #[.int .i64 m.kd, .string m.tn, .int .i64 m.ep, .slice ab m.bs.length cb, .int .i64 m.vr, .int .i64 m.vb, .string m.vw, .int .i64 m.gr, .int .i64 m.gh, .string m.gw, .int .i64 m.qr, .int .i64 m.qb, .slice aq m.qw.length cq, .int .i64 m.tr, .slice aw m.tw.length cw, .slice ah m.th.length ch] 37) = x := ⟨_, rfl⟩
  have b3 : Below w2.heap.size w2 w3 := by rw [← hw3]; exact (Below.refl _ w2).alloc (Nat.le_refl _) _
  have K3 : Hid (Blk w3 w2.heap.size 37 [.int .i64 m.kd, .string m.tn, .int .i64 m.ep, .slice ab m.bs.length cb, .int .i64 m.vr, .int .i64 m.vb, .string m.vw, .int .i64 m.gr, .int .i64 m.gh, .string m.gw, .int .i64 m.qr, .int .i64 m.qb, .slice aq m.qw.length cq, .int .i64 m.tr, .slice aw m.tw.length cw, .slice ah m.th.length ch]) := hide (by rw [← hw3]; exact Blk.new w2 _ _)
  have B3 := hide b3
  have HB2 := hide hb2
  have two := fc_two hF
  have hqt : m.qw.length ≤ 1000 ∧ m.tw.length ≤ 1000 := ⟨hF.q.1, hF.t.1⟩
  have hwb : ∀ b ∈ m.bs, b.tw.length ≤ b.th.length := fun b hb => (hF.bk b hb).wt
  have wf := sgS_wf hF
  have hsw : ∀ s ∈ siS m, WfS s := by rw [siS_same hF]; exact wf
  have HI := hide (fun V (hV : Below w2.heap.size w2 V) => (siS_same hF) ▸ implSigs_any m ⟨.slice ab m.bs.length cb, .slice aq m.qw.length cq, .slice aw m.tw.length cw, .slice ah m.th.length ch⟩ V (hrm.below hV (Nat.le_refl _)) hF.bl hqt two hF.wt hwb)
  have HA := hide (fun V (hV : Below w2.heap.size w2 V) => (siS_same hF) ▸ implSigned_any _ _ table foul m ⟨.slice ab m.bs.length cb, .slice aq m.qw.length cq, .slice aw m.tw.length cw, .slice ah m.th.length ch⟩ V (hrt.below hV (Nat.le_refl _)) (hrf.below hV (Nat.le_refl _)) htl (by omega) (fun s hs => wf s (hin s hs)) hsw (hrm.below hV (Nat.le_refl _)) hF.bl hqt two hF.wt hwb)
  have HS := hide (fun V (hV : Below w2.heap.size w2 V) => specSigned_any _ _ table foul m ⟨.slice ab m.bs.length cb, .slice aq m.qw.length cq, .slice aw m.tw.length cw, .slice ah m.th.length ch⟩ V (hrt.below hV (Nat.le_refl _)) (hrf.below hV (Nat.le_refl _)) htl (by omega) (hrm.below hV (Nat.le_refl _)) hF.bl hqt two)
  have hLl := sgS_len m hF.bl hqt two
  have HW := hide (fun V (hV : Below w2.heap.size w2 V) x (hx : RdSg V x (sgS m)) => (siS_same hF) ▸ implSigned_any x _ (sgS m) foul m ⟨.slice ab m.bs.length cb, .slice aq m.qw.length cq, .slice aw m.tw.length cw, .slice ah m.th.length ch⟩ V hx (hrf.below hV (Nat.le_refl _)) hLl (by omega) wf hsw (hrm.below hV (Nat.le_refl _)) hF.bl hqt two hF.wt hwb)
  have HG := hide (fun V (hV : Below w2.heap.size w2 V) => specSigs_any m ⟨.slice ab m.bs.length cb, .slice aq m.qw.length cq, .slice aw m.tw.length cw, .slice ah m.th.length ch⟩ V (hrm.below hV (Nat.le_refl _)) hF.bl hqt two)
  have HRf := hide (fun V (hV : Below w2.heap.size w2 V) => hrf.below hV (Nat.le_refl _))
  have HRt := hide (fun V (hV : Below w2.heap.size w2 V) => hrt.below hV (Nat.le_refl _))
  clear hrt hrf hrm hF hin two hqt hwb wf hsw hb2 b3 HD
  simp only [mgV] at HI HA HS HW HG
  generalize sgS m = L at HI HA HS HW HG hLl
  simp only [sgn_all] at HW
  have HLen : Hid (∀ V x, RdSg V x L → ∃ a c, x = .slice a L.length c) := hide (fun V x h => h.shape)
  have Hhas := hide (fun (h : sdB table foul L = true) (s : Sg) (hs : s ∈ L) => sgn_has h hs)
  generalize sdB table foul L = OK at HA HS Hhas
  have hfl4 : foul.length ≤ 4000000 := by omega
  go_upto_region 4 with fail
  obtain ⟨M, hM⟩ : ∃ M, Value.agg #[.int .i64 m.kd, .string m.tn, .int .i64 m.ep, .slice ab m.bs.length cb, .int .i64 m.vr, .int .i64 m.vb, .string m.vw, .int .i64 m.gr, .int .i64 m.gh, .string m.gw, .int .i64 m.qr, .int .i64 m.qb, .slice aq m.qw.length cq, .int .i64 m.tr, .slice aw m.tw.length cw, .slice ah m.th.length ch] = M := ⟨_, rfl⟩
  rw [hM] at HI HA HS HW HG
  go_wp2_with (first | (refine loadS_mg _ rfl w2.heap.size rfl K3.out hM (by rfl) ?_) | fail)
  refine (HI.out w3 B3.out).mono ?_
  rintro e w4 ⟨v4, rfl, o4, hb4⟩
  obtain ⟨a4, c4, hv4⟩ := HLen.out _ _ o4.rd
  subst hv4
  have B4 := hide (B3.out.trans (hb4.mono B3.out.size))
  have K4 := hide (K3.out.below hb4 K3.out.lt)
  have O4 := hide o4.rd
  clear o4 hb4 HI K3
  go_wp2_with (first | (refine loadS_mg _ rfl w2.heap.size rfl K4.out hM (by rfl) ?_) | fail)
  refine (HA.out w4 B4.out).mono ?_
  rintro e w5 ⟨rfl, hb5⟩
  have B5 := hide (B4.out.trans (hb5.mono B4.out.size))
  have K5 := hide (K4.out.below hb5 K4.out.lt)
  have O5 := hide (O4.out.below hb5 (Nat.le_refl _))
  clear hb5 HA K4 O4
  go_wp2_with (first | (refine loadS_mg _ rfl w2.heap.size rfl K5.out hM (by rfl) ?_) | fail)
  refine (HS.out w5 B5.out).mono ?_
  rintro e w6 ⟨rfl, hb6⟩
  have B6 := hide (B5.out.trans (hb6.mono B5.out.size))
  have K6 := hide (K5.out.below hb6 K5.out.lt)
  have O6 := hide (O5.out.below hb6 (Nat.le_refl _))
  have hOK : (OK != OK) = false := by simp
  clear hb6 HS K5 O5
  go_wp2_with (first | (refine loadS_mg _ rfl w2.heap.size rfl K6.out hM (by rfl) ?_) | fail)
  refine (HW.out w6 B6.out _ O6.out).mono ?_
  rintro e w7 ⟨rfl, hb7⟩
  have B7 := hide (B6.out.trans (hb7.mono B6.out.size))
  have K7 := hide (K6.out.below hb7 K6.out.lt)
  have O7 := hide (O6.out.below hb7 (Nat.le_refl _))
  clear hb7 HW K6 O6
  go_wp2_with (first | (refine loadS_mg _ rfl w2.heap.size rfl K7.out hM (by rfl) ?_) | fail)
  refine (HG.out w7 B7.out).mono ?_
  rintro e w8 ⟨v8, rfl, o8, hb8⟩
  obtain ⟨a8, c8, hv8⟩ := HLen.out _ _ o8.rd
  subst hv8
  have B8 := hide (B7.out.trans (hb8.mono B7.out.size))
  have O8 := hide (O7.out.below hb8 (Nat.le_refl _))
  clear o8 hb8 HG K7 O7 HLen hM
  go_wp2
  go_loopw [8] (fun iv wr => ∃ i : Nat, i ≤ L.length ∧ iv = .int .i64 (i : Int) ∧ Below w8.heap.size w8 wr) (fun iv _ => L.length - (intOf iv).toNat)
  case atStart => exact ⟨0, Nat.zero_le _, rfl, Below.refl _ _⟩
  case round =>
    obtain ⟨i, hi, rfl, hb⟩ := hrel
    obtain ⟨w9, rfl⟩ : ∃ x, x = wr := ⟨_, rfl⟩
    have hB : Below w2.heap.size w2 w9 := B8.out.trans (hb.mono B8.out.size)
    by_cases hlt : i < L.length
    · have hli : (i : Int) < (L.length : Int) := by omega
      have Hm : Hid (OK = true → (hasN foul L[i].2.2.2.2 || inS table L[i]) = true) := hide (fun h => Hhas.out h _ (List.getElem_mem hlt))
      obtain ⟨bn, on, rfl, hc1, hc2, hbn, hat⟩ := (O8.out.below hb (Nat.le_refl _)).at hlt
      generalize L[i] = s at hat Hm
      have HF := hide (lawAmong_any _ foul s.2.2.2.2 w9 (HRf.out w9 hB) hfl4)
      have Hat := hide hat
      obtain ⟨y0, y1, y2, y3, y4⟩ := s
      simp only at HF Hm hat
      generalize hasN foul y4 = FO at HF Hm
      have d4 := hat.c4
      simp only at d4
      have Hb := hide hb
      have HB := hide hB
      clear hat hb hB
      go_wp2_with fail
      refine HF.out.mono ?_
      rintro e wA ⟨rfl, hbA⟩
      have BA := hide (Hb.out.trans (hbA.mono Hb.out.size))
      have HTA := hide (HRt.out wA (HB.out.trans (hbA.mono HB.out.size)))
      have HatA := hide (Hat.out.below hbA hbn)
      have hbn2 : bn < wA.heap.size := by have := hbA.size; omega
      clear hbA HF Hat d4
      go_wp2
      go_loopw [9, 10] (fun hv kv wr => ∃ k : Nat, k ≤ table.length ∧ kv = .int .i64 (k : Int) ∧ hv = .bool (FO || inS (table.take k) (y0, y1, y2, y3, y4)) ∧ Below wA.heap.size wA wr) (fun _ kv _ => table.length - (intOf kv).toNat)
      case atStart => exact ⟨0, Nat.zero_le _, rfl, by simp [inS], Below.refl _ _⟩
      case round =>
        obtain ⟨k, hk, rfl, rfl, hq⟩ := hrel
        by_cases hkl : k < table.length
        · obtain ⟨bv, ov, rfl, hv1, hv2, hbv, hat⟩ := HTA.out.at hkl
          have hki : (k : Int) < (table.length : Int) := by omega
          obtain ⟨t0, t1, t2, t3, t4⟩ := hat.below hq hbv
          obtain ⟨u0, u1, u2, u3, u4⟩ := HatA.out.below hq hbn2
          have Hs0 := hide (inS_snoc (s := (y0, y1, y2, y3, y4)) hkl)
          generalize table[k] = t at t0 t1 t2 t3 t4 Hs0 hat
          obtain ⟨x0, x1, x2, x3, x4⟩ := t
          simp only at t0 t1 t2 t3 t4 u0 u1 u2 u3 u4
          have g0 := cell_regrown t0
          have g1 := cell_regrown t1
          have g2 := cell_regrown t2
          have g3 := cell_regrown t3
          have g4 := cell_regrown t4
          have i0 := cell_regrown u0
          have i1 := cell_regrown u1
          have i2 := cell_regrown u2
          have i3 := cell_regrown u3
          have i4 := cell_regrown u4
          clear t0 t1 t2 t3 t4 u0 u1 u2 u3 u4 hat
          have Hsn : Hid ((FO || inS (table.take (k + 1)) (y0, y1, y2, y3, y4)) = ((FO || inS (table.take k) (y0, y1, y2, y3, y4)) || decide ((x0, x1, x2, x3, x4) = (y0, y1, y2, y3, y4)))) := hide (by rw [Hs0.out, Bool.or_assoc])
          clear Hs0
          generalize (FO || inS (table.take k) (y0, y1, y2, y3, y4)) = D at Hsn ⊢
          have Hq := hide hq
          clear hq
          cases D
          · rw [Bool.false_or] at Hsn
            by_cases h0 : x0 = y0
            · subst h0
              by_cases h1 : x1 = y1
              · subst h1
                by_cases h2 : x2 = y2
                · subst h2
                  by_cases h3 : x3 = y3
                  · subst h3
                    by_cases h4 : x4 = y4
                    · subst h4
                      rw [decide_eq_true rfl] at Hsn
                      go_wp2
                      refine wp_region_quiet_below (by kernel_rfl) (by kernel_rfl) ?_
                      repeat (go_big_quiet_step (fail))
                      refine wpQuiet_nil ?_
                      intro _ hw'
                      obtain ⟨⟨dq, osq⟩, hw''⟩ := hw'
                      subst hw''
                      go_wp2
                      go_roundw
                      case rel => exact ⟨k + 1, by omega, by go_num, by rw [Hsn.out], Hq.out.trans ((below_regrown wr dq osq).mono Hq.out.size)⟩
                      case measure => simp [intOf]; omega
                    · rw [decide_eq_false (by intro e; simp only [Prod.mk.injEq] at e; exact h4 e.2.2.2.2)] at Hsn
                      have hD := bytesS_ne h4
                      clear h4
                      go_wp2
                      refine wp_region_quiet_below (by kernel_rfl) (by kernel_rfl) ?_
                      repeat (go_big_quiet_step (fail))
                      refine wpQuiet_nil ?_
                      intro _ hw'
                      obtain ⟨⟨dq, osq⟩, hw''⟩ := hw'
                      subst hw''
                      go_wp2
                      go_roundw
                      case rel => exact ⟨k + 1, by omega, by go_num, by rw [Hsn.out], Hq.out.trans ((below_regrown wr dq osq).mono Hq.out.size)⟩
                      case measure => simp [intOf]; omega
                  · rw [decide_eq_false (by intro e; simp only [Prod.mk.injEq] at e; exact h3 e.2.2.2.1)] at Hsn
                    have hD : (x3 == y3) = false := by rw [beq_eq_false_iff_ne]; exact h3
                    have hE := intS_ne h3
                    clear h3
                    go_wp2
                    refine wp_region_quiet_below (by kernel_rfl) (by kernel_rfl) ?_
                    repeat (go_big_quiet_step (fail))
                    refine wpQuiet_nil ?_
                    intro _ hw'
                    obtain ⟨⟨dq, osq⟩, hw''⟩ := hw'
                    subst hw''
                    go_wp2
                    go_roundw
                    case rel => exact ⟨k + 1, by omega, by go_num, by rw [Hsn.out], Hq.out.trans ((below_regrown wr dq osq).mono Hq.out.size)⟩
                    case measure => simp [intOf]; omega
                · rw [decide_eq_false (by intro e; simp only [Prod.mk.injEq] at e; exact h2 e.2.2.1)] at Hsn
                  have hD : (x2 == y2) = false := by rw [beq_eq_false_iff_ne]; exact h2
                  have hE := intS_ne h2
                  clear h2
                  go_wp2
                  refine wp_region_quiet_below (by kernel_rfl) (by kernel_rfl) ?_
                  repeat (go_big_quiet_step (fail))
                  refine wpQuiet_nil ?_
                  intro _ hw'
                  obtain ⟨⟨dq, osq⟩, hw''⟩ := hw'
                  subst hw''
                  go_wp2
                  go_roundw
                  case rel => exact ⟨k + 1, by omega, by go_num, by rw [Hsn.out], Hq.out.trans ((below_regrown wr dq osq).mono Hq.out.size)⟩
                  case measure => simp [intOf]; omega
              · rw [decide_eq_false (by intro e; simp only [Prod.mk.injEq] at e; exact h1 e.2.1)] at Hsn
                have hD : (x1 == y1) = false := by rw [beq_eq_false_iff_ne]; exact h1
                have hE := intS_ne h1
                clear h1
                go_wp2
                refine wp_region_quiet_below (by kernel_rfl) (by kernel_rfl) ?_
                repeat (go_big_quiet_step (fail))
                refine wpQuiet_nil ?_
                intro _ hw'
                obtain ⟨⟨dq, osq⟩, hw''⟩ := hw'
                subst hw''
                go_wp2
                go_roundw
                case rel => exact ⟨k + 1, by omega, by go_num, by rw [Hsn.out], Hq.out.trans ((below_regrown wr dq osq).mono Hq.out.size)⟩
                case measure => simp [intOf]; omega
            · rw [decide_eq_false (by intro e; simp only [Prod.mk.injEq] at e; exact h0 e.1)] at Hsn
              have hD : (x0 == y0) = false := by rw [beq_eq_false_iff_ne]; exact h0
              have hE := intS_ne h0
              clear h0
              go_wp2
              refine wp_region_quiet_below (by kernel_rfl) (by kernel_rfl) ?_
              repeat (go_big_quiet_step (fail))
              refine wpQuiet_nil ?_
              intro _ hw'
              obtain ⟨⟨dq, osq⟩, hw''⟩ := hw'
              subst hw''
              go_wp2
              go_roundw
              case rel => exact ⟨k + 1, by omega, by go_num, by rw [Hsn.out], Hq.out.trans ((below_regrown wr dq osq).mono Hq.out.size)⟩
              case measure => simp [intOf]; omega
          · rw [Bool.true_or] at Hsn
            go_wp2
            refine wp_region_quiet_below (by kernel_rfl) (by kernel_rfl) ?_
            repeat (go_big_quiet_step (fail))
            refine wpQuiet_nil ?_
            intro _ hw'
            obtain ⟨⟨dq, osq⟩, hw''⟩ := hw'
            subst hw''
            go_wp2
            go_roundw
            case rel => exact ⟨k + 1, by omega, by go_num, by rw [Hsn.out], Hq.out.trans ((below_regrown wr dq osq).mono Hq.out.size)⟩
            case measure => simp [intOf]; omega
        · have e : k = table.length := by omega
          subst e
          rw [List.take_length]
          have BB := hide (BA.out.trans (hq.mono BA.out.size))
          clear hq
          cases OK
          · go_wp2
            go_roundw
            case rel => exact ⟨i + 1, by omega, by go_num, BB.out⟩
            case measure => simp [intOf]; omega
          · have hT := Hm.out rfl
            rw [hT]
            clear hT
            go_wp2
            go_roundw
            case rel => exact ⟨i + 1, by omega, by go_num, BB.out⟩
            case measure => simp [intOf]; omega
    · have hli : ¬ (i : Int) < (L.length : Int) := by omega
      have HB := hide hB
      clear hb hB
      go_wp2
      go_ret
      exact ⟨rfl, HB2.out.trans (HB.out.mono HB2.out.size)⟩

set_option maxRecDepth 100000 in
theorem fnSigned_lifted (os : Os) (started : os.Started) (H : Type) (enc : TypeId × Value → H) :
    ReturnsInHanded {} Try.checked os 3 .any (Rows.fnSignedSpec.pre6 enc Try.prog Try.f3 Rows.fnSignedRow.domain false) (Rows.fnSignedSpec.post enc Try.prog Try.f3 false true false false) := by
  refine returnsInHanded_of_change (C := Try.checked) fnSigned_own started (by kernel_rfl) Try.func3
    (ChangeSpec.witness6 (enc := enc) (C := Try.checked) false ⟨#[], #[.slice none 0 0], []⟩ 8 (by kernel_rfl) (by kernel_rfl) (by kernel_rfl) (by kernel_rfl)) ?_
  intro W base args ds gs before hval0 hW hcnd _
  have hval : ∀ (j : Nat) t v, Try.f3.params[j]? = some t → args[j]? = some v → Value.okWide Try.prog W .any base t v := hval0
  have hW' := hW
  obtain ⟨p, q, hA0, hV, rfl, hfz, hnd⟩ := hW
  have hA : DataW.TrodAll enc Try.prog W 0 (fun _ => true) true Try.f3.params.toList args.toList ds p := hA0
  rw [Try.params3] at hA hval
  obtain ⟨v0, vs0, d0, ds0, p0, q0, hargs, rfl, rfl, h0, r0⟩ := trodAll_cons hA
  obtain ⟨rfl, rfl, rfl⟩ := trodAll_nil r0
  obtain rfl : args = #[v0] := by cases args; simp_all
  obtain ⟨rfl, rfl⟩ := trodVars_none hV
  obtain ⟨a0, len0, cap0, rfl⟩ := okWide_slice Try.underlying22 (hval 0 22 v0 rfl rfl)
  have k0 := h0
  have lt0 : ∀ x ∈ p0, x.block < W.heap.size := by obtain ⟨m, hm⟩ := k0; exact DataW.trod_lt m _ _ _ hm
  obtain ⟨z0, w0⟩ : ∃ zs, IsRow .u8 W a0 len0 cap0 zs := by
    obtain ⟨fuel, hf⟩ := h0
    rcases open_ints Try.underlying22 Try.underlying5 (by kernel_rfl) hf with ⟨hcs, _⟩ | ⟨x, l, c, zs, hcs, _, hl, hm, hz, _, hcell, hwz⟩
    · simp [Value.cells] at hcs
      obtain ⟨rfl, rfl, rfl⟩ := hcs
      exact ⟨[], .inl ⟨rfl, rfl, rfl, rfl⟩⟩
    · simp [Value.cells] at hcs
      obtain ⟨rfl, rfl, rfl⟩ := hcs
      exact ⟨zs, .inr ⟨_, rfl, hl, hm, by simpa using hz, hcell, hwz⟩⟩
  clear hA0 hval0
  refine (fnSigned_walk a0 len0 cap0 z0 W w0).mono fun e W' ⟨he, bel⟩ => ?_
  subst he
  exact ⟨_, rfl, _, _, _, [], _, [], hW', trodAll_mk1 (shut_bool Try.underlying4 _), (trodAll_cons_mk (Below.trod fnSigned_laidOut (by kernel_rfl) (of_decide_eq_true (by kernel_rfl)) k0 bel lt0) trodAll_mk0), rfl, bel.frame _, fun h => by cases h⟩

theorem fnSigned_holds : Rows.FnSignedSaid :=
  OpenClaim.holds_of_wide 3 Try.f3 rfl rfl rfl rfl rfl rfl rfl ⟨rfl, rfl, rfl, rfl, rfl⟩ rfl rfl rfl rfl rfl (by kernel_rfl) Try.func3 (by kernel_rfl)
    (of_decide_eq_true (by kernel_rfl)) (by unfold Func.isWrapper; first | (rw [if_pos (by decide +kernel)]; kernel_rfl) | (rw [if_neg (by decide +kernel)]; exact ⟨rfl, rfl⟩))
    (fun os started H enc _ => fnSigned_lifted os started H enc)

end Go.Proofs.Ytkidfkngehcjgaa
