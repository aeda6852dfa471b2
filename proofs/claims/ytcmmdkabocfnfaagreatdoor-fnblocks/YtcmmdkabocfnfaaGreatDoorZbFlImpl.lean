/- The landed code's Follows. -/
import Derived.Test.YtcmmdkabocfnfaaGreatDoorZbBkOkI
import Derived.Lib.QuietBelow
import Derived.BigQuiet
import Derived.Deep.Cut
namespace Go.Proofs.YtcmmdkabocfnfaaGreatDoor
open Go.RowKit Go.Sort
set_option linter.unusedVariables false

/-- The greatest of the first one and k more. -/
def mxK (l : List Int) : Nat → Int
  | 0 => l.getD 0 0
  | k + 1 => if mxK l k < l.getD (k + 1) 0 then l.getD (k + 1) 0 else mxK l k
def hgI (l : List Int) : Int := if l.length = 0 then 0 else mxK l (l.length - 1)
/-- Whether a block follows. -/
def flB (b : Bk) : Bool := (decide (b.qr = b.rd - 1) && noneB b.tr b.tw b.th) || (decide (0 < b.tr) && (decide (b.tr = b.rd - 1) && decide (hgI b.th ≤ b.qr)))
set_option maxRecDepth 20000 in
set_option maxHeartbeats 1000000 in
theorem slMax_any (v : Value) (l : List Int) (w : World) (hr : RdI w v l) (h0 : 0 < l.length) (hl : l.length ≤ 4000000) :
    Calls Tryz.prog 119 #[v] w fun e w' => e = .returned (.int .i64 (mxK l (l.length - 1))) ∧ w' = w := by
  have Hr := hide hr
  obtain ⟨a, cap, rfl⟩ := hr.shape
  obtain ⟨b, off, rfl, -, -, -, q0⟩ := hr.at h0
  rw [Nat.add_zero] at q0
  have hli : ¬ (l.length : Int) < 1 := by omega
  have hl0 : (0 : Int) < (l.length : Int) := by omega
  have e0 : l.getD 0 0 = l[0] := by simp [List.getD, h0]
  have H0 : Hid (mxK l 0 = l[0]) := hide e0
  clear hr e0
  go_enter Tryz.func119, Tryz.ntmps119
  go_wp2
  go_loopw [4, 3] (fun iv mv wr => ∃ k : Nat, 1 ≤ k ∧ k ≤ l.length ∧ iv = .int .i64 (k : Int) ∧ mv = .int .i64 (mxK l (k - 1)) ∧ wr = w) (fun iv _ _ => l.length - (intOf iv).toNat)
  case atStart => exact ⟨1, by omega, by omega, rfl, by rw [H0.out], rfl⟩
  case round =>
    obtain ⟨k, hk1, hk, rfl, rfl, rfl⟩ := hrel
    by_cases hlt : k < l.length
    · obtain ⟨b', off', hb', -, -, -, qk⟩ := Hr.out.at hlt
      simp only [Option.some.injEq, Addr.mk.injEq, and_true] at hb'
      obtain ⟨rfl, rfl⟩ := hb'
      have hki : (k : Int) < (l.length : Int) := by omega
      have hst : Hid (mxK l k = if mxK l (k - 1) < l[k] then l[k] else mxK l (k - 1)) := hide (by
        obtain ⟨j, rfl⟩ : ∃ j, k = j + 1 := ⟨k - 1, by omega⟩
        rw [mxK]
        simp [List.getD, hlt])
      generalize mxK l (k - 1) = m at hst ⊢
      generalize l[k] = x at hst qk
      by_cases hx : m < x
      · rw [if_pos hx] at hst
        go_wp2
        go_roundw
        case rel => exact ⟨k + 1, by omega, by omega, by go_num, by rw [Nat.add_sub_cancel, hst.out], trivial⟩
        case measure => simp [intOf]; omega
      · rw [if_neg hx] at hst
        go_wp2
        go_roundw
        case rel => exact ⟨k + 1, by omega, by omega, by go_num, by rw [Nat.add_sub_cancel, hst.out], trivial⟩
        case measure => simp [intOf]; omega
    · have hkl : k = l.length := by omega
      have HK : Hid (mxK l (k - 1) = mxK l (l.length - 1)) := hide (by rw [hkl])
      clear hkl
      go_wp2
      go_ret
      exact ⟨ret_int HK.out, rfl⟩
set_option maxRecDepth 20000 in
theorem implHighOf_any (r : Int) (vw vh : Value) (ws : List ByteArray) (hs : List Int) (w : World) (hrw : RdS w vw ws) (hrh : RdI w vh hs) (hlh : hs.length ≤ 4000000) :
    Calls Tryz.prog 70 #[tcV r vw vh] w fun e w' => e = .returned (.int .i64 (hgI hs)) ∧ Below w.heap.size w w' := by
  obtain ⟨aw, cw, rfl⟩ := hrw.shape
  obtain ⟨ah, ch, rfl⟩ := hrh.shape
  simp only [tcV]
  have HB := hide ((Below.refl _ w).alloc (Nat.le_refl _) (.cells #[.int .i64 r, .slice aw ws.length cw, .slice ah hs.length ch] 28))
  by_cases h0 : hs.length = 0
  · have HX : Hid (hgI hs = 0) := hide (by unfold hgI; rw [if_pos h0])
    have h0b : ((hs.length : Int) == 0) = true := by rw [h0]; rfl
    clear h0 hrh hrw
    go_enter Tryz.func70, Tryz.ntmps70
    go_wp2
    go_ret
    exact ⟨ret_int HX.out.symm, HB.out⟩
  · have HX : Hid (hgI hs = mxK hs (hs.length - 1)) := hide (by unfold hgI; rw [if_neg h0])
    have h0b : ((hs.length : Int) == 0) = false := by rw [beq_eq_false_iff_ne]; omega
    have HM := hide (fun V (hV : Below w.heap.size w V) => slMax_any _ hs V (hrh.below hV (Nat.le_refl _)) (by omega) hlh)
    clear h0 hrh hrw
    go_enter Tryz.func70, Tryz.ntmps70
    go_wp2_with fail
    refine (HM.out _ HB.out).mono ?_
    rintro e w2 ⟨rfl, rfl⟩
    go_wp2
    go_ret
    exact ⟨ret_int HX.out.symm, HB.out⟩
set_option maxRecDepth 20000 in
theorem implJust9_any (n r : Int) (w : World) (hr : -9223372036854775807 ≤ r ∧ r ≤ 9223372036854775807) :
    Calls Tryz.prog 68 #[.int .i64 n, .int .i64 r] w fun e w' => e = .returned (.bool (decide (n = r - 1))) ∧ w' = w := by
  have ew : IntKind.i64.wrap (r - 1) = r - 1 := by rw [IntKind.wrap_i64]; omega
  by_cases h1 : n < r
  · by_cases h2 : n = r - 1
    · have HX : Hid (decide (n = r - 1) = true) := hide (decide_eq_true h2)
      have h2b : (n == r - 1) = true := by rw [h2]; simp
      clear h2
      go_enter Tryz.func68, Tryz.ntmps68
      go_wp2
      go_ret
      exact ⟨ret_bool HX.out.symm, rfl⟩
    · have HX : Hid (decide (n = r - 1) = false) := hide (decide_eq_false h2)
      have h2b : (n == r - 1) = false := by rw [beq_eq_false_iff_ne]; exact h2
      clear h2
      go_enter Tryz.func68, Tryz.ntmps68
      go_wp2
      go_ret
      exact ⟨ret_bool HX.out.symm, rfl⟩
  · have HX : Hid (decide (n = r - 1) = false) := hide (decide_eq_false (by omega))
    go_enter Tryz.func68, Tryz.ntmps68
    go_wp2
    go_ret
    exact ⟨ret_bool HX.out.symm, rfl⟩
set_option maxRecDepth 20000 in
set_option maxHeartbeats 2000000 in
theorem implFollows_any (b : Bk) (v : Bv) (w : World) (hr : RdK w b v) (hf : FewK b) (hrd : -9223372036854775807 ≤ b.rd ∧ b.rd ≤ 9223372036854775807) :
    Calls Tryz.prog 21 #[bkV b v] w fun e w' => e = .returned (.bool (flB b)) ∧ Below w.heap.size w w' := by
  have HX : Hid (flB b = ((decide (b.qr = b.rd - 1) && noneB b.tr b.tw b.th) || (decide (0 < b.tr) && (decide (b.tr = b.rd - 1) && decide (hgI b.th ≤ b.qr))))) := hide rfl
  generalize flB b = X at HX ⊢
  have HJ := hide (fun n V => implJust9_any n b.rd V hrd)
  have HN := hide (fun V (hV : Below w.heap.size w V) => implNoTc_any b.tr v.w v.h b.tw b.th V (hr.p.below hV (Nat.le_refl _)) (hr.h.below hV (Nat.le_refl _)) hf.w hf.h)
  have HH := hide (fun V (hV : Below w.heap.size w V) => implHighOf_any b.tr v.w v.h b.tw b.th V (hr.p.below hV (Nat.le_refl _)) (hr.h.below hV (Nat.le_refl _)) hf.h)
  obtain ⟨aq, cq, aw, cw, ah, ch, at_, ct, an, cn, hv⟩ := (show ∃ aq cq aw cw ah ch at_ ct an cn, v = ⟨.slice aq b.qw.length cq, .slice aw b.tw.length cw, .slice ah b.th.length ch, .slice at_ b.ts.length ct, .slice an b.nx.length cn⟩ from by
    obtain ⟨q, p, hh, t, n⟩ := hr
    obtain ⟨vq, vw, vh, vt, vn⟩ := v
    obtain ⟨aq, cq, rfl⟩ := q.shape
    obtain ⟨aw, cw, rfl⟩ := p.shape
    obtain ⟨ah, ch, rfl⟩ := hh.shape
    obtain ⟨at_, ct, rfl⟩ := t.shape
    obtain ⟨an, cn, rfl⟩ := n.shape
    exact ⟨aq, cq, aw, cw, ah, ch, at_, ct, an, cn, rfl⟩)
  subst hv
  clear hr hf hrd
  generalize noneB b.tr b.tw b.th = N0 at HX HN
  generalize hgI b.th = G at HX HH
  obtain ⟨id, ep, rd, mk, qr, qb, qw, tr, tw, th, ts, en, nx, rt⟩ := b
  simp only [bkV, tcV] at *
  obtain ⟨w1, hw1⟩ : ∃ x, w.alloc (.cells #[.int .i64 id, .int .i64 ep, .int .i64 rd, .string mk, .int .i64 qr, .int .i64 qb, .slice aq qw.length cq, .int .i64 tr, .slice aw tw.length cw, .slice ah th.length ch, .slice at_ ts.length ct, .bool en, .slice an nx.length cn, .string rt] 32) = x := ⟨_, rfl⟩
  have b1 : Below w.heap.size w w1 := by rw [← hw1]; exact (Below.refl _ w).alloc (Nat.le_refl _) _
  have k1 : Blk w1 w.heap.size 32 [.int .i64 id, .int .i64 ep, .int .i64 rd, .string mk, .int .i64 qr, .int .i64 qb, .slice aq qw.length cq, .int .i64 tr, .slice aw tw.length cw, .slice ah th.length ch, .slice at_ ts.length ct, .bool en, .slice an nx.length cn, .string rt] := by rw [← hw1]; exact Blk.new w _ _
  have x2 := k1.cell 2
  have x4 := k1.cell 4
  have x7 := k1.cell 7
  have x8 := k1.cell 8
  have x9 := k1.cell 9
  simp only [List.getElem?_cons_zero, List.getElem?_cons_succ] at x2 x4 x7 x8 x9
  have K1 := hide k1
  have HB1 := hide b1
  clear k1 b1
  have HJ1 := hide (fun V => HJ.out qr V)
  by_cases hA : qr = rd - 1
  · rw [decide_eq_true hA, Bool.true_and] at HX
    rw [show decide (qr = rd - 1) = true from decide_eq_true hA] at HJ1
    clear hA
    cases N0
    · rw [Bool.false_or] at HX
      go_enter Tryz.func21, Tryz.ntmps21
      go_upto_region 3 with (first
        | (go_at_call 68; refine (HJ1.out _).mono ?_; rintro e w2 ⟨rfl, rfl⟩)
        | (go_at_call 69; refine (HN.out _ HB1.out).mono ?_; rintro e w3 ⟨rfl, hb3⟩))
      have hB3 := HB1.out.trans (hb3.mono HB1.out.size)
      have k3 := K1.out.below hb3 K1.out.lt
      clear x2 x4 x7 x8 x9 hw1
      have x2 := cell_regrown (k3.cell 2)
      have x4 := cell_regrown (k3.cell 4)
      have x7 := cell_regrown (k3.cell 7)
      have x8 := cell_regrown (k3.cell 8)
      have x9 := cell_regrown (k3.cell 9)
      have HB3 := hide (fun (d : Nat) (os : Array Obj) => hB3.trans ((below_regrown w3 d os).mono hB3.size))
      have HJ3 := hide (fun (d : Nat) (os : Array Obj) => sameC_regrown (HJ.out tr (grow (redrawn w3 d) os)))
      have HH3 := hide (fun (d : Nat) (os : Array Obj) => Calls.regrown_of (HH.out (grow (redrawn w3 d) os) (HB3.out d os)))
      clear k3 hB3
      by_cases hB : 0 < tr
      · rw [decide_eq_true hB, Bool.true_and] at HX
        have hBd : decide (0 < tr) = true := decide_eq_true hB
        by_cases hC : tr = rd - 1
        · rw [decide_eq_true hC, Bool.true_and] at HX
          rw [show decide (tr = rd - 1) = true from decide_eq_true hC] at HJ3
          clear hC
          by_cases hD : G ≤ qr
          · rw [decide_eq_true hD] at HX
            have hDd : decide (G ≤ qr) = true := decide_eq_true hD
            refine wp_region_quiet_below (by kernel_rfl) (by kernel_rfl) ?_
            repeat (go_big_quiet_step ((first | (go_at_call 68; exact HJ3.out _ _) | (go_at_call 70; exact HH3.out _ _))))
            refine wpQuiet_nil ?_
            intro _ hw'
            obtain ⟨⟨dq, osq⟩, hw''⟩ := hw'
            subst hw''
            go_wp2
            go_ret
            exact ⟨ret_bool HX.out.symm, HB3.out dq osq⟩
          · rw [decide_eq_false hD] at HX
            have hDd : decide (G ≤ qr) = false := decide_eq_false hD
            refine wp_region_quiet_below (by kernel_rfl) (by kernel_rfl) ?_
            repeat (go_big_quiet_step ((first | (go_at_call 68; exact HJ3.out _ _) | (go_at_call 70; exact HH3.out _ _))))
            refine wpQuiet_nil ?_
            intro _ hw'
            obtain ⟨⟨dq, osq⟩, hw''⟩ := hw'
            subst hw''
            go_wp2
            go_ret
            exact ⟨ret_bool HX.out.symm, HB3.out dq osq⟩
        · rw [decide_eq_false hC, Bool.false_and] at HX
          rw [show decide (tr = rd - 1) = false from decide_eq_false hC] at HJ3
          clear hC
          refine wp_region_quiet_below (by kernel_rfl) (by kernel_rfl) ?_
          repeat (go_big_quiet_step ((first | (go_at_call 68; exact HJ3.out _ _) | (go_at_call 70; exact HH3.out _ _))))
          refine wpQuiet_nil ?_
          intro _ hw'
          obtain ⟨⟨dq, osq⟩, hw''⟩ := hw'
          subst hw''
          go_wp2
          go_ret
          exact ⟨ret_bool HX.out.symm, HB3.out dq osq⟩
      · rw [decide_eq_false hB, Bool.false_and] at HX
        have hBd : decide (0 < tr) = false := decide_eq_false hB
        refine wp_region_quiet_below (by kernel_rfl) (by kernel_rfl) ?_
        repeat (go_big_quiet_step ((first | (go_at_call 68; exact HJ3.out _ _) | (go_at_call 70; exact HH3.out _ _))))
        refine wpQuiet_nil ?_
        intro _ hw'
        obtain ⟨⟨dq, osq⟩, hw''⟩ := hw'
        subst hw''
        go_wp2
        go_ret
        exact ⟨ret_bool HX.out.symm, HB3.out dq osq⟩
    · rw [Bool.true_or] at HX
      go_enter Tryz.func21, Tryz.ntmps21
      go_wp2_with (first
        | (go_at_call 68; refine (HJ1.out _).mono ?_; rintro e w2 ⟨rfl, rfl⟩)
        | (go_at_call 69; refine (HN.out _ HB1.out).mono ?_; rintro e w3 ⟨rfl, hb3⟩))
      go_ret
      exact ⟨ret_bool HX.out.symm, HB1.out.trans (hb3.mono HB1.out.size)⟩
  · rw [decide_eq_false hA, Bool.false_and, Bool.false_or] at HX
    rw [show decide (qr = rd - 1) = false from decide_eq_false hA] at HJ1
    clear hA
    go_enter Tryz.func21, Tryz.ntmps21
    go_upto_region 3 with (first
      | (go_at_call 68; refine (HJ1.out _).mono ?_; rintro e w3 ⟨rfl, rfl⟩))
    have hB3 := HB1.out
    have k3 := K1.out
    clear x2 x4 x7 x8 x9 hw1
    have x2 := cell_regrown (k3.cell 2)
    have x4 := cell_regrown (k3.cell 4)
    have x7 := cell_regrown (k3.cell 7)
    have x8 := cell_regrown (k3.cell 8)
    have x9 := cell_regrown (k3.cell 9)
    have HB3 := hide (fun (d : Nat) (os : Array Obj) => hB3.trans ((below_regrown w3 d os).mono hB3.size))
    have HJ3 := hide (fun (d : Nat) (os : Array Obj) => sameC_regrown (HJ.out tr (grow (redrawn w3 d) os)))
    have HH3 := hide (fun (d : Nat) (os : Array Obj) => Calls.regrown_of (HH.out (grow (redrawn w3 d) os) (HB3.out d os)))
    clear k3 hB3
    by_cases hB : 0 < tr
    · rw [decide_eq_true hB, Bool.true_and] at HX
      have hBd : decide (0 < tr) = true := decide_eq_true hB
      by_cases hC : tr = rd - 1
      · rw [decide_eq_true hC, Bool.true_and] at HX
        rw [show decide (tr = rd - 1) = true from decide_eq_true hC] at HJ3
        clear hC
        by_cases hD : G ≤ qr
        · rw [decide_eq_true hD] at HX
          have hDd : decide (G ≤ qr) = true := decide_eq_true hD
          refine wp_region_quiet_below (by kernel_rfl) (by kernel_rfl) ?_
          repeat (go_big_quiet_step ((first | (go_at_call 68; exact HJ3.out _ _) | (go_at_call 70; exact HH3.out _ _))))
          refine wpQuiet_nil ?_
          intro _ hw'
          obtain ⟨⟨dq, osq⟩, hw''⟩ := hw'
          subst hw''
          go_wp2
          go_ret
          exact ⟨ret_bool HX.out.symm, HB3.out dq osq⟩
        · rw [decide_eq_false hD] at HX
          have hDd : decide (G ≤ qr) = false := decide_eq_false hD
          refine wp_region_quiet_below (by kernel_rfl) (by kernel_rfl) ?_
          repeat (go_big_quiet_step ((first | (go_at_call 68; exact HJ3.out _ _) | (go_at_call 70; exact HH3.out _ _))))
          refine wpQuiet_nil ?_
          intro _ hw'
          obtain ⟨⟨dq, osq⟩, hw''⟩ := hw'
          subst hw''
          go_wp2
          go_ret
          exact ⟨ret_bool HX.out.symm, HB3.out dq osq⟩
      · rw [decide_eq_false hC, Bool.false_and] at HX
        rw [show decide (tr = rd - 1) = false from decide_eq_false hC] at HJ3
        clear hC
        refine wp_region_quiet_below (by kernel_rfl) (by kernel_rfl) ?_
        repeat (go_big_quiet_step ((first | (go_at_call 68; exact HJ3.out _ _) | (go_at_call 70; exact HH3.out _ _))))
        refine wpQuiet_nil ?_
        intro _ hw'
        obtain ⟨⟨dq, osq⟩, hw''⟩ := hw'
        subst hw''
        go_wp2
        go_ret
        exact ⟨ret_bool HX.out.symm, HB3.out dq osq⟩
    · rw [decide_eq_false hB, Bool.false_and] at HX
      have hBd : decide (0 < tr) = false := decide_eq_false hB
      refine wp_region_quiet_below (by kernel_rfl) (by kernel_rfl) ?_
      repeat (go_big_quiet_step ((first | (go_at_call 68; exact HJ3.out _ _) | (go_at_call 70; exact HH3.out _ _))))
      refine wpQuiet_nil ?_
      intro _ hw'
      obtain ⟨⟨dq, osq⟩, hw''⟩ := hw'
      subst hw''
      go_wp2
      go_ret
      exact ⟨ret_bool HX.out.symm, HB3.out dq osq⟩
end Go.Proofs.YtcmmdkabocfnfaaGreatDoor
