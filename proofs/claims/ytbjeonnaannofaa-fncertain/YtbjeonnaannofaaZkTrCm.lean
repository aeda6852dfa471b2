/- What a certificate makes certain, by the model and by the landed code, where rounds are small. -/
import Derived.Test.YtbjeonnaannofaaZkTxSpec
import Derived.Test.YtbjeonnaannofaaZkKsApp
import Derived.Test.YtbjeonnaannofaaZkCtTc
import Derived.Lib.QuietBelow
import Derived.BigQuiet
namespace Go.Proofs.Ytbjeonnaannofaa
open Go.RowKit Go.Sort
set_option linter.unusedVariables false

def rdAt (l : List Bk) (i : Nat) : Int := (l[i]?.map (·.rd)).getD 0
theorem rdAt_eq {l : List Bk} {i : Nat} (h : i < l.length) : rdAt l i = l[i].rd := by simp [rdAt, h]
/-- The Id of the block that a certificate of this round and block makes certain; -1. -/
def cmA (l : List Bk) (qr qb : Int) : Int :=
  if atI l qb < 0 then -1 else if rdAt l (atI l qb).toNat = qr then
    (if atI l (qbAt l (atI l qb).toNat) < 0 then -1 else if rdAt l (atI l (qbAt l (atI l qb).toNat)).toNat = qr - 1 then idAt l (atI l (qbAt l (atI l qb).toNat)).toNat else -1) else -1
theorem cm_1 {l : List Bk} {qr qb : Int} (h : atI l qb < 0) : cmA l qr qb = -1 := by unfold cmA; rw [if_pos h]
theorem cm_2 {l : List Bk} {qr qb : Int} {k : Nat} (h : atI l qb = (k : Int)) (hk : k < l.length) (hr : l[k].rd ≠ qr) : cmA l qr qb = -1 := by
  unfold cmA
  rw [h, if_neg (by omega), Int.toNat_natCast, rdAt_eq hk, if_neg hr]
theorem cm_3 {l : List Bk} {qr qb : Int} {k : Nat} (h : atI l qb = (k : Int)) (hk : k < l.length) (h2 : atI l l[k].qb < 0) : cmA l qr qb = -1 := by
  unfold cmA
  rw [h, if_neg (by omega), Int.toNat_natCast, rdAt_eq hk, qbAt_eq hk, if_pos h2]
  split <;> rfl
theorem cm_4 {l : List Bk} {qr qb : Int} {k p : Nat} (h : atI l qb = (k : Int)) (hk : k < l.length) (h2 : atI l l[k].qb = (p : Int)) (hp : p < l.length) (hr : l[p].rd ≠ qr - 1) : cmA l qr qb = -1 := by
  unfold cmA
  rw [h, if_neg (by omega), Int.toNat_natCast, rdAt_eq hk, qbAt_eq hk, h2]
  by_cases e : l[k].rd = qr
  · rw [if_pos e, if_neg (by omega), Int.toNat_natCast, rdAt_eq hp, if_neg hr]
  · rw [if_neg e]
theorem cm_5 {l : List Bk} {qr qb : Int} {k p : Nat} (h : atI l qb = (k : Int)) (hk : k < l.length) (hr : l[k].rd = qr) (h2 : atI l l[k].qb = (p : Int)) (hp : p < l.length) (hr2 : l[p].rd = qr - 1) : cmA l qr qb = l[p].id := by
  unfold cmA
  rw [h, if_neg (by omega), Int.toNat_natCast, rdAt_eq hk, qbAt_eq hk, if_pos hr, h2, if_neg (by omega), Int.toNat_natCast, rdAt_eq hp, if_pos hr2, idAt_eq hp]
set_option maxRecDepth 20000 in
set_option maxHeartbeats 4000000 in
theorem specCommitOf_any (v : Value) (l : List Bk) (qr qb : Int) (vq : Value) (ws : List ByteArray) (w : World) (hr : RdKs w v l) (hrq : RdS w vq ws) (hl : l.length ≤ 4000000) (hrd : ∀ x ∈ l, 0 ≤ x.rd ∧ x.rd ≤ 20000) (hq : 0 ≤ qr ∧ qr ≤ 20000) :
    Calls Try.prog 22 #[v, qcV qr qb vq] w fun e w' => e = .returned (.int .i64 (cmA l qr qb)) ∧ Below w.heap.size w w' := by
  obtain ⟨a, cap, rfl⟩ := hr.shape
  obtain ⟨aq, cq, rfl⟩ := hrq.shape
  simp only [qcV]
  obtain ⟨w1, hw1⟩ : ∃ x, w.alloc (.cells #[.int .i64 qr, .int .i64 qb, .slice aq ws.length cq] 31) = x := ⟨_, rfl⟩
  have b1 : Below w.heap.size w w1 := by rw [← hw1]; exact (Below.refl _ w).alloc (Nat.le_refl _) _
  have k1 : Blk w1 w.heap.size 31 [.int .i64 qr, .int .i64 qb, .slice aq ws.length cq] := by rw [← hw1]; exact Blk.new w _ _
  have x0 := k1.cell 0
  have x1 := k1.cell 1
  simp only [List.getElem?_cons_zero, List.getElem?_cons_succ] at x0 x1
  have hr1 := hr.below b1 (Nat.le_refl _)
  have Hr := hide hr1
  have HA := hide (fun id V (hV : RdKs V (.slice a l.length cap) l) => specAt_any (.slice a l.length cap) l id V hV hl)
  have Hrd := hide hrd
  have HB1 := hide b1
  have ew : IntKind.i64.wrap (qr - 1) = qr - 1 := by rw [IntKind.wrap_i64]; omega
  clear hr hrq hr1 hrd b1 k1
  go_enter Try.func22, Try.ntmps22
  go_wp2_with fail
  refine (HA.out qb w1 Hr.out).mono ?_
  rintro e w2 ⟨rfl, rfl⟩
  have g0 := cell_regrown x0
  rcases atI_is l qb with ⟨e1, -⟩ | ⟨k, hk, e1, -⟩
  · have HX := hide (cm_1 (qr := qr) (show atI l qb < 0 by omega))
    rw [e1]
    clear x1
    go_wp2
    refine wp_region_quiet_below (by kernel_rfl) (by kernel_rfl) ?_
    repeat (go_big_quiet_step (fail))
    refine wpQuiet_nil ?_
    intro _ hw'
    obtain ⟨⟨dq, osq⟩, hw''⟩ := hw'
    subst hw''
    go_wp2
    go_ret
    exact ⟨ret_int HX.out.symm, HB1.out.trans ((below_regrown w2 dq osq).mono HB1.out.size)⟩
  · obtain ⟨b, off, hab, hbl, hcell⟩ := Hr.out.parts9 (by omega)
    subst hab
    have Hc0 : Hid (∀ i (hi : i < l.length), w2.cell? ⟨b, off + i * 14, none⟩ = some (.int .i64 l[i].id)) := hide (fun i hi => by obtain ⟨bv, h1, _⟩ := hcell i hi; exact h1.cells.1)
    have Hc2 : Hid (∀ i (hi : i < l.length), w2.cell? ⟨b, off + i * 14 + 2, none⟩ = some (.int .i64 l[i].rd)) := hide (fun i hi => by obtain ⟨bv, h1, _⟩ := hcell i hi; exact h1.cells.2.2.1)
    have q2 := Hc2.out k hk
    have q5 : w2.cell? ⟨b, off + k * 14 + 5, none⟩ = some (.int .i64 l[k].qb) := by obtain ⟨bv, h1, _⟩ := hcell k hk; exact h1.cells.2.2.2.2.2.1
    have hli : (k : Int) < (l.length : Int) := by omega
    have hk0 : decide ((k : Int) < 0) = false := by simp
    have He1 := hide e1
    rw [e1]
    have Hq5 := hide q5
    have Hbl := hide hbl
    clear hcell x1 e1 q5 hbl
    by_cases h1 : l[k].rd = qr
    · have h1b : (l[k].rd != qr) = false := by rw [h1]; simp
      have H1 := hide h1
      clear h1
      go_wp2
      have g2 := cell_regrown q2
      refine wp_region_quiet_below (by kernel_rfl) (by kernel_rfl) ?_
      repeat (go_big_quiet_step (fail))
      refine wpQuiet_nil ?_
      intro w3 hw'
      obtain ⟨⟨dq, osq⟩, hw''⟩ := hw'
      have b3 : Below w2.heap.size w2 w3 := by rw [hw'']; exact below_regrown w2 dq osq
      have c5 : w3.cell? ⟨b, off + k * 14 + 5, none⟩ = some (.int .i64 l[k].qb) := (b3.cell (p := ⟨b, off + k * 14 + 5, none⟩) Hbl.out).trans Hq5.out
      have c0 : w3.cell? ⟨w.heap.size, 0, none⟩ = some (.int .i64 qr) := by rw [hw'']; exact g0 dq osq
      clear hw''
      have HB3 := hide (HB1.out.trans (b3.mono HB1.out.size))
      have Hb3 := hide b3
      clear g0 g2 q2 x0 b3
      go_wp2_with fail
      refine (HA.out l[k].qb w3 (Hr.out.below Hb3.out (Nat.le_refl _))).mono ?_
      rintro e w4 ⟨rfl, rfl⟩
      have g0 := cell_regrown c0
      clear c5
      rcases atI_is l l[k].qb with ⟨e2, -⟩ | ⟨p, hp, e2, -⟩
      · have HX := hide (cm_3 (qr := qr) He1.out hk (show atI l l[k].qb < 0 by omega))
        rw [e2]
        go_wp2
        refine wp_region_quiet_below (by kernel_rfl) (by kernel_rfl) ?_
        repeat (go_big_quiet_step (fail))
        refine wpQuiet_nil ?_
        intro _ hw'
        obtain ⟨⟨dq, osq⟩, hw''⟩ := hw'
        subst hw''
        go_wp2
        go_ret
        exact ⟨ret_int HX.out.symm, HB3.out.trans ((below_regrown w4 dq osq).mono HB3.out.size)⟩
      · have q2 := (Hb3.out.cell (p := ⟨b, off + p * 14 + 2, none⟩) Hbl.out).trans (Hc2.out p hp)
        have q0 := (Hb3.out.cell (p := ⟨b, off + p * 14, none⟩) Hbl.out).trans (Hc0.out p hp)
        have g2 := cell_regrown q2
        have g3 := cell_regrown q0
        have hlp : (p : Int) < (l.length : Int) := by omega
        have hp0 : decide ((p : Int) < 0) = false := by simp
        have He2 := hide e2
        rw [e2]
        clear e2
        by_cases h2 : l[p].rd = qr - 1
        · have HX := hide (cm_5 (qr := qr) He1.out hk H1.out He2.out hp h2)
          have h2b : (l[p].rd != qr - 1) = false := by rw [h2]; simp
          clear h2
          go_wp2
          refine wp_region_quiet_below (by kernel_rfl) (by kernel_rfl) ?_
          repeat (go_big_quiet_step (fail))
          refine wpQuiet_nil ?_
          intro w5 hw'
          obtain ⟨⟨dq, osq⟩, hw''⟩ := hw'
          have c9 : w5.cell? ⟨b, off + p * 14, none⟩ = some (.int .i64 l[p].id) := by rw [hw'']; exact g3 dq osq
          have b4 : Below w4.heap.size w4 w5 := by rw [hw'']; exact below_regrown w4 dq osq
          clear hw''
          clear g0 g2 g3 q0 q2 c0
          go_wp2
          go_ret
          exact ⟨ret_int HX.out.symm, HB3.out.trans (b4.mono HB3.out.size)⟩
        · have HX := hide (cm_4 (qr := qr) He1.out hk He2.out hp h2)
          have h2b : (l[p].rd != qr - 1) = true := by rw [bne_iff_ne]; exact h2
          clear h2
          go_wp2
          refine wp_region_quiet_below (by kernel_rfl) (by kernel_rfl) ?_
          repeat (go_big_quiet_step (fail))
          refine wpQuiet_nil ?_
          intro _ hw'
          obtain ⟨⟨dq, osq⟩, hw''⟩ := hw'
          subst hw''
          go_wp2
          go_ret
          exact ⟨ret_int HX.out.symm, HB3.out.trans ((below_regrown w4 dq osq).mono HB3.out.size)⟩
    · have HX := hide (cm_2 He1.out hk h1)
      have h1b : (l[k].rd != qr) = true := by rw [bne_iff_ne]; exact h1
      clear h1
      go_wp2
      have g2 := cell_regrown q2
      refine wp_region_quiet_below (by kernel_rfl) (by kernel_rfl) ?_
      repeat (go_big_quiet_step (fail))
      refine wpQuiet_nil ?_
      intro _ hw'
      obtain ⟨⟨dq, osq⟩, hw''⟩ := hw'
      subst hw''
      go_wp2
      go_ret
      exact ⟨ret_int HX.out.symm, HB1.out.trans ((below_regrown w2 dq osq).mono HB1.out.size)⟩
set_option maxRecDepth 20000 in
theorem implJustBelow_any (n r : Int) (w : World) (hr : -9223372036854775807 ≤ r ∧ r ≤ 9223372036854775807) :
    Calls Try.prog 61 #[.int .i64 n, .int .i64 r] w fun e w' => e = .returned (.bool (decide (n = r - 1))) ∧ w' = w := by
  have ew : IntKind.i64.wrap (r - 1) = r - 1 := by rw [IntKind.wrap_i64]; omega
  by_cases h1 : n < r
  · by_cases h2 : n = r - 1
    · have HX : Hid (decide (n = r - 1) = true) := hide (decide_eq_true h2)
      have h2b : (n == r - 1) = true := by rw [h2]; simp
      clear h2
      go_enter Try.func61, Try.ntmps61
      go_wp2
      go_ret
      exact ⟨ret_bool HX.out.symm, rfl⟩
    · have HX : Hid (decide (n = r - 1) = false) := hide (decide_eq_false h2)
      have h2b : (n == r - 1) = false := by rw [beq_eq_false_iff_ne]; exact h2
      clear h2
      go_enter Try.func61, Try.ntmps61
      go_wp2
      go_ret
      exact ⟨ret_bool HX.out.symm, rfl⟩
  · have HX : Hid (decide (n = r - 1) = false) := hide (decide_eq_false (by omega))
    go_enter Try.func61, Try.ntmps61
    go_wp2
    go_ret
    exact ⟨ret_bool HX.out.symm, rfl⟩
set_option maxRecDepth 20000 in
set_option maxHeartbeats 4000000 in
theorem implCommitOf_any (v : Value) (l : List Bk) (qr qb : Int) (vq : Value) (ws : List ByteArray) (w : World) (hr : RdKs w v l) (hrq : RdS w vq ws) (hl : l.length ≤ 4000000) (hrd : ∀ x ∈ l, 0 ≤ x.rd ∧ x.rd ≤ 20000) :
    Calls Try.prog 21 #[v, qcV qr qb vq] w fun e w' => e = .returned (.int .i64 (cmA l qr qb)) ∧ Below w.heap.size w w' := by
  obtain ⟨a, cap, rfl⟩ := hr.shape
  obtain ⟨aq, cq, rfl⟩ := hrq.shape
  simp only [qcV]
  obtain ⟨w1, hw1⟩ : ∃ x, w.alloc (.cells #[.int .i64 qr, .int .i64 qb, .slice aq ws.length cq] 31) = x := ⟨_, rfl⟩
  have b1 : Below w.heap.size w w1 := by rw [← hw1]; exact (Below.refl _ w).alloc (Nat.le_refl _) _
  have k1 : Blk w1 w.heap.size 31 [.int .i64 qr, .int .i64 qb, .slice aq ws.length cq] := by rw [← hw1]; exact Blk.new w _ _
  have x0 := k1.cell 0
  have x1 := k1.cell 1
  simp only [List.getElem?_cons_zero, List.getElem?_cons_succ] at x0 x1
  have hr1 := hr.below b1 (Nat.le_refl _)
  have Hr := hide hr1
  have HA := hide (fun id V (hV : RdKs V (.slice a l.length cap) l) => firstOf_any l a cap id V hV hl)
  have Hrd := hide hrd
  have HB1 := hide b1
  clear hr hrq hr1 hrd b1 k1
  go_enter Try.func21, Try.ntmps21
  go_wp2_with fail
  refine (HA.out qb w1 Hr.out).mono ?_
  rintro e w2 ⟨h, rfl⟩
  have g0 := cell_regrown x0
  rcases h with ⟨e1, rfl⟩ | ⟨k, b, off, e1, hk, hab, rfl⟩
  · have HX := hide (cm_1 (qr := qr) e1)
    clear x1 e1
    go_wp2
    refine wp_region_quiet_below (by kernel_rfl) (by kernel_rfl) ?_
    repeat (go_big_quiet_step (fail))
    refine wpQuiet_nil ?_
    intro _ hw'
    obtain ⟨⟨dq, osq⟩, hw''⟩ := hw'
    subst hw''
    go_wp2
    go_ret
    exact ⟨ret_int HX.out.symm, HB1.out.trans ((below_regrown w2 dq osq).mono HB1.out.size)⟩
  · obtain ⟨b', off', hab', hbl, hcell⟩ := Hr.out.parts9 (by omega)
    rw [hab] at hab'
    simp only [Option.some.injEq, Addr.mk.injEq, and_true] at hab'
    obtain ⟨rfl, rfl⟩ := hab'
    subst hab
    have Hc0 : Hid (∀ i (hi : i < l.length), w2.cell? ⟨b, off + i * 14, none⟩ = some (.int .i64 l[i].id)) := hide (fun i hi => by obtain ⟨bv, h1, _⟩ := hcell i hi; exact h1.cells.1)
    have Hc2 : Hid (∀ i (hi : i < l.length), w2.cell? ⟨b, off + i * 14 + 2, none⟩ = some (.int .i64 l[i].rd)) := hide (fun i hi => by obtain ⟨bv, h1, _⟩ := hcell i hi; exact h1.cells.2.2.1)
    have q2 := Hc2.out k hk
    have q5 : w2.cell? ⟨b, off + k * 14 + 5, none⟩ = some (.int .i64 l[k].qb) := by obtain ⟨bv, h1, _⟩ := hcell k hk; exact h1.cells.2.2.2.2.2.1
    have hbd := Hrd.out l[k] (List.getElem_mem hk)
    have HJ := hide (fun n V => implJustBelow_any n l[k].rd V (by omega))
    have He1 := hide e1
    have Hq5 := hide q5
    have Hq2 := hide q2
    have Hbl := hide hbl
    clear hcell x1 e1 q5 hbl hbd
    by_cases h1 : l[k].rd = qr
    · have h1b : (l[k].rd != qr) = false := by rw [h1]; simp
      have H1 := hide h1
      clear h1
      go_wp2
      have g2 := cell_regrown q2
      refine wp_region_quiet_below (by kernel_rfl) (by kernel_rfl) ?_
      repeat (go_big_quiet_step (fail))
      refine wpQuiet_nil ?_
      intro w3 hw'
      obtain ⟨⟨dq, osq⟩, hw''⟩ := hw'
      have b3 : Below w2.heap.size w2 w3 := by rw [hw'']; exact below_regrown w2 dq osq
      have c5 : w3.cell? ⟨b, off + k * 14 + 5, none⟩ = some (.int .i64 l[k].qb) := (b3.cell (p := ⟨b, off + k * 14 + 5, none⟩) Hbl.out).trans Hq5.out
      have c2 : w3.cell? ⟨b, off + k * 14 + 2, none⟩ = some (.int .i64 l[k].rd) := (b3.cell (p := ⟨b, off + k * 14 + 2, none⟩) Hbl.out).trans Hq2.out
      clear hw''
      have HB3 := hide (HB1.out.trans (b3.mono HB1.out.size))
      have Hb3 := hide b3
      clear g0 g2 q2 x0 b3
      go_wp2_with fail
      refine (HA.out l[k].qb w3 (Hr.out.below Hb3.out (Nat.le_refl _))).mono ?_
      rintro e w4 ⟨h, rfl⟩
      have g1 := cell_regrown c2
      clear c5 c2
      rcases h with ⟨e2, rfl⟩ | ⟨p, b', off', e2, hp, hab, rfl⟩
      · have HX := hide (cm_3 (qr := qr) He1.out hk e2)
        clear e2
        go_wp2
        refine wp_region_quiet_below (by kernel_rfl) (by kernel_rfl) ?_
        repeat (go_big_quiet_step (fail))
        refine wpQuiet_nil ?_
        intro _ hw'
        obtain ⟨⟨dq, osq⟩, hw''⟩ := hw'
        subst hw''
        go_wp2
        go_ret
        exact ⟨ret_int HX.out.symm, HB3.out.trans ((below_regrown w4 dq osq).mono HB3.out.size)⟩
      · simp only [Option.some.injEq, Addr.mk.injEq, and_true] at hab
        obtain ⟨rfl, rfl⟩ := hab
        have q2 := (Hb3.out.cell (p := ⟨b, off + p * 14 + 2, none⟩) Hbl.out).trans (Hc2.out p hp)
        have q0 := (Hb3.out.cell (p := ⟨b, off + p * 14, none⟩) Hbl.out).trans (Hc0.out p hp)
        have g2 := cell_regrown q2
        have g3 := cell_regrown q0
        have He2 := hide e2
        have HJ4 := hide (fun (d : Nat) (os : Array Obj) => sameC_regrown (HJ.out l[p].rd (grow (redrawn w4 d) os)))
        clear e2 q2 q0
        by_cases h2 : l[p].rd = qr - 1
        · have HX := hide (cm_5 (qr := qr) He1.out hk H1.out He2.out hp h2)
          rw [show decide (l[p].rd = l[k].rd - 1) = true from decide_eq_true (by rw [H1.out]; exact h2)] at HJ4
          clear h2
          go_wp2
          refine wp_region_quiet_below (by kernel_rfl) (by kernel_rfl) ?_
          repeat (go_big_quiet_step ((go_at_call 61; exact HJ4.out _ _)))
          refine wpQuiet_nil ?_
          intro w5 hw'
          obtain ⟨⟨dq, osq⟩, hw''⟩ := hw'
          have c9 : w5.cell? ⟨b, off + p * 14, none⟩ = some (.int .i64 l[p].id) := by rw [hw'']; exact g3 dq osq
          have b4 : Below w4.heap.size w4 w5 := by rw [hw'']; exact below_regrown w4 dq osq
          clear hw'' g1 g2 g3
          go_wp2
          go_ret
          exact ⟨ret_int HX.out.symm, HB3.out.trans (b4.mono HB3.out.size)⟩
        · have HX := hide (cm_4 (qr := qr) He1.out hk He2.out hp h2)
          rw [show decide (l[p].rd = l[k].rd - 1) = false from decide_eq_false (by rw [H1.out]; exact h2)] at HJ4
          clear h2
          go_wp2
          refine wp_region_quiet_below (by kernel_rfl) (by kernel_rfl) ?_
          repeat (go_big_quiet_step ((go_at_call 61; exact HJ4.out _ _)))
          refine wpQuiet_nil ?_
          intro _ hw'
          obtain ⟨⟨dq, osq⟩, hw''⟩ := hw'
          subst hw''
          go_wp2
          go_ret
          exact ⟨ret_int HX.out.symm, HB3.out.trans ((below_regrown w4 dq osq).mono HB3.out.size)⟩
    · have HX := hide (cm_2 He1.out hk h1)
      have h1b : (l[k].rd != qr) = true := by rw [bne_iff_ne]; exact h1
      clear h1
      go_wp2
      have g2 := cell_regrown q2
      refine wp_region_quiet_below (by kernel_rfl) (by kernel_rfl) ?_
      repeat (go_big_quiet_step (fail))
      refine wpQuiet_nil ?_
      intro _ hw'
      obtain ⟨⟨dq, osq⟩, hw''⟩ := hw'
      subst hw''
      go_wp2
      go_ret
      exact ⟨ret_int HX.out.symm, HB1.out.trans ((below_regrown w2 dq osq).mono HB1.out.size)⟩
end Go.Proofs.Ytbjeonnaannofaa
