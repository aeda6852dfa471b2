/- The landed code's MsgOk, whole. -/
import Derived.Test.YtlfoaobgdipdlaaZmMgImpl
import Derived.Deep.Cut
import Derived.Deep.MidRow
namespace Go.Proofs.Ytlfoaobgdipdlaa
open Go.RowKit Go.Sort
set_option linter.unusedVariables false

theorem load_mg {ops : Array Oper} {rest : List Oper} {op : Oper} {a : Act} {w : World} {Q : Exit → Act → World → Prop} (x : Operand) (ho : op.op = .load 43 x) (B : Nat) (hx : a.eval x = .pointer (some ⟨B, 0, none⟩)) {c0 c1 c2 c3 c4 c5 c6 c7 c8 c9 c10 c11 c12 c13 c14 c15 M : Value} (h : Blk w B 43 [c0, c1, c2, c3, c4, c5, c6, c7, c8, c9, c10, c11, c12, c13, c14, c15]) (hM : Value.agg #[c0, c1, c2, c3, c4, c5, c6, c7, c8, c9, c10, c11, c12, c13, c14, c15] = M)
    (hw : Region.wanted op (yielded ops a.tmps) = true) (hK : wpList Try.prog ops Q rest (a.put op.dst M) w) : wpList Try.prog ops Q (op :: rest) a w := by
  subst hM
  unfold wpList
  rw [if_pos hw]
  exact .inl (wp_load_mid 43 x ho B 0 hx [c0, c1, c2, c3, c4, c5, c6, c7, c8, c9, c10, c11, c12, c13, c14, c15] _ (fun j v hv => by rw [Nat.zero_add]; exact (h.cell j).trans hv) Try.underlying43 rfl (by kernel_rfl) hK)
set_option maxRecDepth 20000 in
set_option maxHeartbeats 2000000 in
theorem implMsgOk_0 (m : Mg) (v : Mv) (w : World) (hr : RdM w m v) (hf : FewM m) (h0 : inB m.kd 1 4 = false) :
    Calls Try.prog 12 #[mgV m v] w fun e w' => e = .returned (.bool false) ∧ Below w.heap.size w w' := by
  have HK := hide (fun V => implWithinC_any m.kd 1 4 V)
  rw [h0] at HK
  clear hf h0
  obtain ⟨kd, tn, ep, bs, vr, vb, vw, gr, gh, gw, qr, qb, qw, tr, tw, th⟩ := m
  obtain ⟨xb, xq, xw, xh⟩ := v
  obtain ⟨hb, hq, hw, hh⟩ := hr
  simp only at *
  obtain ⟨ab, cb, rfl⟩ := hb.shape
  obtain ⟨aq, cq, rfl⟩ := hq.shape
  obtain ⟨aw, cw, rfl⟩ := hw.shape
  obtain ⟨ah, ch, rfl⟩ := hh.shape
  simp only [mgV]
  obtain ⟨w1, hw1⟩ : ∃ x, w.alloc (.cells #[.int .i64 kd, .string tn, .int .i64 ep, .slice ab bs.length cb, .int .i64 vr, .int .i64 vb, .string vw, .int .i64 gr, .int .i64 gh, .string gw, .int .i64 qr, .int .i64 qb, .slice aq qw.length cq, .int .i64 tr, .slice aw tw.length cw, .slice ah th.length ch] 43) = x := ⟨_, rfl⟩
  have b1 : Below w.heap.size w w1 := by rw [← hw1]; exact (Below.refl _ w).alloc (Nat.le_refl _) _
  have k1 : Blk w1 w.heap.size 43 [.int .i64 kd, .string tn, .int .i64 ep, .slice ab bs.length cb, .int .i64 vr, .int .i64 vb, .string vw, .int .i64 gr, .int .i64 gh, .string gw, .int .i64 qr, .int .i64 qb, .slice aq qw.length cq, .int .i64 tr, .slice aw tw.length cw, .slice ah th.length ch] := by rw [← hw1]; exact Blk.new w _ _
  have x0 := k1.cell 0
  simp only [List.getElem?_cons_zero] at x0
  have K1 := hide k1
  clear hb hq hw hh k1
  go_enter Try.func12, Try.ntmps12
  go_wp2_with (first
    | (go_at_call 53; (with_reducible refine (HK.out _).mono ?_); rintro e w1 ⟨rfl, rfl⟩)
    | fail)
  go_ret
  exact ⟨rfl, b1⟩
set_option maxRecDepth 20000 in
set_option maxHeartbeats 2000000 in
theorem implMsgOk_1 (m : Mg) (v : Mv) (w : World) (hr : RdM w m v) (hf : FewM m) (h0 : inB m.kd 1 4 = true) (h1 : nmB m.tn = false) :
    Calls Try.prog 12 #[mgV m v] w fun e w' => e = .returned (.bool false) ∧ Below w.heap.size w w' := by
  have HM := hide (fun V => implNameOk_any m.tn V hf.t)
  rw [h1] at HM
  have HK := hide (fun V => implWithinC_any m.kd 1 4 V)
  rw [h0] at HK
  clear hf h0 h1
  obtain ⟨kd, tn, ep, bs, vr, vb, vw, gr, gh, gw, qr, qb, qw, tr, tw, th⟩ := m
  obtain ⟨xb, xq, xw, xh⟩ := v
  obtain ⟨hb, hq, hw, hh⟩ := hr
  simp only at *
  obtain ⟨ab, cb, rfl⟩ := hb.shape
  obtain ⟨aq, cq, rfl⟩ := hq.shape
  obtain ⟨aw, cw, rfl⟩ := hw.shape
  obtain ⟨ah, ch, rfl⟩ := hh.shape
  simp only [mgV]
  obtain ⟨w1, hw1⟩ : ∃ x, w.alloc (.cells #[.int .i64 kd, .string tn, .int .i64 ep, .slice ab bs.length cb, .int .i64 vr, .int .i64 vb, .string vw, .int .i64 gr, .int .i64 gh, .string gw, .int .i64 qr, .int .i64 qb, .slice aq qw.length cq, .int .i64 tr, .slice aw tw.length cw, .slice ah th.length ch] 43) = x := ⟨_, rfl⟩
  have b1 : Below w.heap.size w w1 := by rw [← hw1]; exact (Below.refl _ w).alloc (Nat.le_refl _) _
  have k1 : Blk w1 w.heap.size 43 [.int .i64 kd, .string tn, .int .i64 ep, .slice ab bs.length cb, .int .i64 vr, .int .i64 vb, .string vw, .int .i64 gr, .int .i64 gh, .string gw, .int .i64 qr, .int .i64 qb, .slice aq qw.length cq, .int .i64 tr, .slice aw tw.length cw, .slice ah th.length ch] := by rw [← hw1]; exact Blk.new w _ _
  have x0 := k1.cell 0
  have x1 := k1.cell 1
  simp only [List.getElem?_cons_zero, List.getElem?_cons_succ] at x0 x1
  have K1 := hide k1
  clear hb hq hw hh k1
  go_enter Try.func12, Try.ntmps12
  go_wp2_with (first
    | (go_at_call 53; (with_reducible refine (HK.out _).mono ?_); rintro e w1 ⟨rfl, rfl⟩)
    | (go_at_call 54; refine (HM.out _).mono ?_; rintro e w1 ⟨rfl, rfl⟩)
    | fail)
  go_ret
  exact ⟨rfl, b1⟩
set_option maxRecDepth 20000 in
set_option maxHeartbeats 2000000 in
theorem implMsgOk_2 (m : Mg) (v : Mv) (w : World) (hr : RdM w m v) (hf : FewM m) (h0 : inB m.kd 1 4 = true) (h1 : nmB m.tn = true) (h2 : inB m.ep 0 900 = false) :
    Calls Try.prog 12 #[mgV m v] w fun e w' => e = .returned (.bool false) ∧ Below w.heap.size w w' := by
  have HM := hide (fun V => implNameOk_any m.tn V hf.t)
  rw [h1] at HM
  have HK := hide (fun V => implWithinC_any m.kd 1 4 V)
  rw [h0] at HK
  have HP := hide (fun V => implWithinC_any m.ep 0 900 V)
  rw [h2] at HP
  clear hf h0 h1 h2
  obtain ⟨kd, tn, ep, bs, vr, vb, vw, gr, gh, gw, qr, qb, qw, tr, tw, th⟩ := m
  obtain ⟨xb, xq, xw, xh⟩ := v
  obtain ⟨hb, hq, hw, hh⟩ := hr
  simp only at *
  obtain ⟨ab, cb, rfl⟩ := hb.shape
  obtain ⟨aq, cq, rfl⟩ := hq.shape
  obtain ⟨aw, cw, rfl⟩ := hw.shape
  obtain ⟨ah, ch, rfl⟩ := hh.shape
  simp only [mgV]
  obtain ⟨w1, hw1⟩ : ∃ x, w.alloc (.cells #[.int .i64 kd, .string tn, .int .i64 ep, .slice ab bs.length cb, .int .i64 vr, .int .i64 vb, .string vw, .int .i64 gr, .int .i64 gh, .string gw, .int .i64 qr, .int .i64 qb, .slice aq qw.length cq, .int .i64 tr, .slice aw tw.length cw, .slice ah th.length ch] 43) = x := ⟨_, rfl⟩
  have b1 : Below w.heap.size w w1 := by rw [← hw1]; exact (Below.refl _ w).alloc (Nat.le_refl _) _
  have k1 : Blk w1 w.heap.size 43 [.int .i64 kd, .string tn, .int .i64 ep, .slice ab bs.length cb, .int .i64 vr, .int .i64 vb, .string vw, .int .i64 gr, .int .i64 gh, .string gw, .int .i64 qr, .int .i64 qb, .slice aq qw.length cq, .int .i64 tr, .slice aw tw.length cw, .slice ah th.length ch] := by rw [← hw1]; exact Blk.new w _ _
  have x0 := k1.cell 0
  have x1 := k1.cell 1
  have x2 := k1.cell 2
  simp only [List.getElem?_cons_zero, List.getElem?_cons_succ] at x0 x1 x2
  have K1 := hide k1
  clear hb hq hw hh k1
  go_enter Try.func12, Try.ntmps12
  go_wp2_with (first
    | (go_at_call 53; (with_reducible refine (HP.out _).mono ?_); rintro e w1 ⟨rfl, rfl⟩)
    | (go_at_call 53; (with_reducible refine (HK.out _).mono ?_); rintro e w1 ⟨rfl, rfl⟩)
    | (go_at_call 54; refine (HM.out _).mono ?_; rintro e w1 ⟨rfl, rfl⟩)
    | fail)
  go_ret
  exact ⟨rfl, b1⟩
set_option maxRecDepth 20000 in
set_option maxHeartbeats 2000000 in
theorem implMsgOk_3 (m : Mg) (v : Mv) (w : World) (hr : RdM w m v) (hf : FewM m) (h0 : inB m.kd 1 4 = true) (h1 : nmB m.tn = true) (h2 : inB m.ep 0 900 = true) (h3 : bsB m = false) :
    Calls Try.prog 12 #[mgV m v] w fun e w' => e = .returned (.bool false) ∧ Below w.heap.size w w' := by
  have HM := hide (fun V => implNameOk_any m.tn V hf.t)
  rw [h1] at HM
  have HK := hide (fun V => implWithinC_any m.kd 1 4 V)
  rw [h0] at HK
  have HP := hide (fun V => implWithinC_any m.ep 0 900 V)
  rw [h2] at HP
  have E1 := hide (fun V (hV : Below w.heap.size w V) => implSaidBlocks_any m v V (hr.below hV (Nat.le_refl _)) hf)
  rw [h3] at E1
  clear hf h0 h1 h2 h3
  obtain ⟨kd, tn, ep, bs, vr, vb, vw, gr, gh, gw, qr, qb, qw, tr, tw, th⟩ := m
  obtain ⟨xb, xq, xw, xh⟩ := v
  obtain ⟨hb, hq, hw, hh⟩ := hr
  simp only at *
  obtain ⟨ab, cb, rfl⟩ := hb.shape
  obtain ⟨aq, cq, rfl⟩ := hq.shape
  obtain ⟨aw, cw, rfl⟩ := hw.shape
  obtain ⟨ah, ch, rfl⟩ := hh.shape
  simp only [mgV] at E1
  simp only [mgV]
  obtain ⟨w1, hw1⟩ : ∃ x, w.alloc (.cells #[.int .i64 kd, .string tn, .int .i64 ep, .slice ab bs.length cb, .int .i64 vr, .int .i64 vb, .string vw, .int .i64 gr, .int .i64 gh, .string gw, .int .i64 qr, .int .i64 qb, .slice aq qw.length cq, .int .i64 tr, .slice aw tw.length cw, .slice ah th.length ch] 43) = x := ⟨_, rfl⟩
  have b1 : Below w.heap.size w w1 := by rw [← hw1]; exact (Below.refl _ w).alloc (Nat.le_refl _) _
  have k1 : Blk w1 w.heap.size 43 [.int .i64 kd, .string tn, .int .i64 ep, .slice ab bs.length cb, .int .i64 vr, .int .i64 vb, .string vw, .int .i64 gr, .int .i64 gh, .string gw, .int .i64 qr, .int .i64 qb, .slice aq qw.length cq, .int .i64 tr, .slice aw tw.length cw, .slice ah th.length ch] := by rw [← hw1]; exact Blk.new w _ _
  have x0 := k1.cell 0
  have x1 := k1.cell 1
  have x2 := k1.cell 2
  simp only [List.getElem?_cons_zero, List.getElem?_cons_succ] at x0 x1 x2
  have K1 := hide k1
  clear hb hq hw hh k1
  go_enter Try.func12, Try.ntmps12
  go_upto_region 1 with fail
  (try rw [hw1])
  clear hw1
  obtain ⟨M, hM⟩ : ∃ x, (Value.agg #[.int .i64 kd, .string tn, .int .i64 ep, .slice ab bs.length cb, .int .i64 vr, .int .i64 vb, .string vw, .int .i64 gr, .int .i64 gh, .string gw, .int .i64 qr, .int .i64 qb, .slice aq qw.length cq, .int .i64 tr, .slice aw tw.length cw, .slice ah th.length ch]) = x := ⟨_, rfl⟩
  rw [hM] at E1 ⊢
  go_wp2_with (first
    | (go_at_call 55; refine (E1.out _ b1).mono ?_; rintro e v1 ⟨rfl, hb1⟩; have hB1 := b1.trans (hb1.mono b1.size))
    | (refine load_mg _ rfl w.heap.size rfl K1.out hM (by rfl) ?_)
    | (go_at_call 53; (with_reducible refine (HP.out _).mono ?_); rintro e w1 ⟨rfl, rfl⟩)
    | (go_at_call 53; (with_reducible refine (HK.out _).mono ?_); rintro e w1 ⟨rfl, rfl⟩)
    | (go_at_call 54; refine (HM.out _).mono ?_; rintro e w1 ⟨rfl, rfl⟩)
    | fail)
  go_ret
  exact ⟨rfl, hB1⟩
set_option maxRecDepth 20000 in
set_option maxHeartbeats 2000000 in
theorem implMsgOk_4 (m : Mg) (v : Mv) (w : World) (hr : RdM w m v) (hf : FewM m) (h0 : inB m.kd 1 4 = true) (h1 : nmB m.tn = true) (h2 : inB m.ep 0 900 = true) (h3 : bsB m = true) (h4 : vtB m = false) :
    Calls Try.prog 12 #[mgV m v] w fun e w' => e = .returned (.bool false) ∧ Below w.heap.size w w' := by
  have HM := hide (fun V => implNameOk_any m.tn V hf.t)
  rw [h1] at HM
  have HK := hide (fun V => implWithinC_any m.kd 1 4 V)
  rw [h0] at HK
  have HP := hide (fun V => implWithinC_any m.ep 0 900 V)
  rw [h2] at HP
  have E1 := hide (fun V (hV : Below w.heap.size w V) => implSaidBlocks_any m v V (hr.below hV (Nat.le_refl _)) hf)
  rw [h3] at E1
  have E2 := hide (fun V (hV : Below w.heap.size w V) => implSaidVote_any m v V (hr.below hV (Nat.le_refl _)) hf)
  rw [h4] at E2
  clear hf h0 h1 h2 h3 h4
  obtain ⟨kd, tn, ep, bs, vr, vb, vw, gr, gh, gw, qr, qb, qw, tr, tw, th⟩ := m
  obtain ⟨xb, xq, xw, xh⟩ := v
  obtain ⟨hb, hq, hw, hh⟩ := hr
  simp only at *
  obtain ⟨ab, cb, rfl⟩ := hb.shape
  obtain ⟨aq, cq, rfl⟩ := hq.shape
  obtain ⟨aw, cw, rfl⟩ := hw.shape
  obtain ⟨ah, ch, rfl⟩ := hh.shape
  simp only [mgV] at E1 E2
  simp only [mgV]
  obtain ⟨w1, hw1⟩ : ∃ x, w.alloc (.cells #[.int .i64 kd, .string tn, .int .i64 ep, .slice ab bs.length cb, .int .i64 vr, .int .i64 vb, .string vw, .int .i64 gr, .int .i64 gh, .string gw, .int .i64 qr, .int .i64 qb, .slice aq qw.length cq, .int .i64 tr, .slice aw tw.length cw, .slice ah th.length ch] 43) = x := ⟨_, rfl⟩
  have b1 : Below w.heap.size w w1 := by rw [← hw1]; exact (Below.refl _ w).alloc (Nat.le_refl _) _
  have k1 : Blk w1 w.heap.size 43 [.int .i64 kd, .string tn, .int .i64 ep, .slice ab bs.length cb, .int .i64 vr, .int .i64 vb, .string vw, .int .i64 gr, .int .i64 gh, .string gw, .int .i64 qr, .int .i64 qb, .slice aq qw.length cq, .int .i64 tr, .slice aw tw.length cw, .slice ah th.length ch] := by rw [← hw1]; exact Blk.new w _ _
  have x0 := k1.cell 0
  have x1 := k1.cell 1
  have x2 := k1.cell 2
  simp only [List.getElem?_cons_zero, List.getElem?_cons_succ] at x0 x1 x2
  have K1 := hide k1
  clear hb hq hw hh k1
  go_enter Try.func12, Try.ntmps12
  go_upto_region 1 with fail
  (try rw [hw1])
  clear hw1
  obtain ⟨M, hM⟩ : ∃ x, (Value.agg #[.int .i64 kd, .string tn, .int .i64 ep, .slice ab bs.length cb, .int .i64 vr, .int .i64 vb, .string vw, .int .i64 gr, .int .i64 gh, .string gw, .int .i64 qr, .int .i64 qb, .slice aq qw.length cq, .int .i64 tr, .slice aw tw.length cw, .slice ah th.length ch]) = x := ⟨_, rfl⟩
  rw [hM] at E1 E2 ⊢
  go_wp2_with (first
    | (go_at_call 56; refine (E2.out _ hB1).mono ?_; rintro e v2 ⟨rfl, hb2⟩; have hB2 := hB1.trans (hb2.mono hB1.size))
    | (refine load_mg _ rfl w.heap.size rfl kk1 hM (by rfl) ?_)
    | (go_at_call 55; refine (E1.out _ b1).mono ?_; rintro e v1 ⟨rfl, hb1⟩; have hB1 := b1.trans (hb1.mono b1.size); have kk1 := K1.out.below hb1 K1.out.lt)
    | (refine load_mg _ rfl w.heap.size rfl K1.out hM (by rfl) ?_)
    | (go_at_call 53; (with_reducible refine (HP.out _).mono ?_); rintro e w1 ⟨rfl, rfl⟩)
    | (go_at_call 53; (with_reducible refine (HK.out _).mono ?_); rintro e w1 ⟨rfl, rfl⟩)
    | (go_at_call 54; refine (HM.out _).mono ?_; rintro e w1 ⟨rfl, rfl⟩)
    | fail)
  go_ret
  exact ⟨rfl, hB2⟩
set_option maxRecDepth 20000 in
set_option maxHeartbeats 2000000 in
theorem implMsgOk_5 (m : Mg) (v : Mv) (w : World) (hr : RdM w m v) (hf : FewM m) (h0 : inB m.kd 1 4 = true) (h1 : nmB m.tn = true) (h2 : inB m.ep 0 900 = true) (h3 : bsB m = true) (h4 : vtB m = true) (h5 : gnB m = false) :
    Calls Try.prog 12 #[mgV m v] w fun e w' => e = .returned (.bool false) ∧ Below w.heap.size w w' := by
  have HM := hide (fun V => implNameOk_any m.tn V hf.t)
  rw [h1] at HM
  have HK := hide (fun V => implWithinC_any m.kd 1 4 V)
  rw [h0] at HK
  have HP := hide (fun V => implWithinC_any m.ep 0 900 V)
  rw [h2] at HP
  have E1 := hide (fun V (hV : Below w.heap.size w V) => implSaidBlocks_any m v V (hr.below hV (Nat.le_refl _)) hf)
  rw [h3] at E1
  have E2 := hide (fun V (hV : Below w.heap.size w V) => implSaidVote_any m v V (hr.below hV (Nat.le_refl _)) hf)
  rw [h4] at E2
  have E3 := hide (fun V (hV : Below w.heap.size w V) => implSaidGone_any m v V (hr.below hV (Nat.le_refl _)) hf)
  rw [h5] at E3
  clear hf h0 h1 h2 h3 h4 h5
  obtain ⟨kd, tn, ep, bs, vr, vb, vw, gr, gh, gw, qr, qb, qw, tr, tw, th⟩ := m
  obtain ⟨xb, xq, xw, xh⟩ := v
  obtain ⟨hb, hq, hw, hh⟩ := hr
  simp only at *
  obtain ⟨ab, cb, rfl⟩ := hb.shape
  obtain ⟨aq, cq, rfl⟩ := hq.shape
  obtain ⟨aw, cw, rfl⟩ := hw.shape
  obtain ⟨ah, ch, rfl⟩ := hh.shape
  simp only [mgV] at E1 E2 E3
  simp only [mgV]
  obtain ⟨w1, hw1⟩ : ∃ x, w.alloc (.cells #[.int .i64 kd, .string tn, .int .i64 ep, .slice ab bs.length cb, .int .i64 vr, .int .i64 vb, .string vw, .int .i64 gr, .int .i64 gh, .string gw, .int .i64 qr, .int .i64 qb, .slice aq qw.length cq, .int .i64 tr, .slice aw tw.length cw, .slice ah th.length ch] 43) = x := ⟨_, rfl⟩
  have b1 : Below w.heap.size w w1 := by rw [← hw1]; exact (Below.refl _ w).alloc (Nat.le_refl _) _
  have k1 : Blk w1 w.heap.size 43 [.int .i64 kd, .string tn, .int .i64 ep, .slice ab bs.length cb, .int .i64 vr, .int .i64 vb, .string vw, .int .i64 gr, .int .i64 gh, .string gw, .int .i64 qr, .int .i64 qb, .slice aq qw.length cq, .int .i64 tr, .slice aw tw.length cw, .slice ah th.length ch] := by rw [← hw1]; exact Blk.new w _ _
  have x0 := k1.cell 0
  have x1 := k1.cell 1
  have x2 := k1.cell 2
  simp only [List.getElem?_cons_zero, List.getElem?_cons_succ] at x0 x1 x2
  have K1 := hide k1
  clear hb hq hw hh k1
  go_enter Try.func12, Try.ntmps12
  go_upto_region 1 with fail
  (try rw [hw1])
  clear hw1
  obtain ⟨M, hM⟩ : ∃ x, (Value.agg #[.int .i64 kd, .string tn, .int .i64 ep, .slice ab bs.length cb, .int .i64 vr, .int .i64 vb, .string vw, .int .i64 gr, .int .i64 gh, .string gw, .int .i64 qr, .int .i64 qb, .slice aq qw.length cq, .int .i64 tr, .slice aw tw.length cw, .slice ah th.length ch]) = x := ⟨_, rfl⟩
  rw [hM] at E1 E2 E3 ⊢
  go_wp2_with (first
    | (go_at_call 57; refine (E3.out _ hB2).mono ?_; rintro e v3 ⟨rfl, hb3⟩; have hB3 := hB2.trans (hb3.mono hB2.size))
    | (refine load_mg _ rfl w.heap.size rfl kk2 hM (by rfl) ?_)
    | (go_at_call 56; refine (E2.out _ hB1).mono ?_; rintro e v2 ⟨rfl, hb2⟩; have hB2 := hB1.trans (hb2.mono hB1.size); have kk2 := kk1.below hb2 kk1.lt)
    | (refine load_mg _ rfl w.heap.size rfl kk1 hM (by rfl) ?_)
    | (go_at_call 55; refine (E1.out _ b1).mono ?_; rintro e v1 ⟨rfl, hb1⟩; have hB1 := b1.trans (hb1.mono b1.size); have kk1 := K1.out.below hb1 K1.out.lt)
    | (refine load_mg _ rfl w.heap.size rfl K1.out hM (by rfl) ?_)
    | (go_at_call 53; (with_reducible refine (HP.out _).mono ?_); rintro e w1 ⟨rfl, rfl⟩)
    | (go_at_call 53; (with_reducible refine (HK.out _).mono ?_); rintro e w1 ⟨rfl, rfl⟩)
    | (go_at_call 54; refine (HM.out _).mono ?_; rintro e w1 ⟨rfl, rfl⟩)
    | fail)
  go_ret
  exact ⟨rfl, hB3⟩
set_option maxRecDepth 20000 in
set_option maxHeartbeats 2000000 in
theorem implMsgOk_6 (m : Mg) (v : Mv) (w : World) (hr : RdM w m v) (hf : FewM m) (h0 : inB m.kd 1 4 = true) (h1 : nmB m.tn = true) (h2 : inB m.ep 0 900 = true) (h3 : bsB m = true) (h4 : vtB m = true) (h5 : gnB m = true) (h6 : qM m = false) :
    Calls Try.prog 12 #[mgV m v] w fun e w' => e = .returned (.bool false) ∧ Below w.heap.size w w' := by
  have HM := hide (fun V => implNameOk_any m.tn V hf.t)
  rw [h1] at HM
  have HK := hide (fun V => implWithinC_any m.kd 1 4 V)
  rw [h0] at HK
  have HP := hide (fun V => implWithinC_any m.ep 0 900 V)
  rw [h2] at HP
  have E1 := hide (fun V (hV : Below w.heap.size w V) => implSaidBlocks_any m v V (hr.below hV (Nat.le_refl _)) hf)
  rw [h3] at E1
  have E2 := hide (fun V (hV : Below w.heap.size w V) => implSaidVote_any m v V (hr.below hV (Nat.le_refl _)) hf)
  rw [h4] at E2
  have E3 := hide (fun V (hV : Below w.heap.size w V) => implSaidGone_any m v V (hr.below hV (Nat.le_refl _)) hf)
  rw [h5] at E3
  have E4 := hide (fun V (hV : Below w.heap.size w V) => implSaidQc_any m v V (hr.below hV (Nat.le_refl _)) hf)
  rw [h6] at E4
  clear hf h0 h1 h2 h3 h4 h5 h6
  obtain ⟨kd, tn, ep, bs, vr, vb, vw, gr, gh, gw, qr, qb, qw, tr, tw, th⟩ := m
  obtain ⟨xb, xq, xw, xh⟩ := v
  obtain ⟨hb, hq, hw, hh⟩ := hr
  simp only at *
  obtain ⟨ab, cb, rfl⟩ := hb.shape
  obtain ⟨aq, cq, rfl⟩ := hq.shape
  obtain ⟨aw, cw, rfl⟩ := hw.shape
  obtain ⟨ah, ch, rfl⟩ := hh.shape
  simp only [mgV] at E1 E2 E3 E4
  simp only [mgV]
  obtain ⟨w1, hw1⟩ : ∃ x, w.alloc (.cells #[.int .i64 kd, .string tn, .int .i64 ep, .slice ab bs.length cb, .int .i64 vr, .int .i64 vb, .string vw, .int .i64 gr, .int .i64 gh, .string gw, .int .i64 qr, .int .i64 qb, .slice aq qw.length cq, .int .i64 tr, .slice aw tw.length cw, .slice ah th.length ch] 43) = x := ⟨_, rfl⟩
  have b1 : Below w.heap.size w w1 := by rw [← hw1]; exact (Below.refl _ w).alloc (Nat.le_refl _) _
  have k1 : Blk w1 w.heap.size 43 [.int .i64 kd, .string tn, .int .i64 ep, .slice ab bs.length cb, .int .i64 vr, .int .i64 vb, .string vw, .int .i64 gr, .int .i64 gh, .string gw, .int .i64 qr, .int .i64 qb, .slice aq qw.length cq, .int .i64 tr, .slice aw tw.length cw, .slice ah th.length ch] := by rw [← hw1]; exact Blk.new w _ _
  have x0 := k1.cell 0
  have x1 := k1.cell 1
  have x2 := k1.cell 2
  simp only [List.getElem?_cons_zero, List.getElem?_cons_succ] at x0 x1 x2
  have K1 := hide k1
  clear hb hq hw hh k1
  go_enter Try.func12, Try.ntmps12
  go_upto_region 1 with fail
  (try rw [hw1])
  clear hw1
  obtain ⟨M, hM⟩ : ∃ x, (Value.agg #[.int .i64 kd, .string tn, .int .i64 ep, .slice ab bs.length cb, .int .i64 vr, .int .i64 vb, .string vw, .int .i64 gr, .int .i64 gh, .string gw, .int .i64 qr, .int .i64 qb, .slice aq qw.length cq, .int .i64 tr, .slice aw tw.length cw, .slice ah th.length ch]) = x := ⟨_, rfl⟩
  rw [hM] at E1 E2 E3 E4 ⊢
  go_wp2_with (first
    | (go_at_call 58; refine (E4.out _ hB3).mono ?_; rintro e v4 ⟨rfl, hb4⟩; have hB4 := hB3.trans (hb4.mono hB3.size))
    | (refine load_mg _ rfl w.heap.size rfl kk3 hM (by rfl) ?_)
    | (go_at_call 57; refine (E3.out _ hB2).mono ?_; rintro e v3 ⟨rfl, hb3⟩; have hB3 := hB2.trans (hb3.mono hB2.size); have kk3 := kk2.below hb3 kk2.lt)
    | (refine load_mg _ rfl w.heap.size rfl kk2 hM (by rfl) ?_)
    | (go_at_call 56; refine (E2.out _ hB1).mono ?_; rintro e v2 ⟨rfl, hb2⟩; have hB2 := hB1.trans (hb2.mono hB1.size); have kk2 := kk1.below hb2 kk1.lt)
    | (refine load_mg _ rfl w.heap.size rfl kk1 hM (by rfl) ?_)
    | (go_at_call 55; refine (E1.out _ b1).mono ?_; rintro e v1 ⟨rfl, hb1⟩; have hB1 := b1.trans (hb1.mono b1.size); have kk1 := K1.out.below hb1 K1.out.lt)
    | (refine load_mg _ rfl w.heap.size rfl K1.out hM (by rfl) ?_)
    | (go_at_call 53; (with_reducible refine (HP.out _).mono ?_); rintro e w1 ⟨rfl, rfl⟩)
    | (go_at_call 53; (with_reducible refine (HK.out _).mono ?_); rintro e w1 ⟨rfl, rfl⟩)
    | (go_at_call 54; refine (HM.out _).mono ?_; rintro e w1 ⟨rfl, rfl⟩)
    | fail)
  go_ret
  exact ⟨rfl, hB4⟩
set_option maxRecDepth 20000 in
set_option maxHeartbeats 2000000 in
theorem implMsgOk_7 (m : Mg) (v : Mv) (w : World) (hr : RdM w m v) (hf : FewM m) (h0 : inB m.kd 1 4 = true) (h1 : nmB m.tn = true) (h2 : inB m.ep 0 900 = true) (h3 : bsB m = true) (h4 : vtB m = true) (h5 : gnB m = true) (h6 : qM m = true) :
    Calls Try.prog 12 #[mgV m v] w fun e w' => e = .returned (.bool (tM m)) ∧ Below w.heap.size w w' := by
  have HM := hide (fun V => implNameOk_any m.tn V hf.t)
  rw [h1] at HM
  have HK := hide (fun V => implWithinC_any m.kd 1 4 V)
  rw [h0] at HK
  have HP := hide (fun V => implWithinC_any m.ep 0 900 V)
  rw [h2] at HP
  have E1 := hide (fun V (hV : Below w.heap.size w V) => implSaidBlocks_any m v V (hr.below hV (Nat.le_refl _)) hf)
  rw [h3] at E1
  have E2 := hide (fun V (hV : Below w.heap.size w V) => implSaidVote_any m v V (hr.below hV (Nat.le_refl _)) hf)
  rw [h4] at E2
  have E3 := hide (fun V (hV : Below w.heap.size w V) => implSaidGone_any m v V (hr.below hV (Nat.le_refl _)) hf)
  rw [h5] at E3
  have E4 := hide (fun V (hV : Below w.heap.size w V) => implSaidQc_any m v V (hr.below hV (Nat.le_refl _)) hf)
  rw [h6] at E4
  have E5 := hide (fun V (hV : Below w.heap.size w V) => implSaidTc_any m v V (hr.below hV (Nat.le_refl _)) hf)
  generalize tM m = X at E5 ⊢
  clear hf h0 h1 h2 h3 h4 h5 h6
  obtain ⟨kd, tn, ep, bs, vr, vb, vw, gr, gh, gw, qr, qb, qw, tr, tw, th⟩ := m
  obtain ⟨xb, xq, xw, xh⟩ := v
  obtain ⟨hb, hq, hw, hh⟩ := hr
  simp only at *
  obtain ⟨ab, cb, rfl⟩ := hb.shape
  obtain ⟨aq, cq, rfl⟩ := hq.shape
  obtain ⟨aw, cw, rfl⟩ := hw.shape
  obtain ⟨ah, ch, rfl⟩ := hh.shape
  simp only [mgV] at E1 E2 E3 E4 E5
  simp only [mgV]
  obtain ⟨w1, hw1⟩ : ∃ x, w.alloc (.cells #[.int .i64 kd, .string tn, .int .i64 ep, .slice ab bs.length cb, .int .i64 vr, .int .i64 vb, .string vw, .int .i64 gr, .int .i64 gh, .string gw, .int .i64 qr, .int .i64 qb, .slice aq qw.length cq, .int .i64 tr, .slice aw tw.length cw, .slice ah th.length ch] 43) = x := ⟨_, rfl⟩
  have b1 : Below w.heap.size w w1 := by rw [← hw1]; exact (Below.refl _ w).alloc (Nat.le_refl _) _
  have k1 : Blk w1 w.heap.size 43 [.int .i64 kd, .string tn, .int .i64 ep, .slice ab bs.length cb, .int .i64 vr, .int .i64 vb, .string vw, .int .i64 gr, .int .i64 gh, .string gw, .int .i64 qr, .int .i64 qb, .slice aq qw.length cq, .int .i64 tr, .slice aw tw.length cw, .slice ah th.length ch] := by rw [← hw1]; exact Blk.new w _ _
  have x0 := k1.cell 0
  have x1 := k1.cell 1
  have x2 := k1.cell 2
  simp only [List.getElem?_cons_zero, List.getElem?_cons_succ] at x0 x1 x2
  have K1 := hide k1
  clear hb hq hw hh k1
  go_enter Try.func12, Try.ntmps12
  go_upto_region 1 with fail
  (try rw [hw1])
  clear hw1
  obtain ⟨M, hM⟩ : ∃ x, (Value.agg #[.int .i64 kd, .string tn, .int .i64 ep, .slice ab bs.length cb, .int .i64 vr, .int .i64 vb, .string vw, .int .i64 gr, .int .i64 gh, .string gw, .int .i64 qr, .int .i64 qb, .slice aq qw.length cq, .int .i64 tr, .slice aw tw.length cw, .slice ah th.length ch]) = x := ⟨_, rfl⟩
  rw [hM] at E1 E2 E3 E4 E5 ⊢
  go_wp2_with (first
    | (go_at_call 59; refine (E5.out _ hB4).mono ?_; rintro e v5 ⟨rfl, hb5⟩; have hB5 := hB4.trans (hb5.mono hB4.size))
    | (refine load_mg _ rfl w.heap.size rfl kk4 hM (by rfl) ?_)
    | (go_at_call 58; refine (E4.out _ hB3).mono ?_; rintro e v4 ⟨rfl, hb4⟩; have hB4 := hB3.trans (hb4.mono hB3.size); have kk4 := kk3.below hb4 kk3.lt)
    | (refine load_mg _ rfl w.heap.size rfl kk3 hM (by rfl) ?_)
    | (go_at_call 57; refine (E3.out _ hB2).mono ?_; rintro e v3 ⟨rfl, hb3⟩; have hB3 := hB2.trans (hb3.mono hB2.size); have kk3 := kk2.below hb3 kk2.lt)
    | (refine load_mg _ rfl w.heap.size rfl kk2 hM (by rfl) ?_)
    | (go_at_call 56; refine (E2.out _ hB1).mono ?_; rintro e v2 ⟨rfl, hb2⟩; have hB2 := hB1.trans (hb2.mono hB1.size); have kk2 := kk1.below hb2 kk1.lt)
    | (refine load_mg _ rfl w.heap.size rfl kk1 hM (by rfl) ?_)
    | (go_at_call 55; refine (E1.out _ b1).mono ?_; rintro e v1 ⟨rfl, hb1⟩; have hB1 := b1.trans (hb1.mono b1.size); have kk1 := K1.out.below hb1 K1.out.lt)
    | (refine load_mg _ rfl w.heap.size rfl K1.out hM (by rfl) ?_)
    | (go_at_call 53; (with_reducible refine (HP.out _).mono ?_); rintro e w1 ⟨rfl, rfl⟩)
    | (go_at_call 53; (with_reducible refine (HK.out _).mono ?_); rintro e w1 ⟨rfl, rfl⟩)
    | (go_at_call 54; refine (HM.out _).mono ?_; rintro e w1 ⟨rfl, rfl⟩)
    | fail)
  go_ret
  exact ⟨rfl, hB5⟩
theorem implMsgOk_any (m : Mg) (v : Mv) (w : World) (hr : RdM w m v) (hf : FewM m) :
    Calls Try.prog 12 #[mgV m v] w fun e w' => e = .returned (.bool (msgB m)) ∧ Below w.heap.size w w' := by
  unfold msgB
  cases h0 : inB m.kd 1 4
  · exact implMsgOk_0 m v w hr hf h0
  rw [Bool.true_and]
  cases h1 : nmB m.tn
  · exact implMsgOk_1 m v w hr hf h0 h1
  rw [Bool.true_and]
  cases h2 : inB m.ep 0 900
  · exact implMsgOk_2 m v w hr hf h0 h1 h2
  rw [Bool.true_and]
  cases h3 : bsB m
  · exact implMsgOk_3 m v w hr hf h0 h1 h2 h3
  rw [Bool.true_and]
  cases h4 : vtB m
  · exact implMsgOk_4 m v w hr hf h0 h1 h2 h3 h4
  rw [Bool.true_and]
  cases h5 : gnB m
  · exact implMsgOk_5 m v w hr hf h0 h1 h2 h3 h4 h5
  rw [Bool.true_and]
  cases h6 : qM m
  · exact implMsgOk_6 m v w hr hf h0 h1 h2 h3 h4 h5 h6
  rw [Bool.true_and]
  exact implMsgOk_7 m v w hr hf h0 h1 h2 h3 h4 h5 h6
end Go.Proofs.Ytlfoaobgdipdlaa
