/- Blocks held against each other by the laws. -/
import Derived.Test.YtbjeonnaannofaaZdBkVal
import Derived.Test.YtbjeonnaannofaaZdCtVal
import Derived.Test.YtbjeonnaannofaaZdVsEq
namespace Go.Proofs.Ytbjeonnaannofaa
open Go.RowKit
set_option linter.unusedVariables false

set_option maxRecDepth 20000 in
set_option maxHeartbeats 1000000 in
theorem eqQc_any (r b : Int) (v1 v2 : Value) (ws : List ByteArray) (w : World) (h1 : RdS w v1 ws) (h2 : RdS w v2 ws) (hl : ws.length ≤ 4000000) :
    Calls Try.prog 62 #[qcV r b v1, qcV r b v2] w fun e w' => e = .returned (.bool true) ∧ Below w.heap.size w w' := by
  obtain ⟨a1, c1, rfl⟩ := h1.shape
  obtain ⟨a2, c2, rfl⟩ := h2.shape
  simp only [qcV]
  obtain ⟨w1, hw1⟩ : ∃ x, (w.alloc (.cells #[.int .i64 r, .int .i64 b, .slice a1 ws.length c1] 31)).alloc (.cells #[.int .i64 r, .int .i64 b, .slice a2 ws.length c2] 31) = x := ⟨_, rfl⟩
  have b1 : Below w.heap.size w w1 := by rw [← hw1]; exact ((Below.refl _ w).alloc (Nat.le_refl _) _).alloc (by simp) _
  have k1 : Blk w1 w.heap.size 31 [.int .i64 r, .int .i64 b, .slice a1 ws.length c1] := by rw [← hw1]; exact (Blk.new w _ _).below ((Below.refl (w.heap.size + 1) _).alloc (by simp) _) (by omega)
  have k2 : Blk w1 (w.heap.size + 1) 31 [.int .i64 r, .int .i64 b, .slice a2 ws.length c2] := by rw [← hw1]; exact Blk.newR _ _ [.int .i64 r, .int .i64 b, .slice a2 ws.length c2] _ (by simp)
  have HE := hide (eqStringS_any _ _ ws ws w1 (h1.below b1 (Nat.le_refl _)) (h2.below b1 (Nat.le_refl _)) hl hl)
  rw [decide_eq_true rfl] at HE
  have x0 := k1.cell 0
  have x1 := k1.cell 1
  have x2 := k1.cell 2
  have y0 := k2.cell 0
  have y1 := k2.cell 1
  have y2 := k2.cell 2
  simp only [List.getElem?_cons_zero, List.getElem?_cons_succ] at x0 x1 x2 y0 y1 y2
  have HB1 := hide b1
  clear h1 h2 k1 k2 b1
  go_enter Try.func62, Try.ntmps62
  go_wp2_with fail
  refine HE.out.mono ?_
  rintro e w2 ⟨rfl, hb2⟩
  have HB2 := hide (HB1.out.trans (hb2 _))
  clear x0 x1 x2 y0 y1 y2 hw1 hb2
  go_wp2
  go_ret
  exact ⟨rfl, HB2.out⟩
set_option maxRecDepth 20000 in
set_option maxHeartbeats 2000000 in
theorem eqBlock_any (b : Bk) (v1 v2 : Bv) (w : World) (h1 : RdK w b v1) (h2 : RdK w b v2) (hf : FewK b) :
    Calls Try.prog 26 #[bkV b v1, bkV b v2] w fun e w' => e = .returned (.bool true) ∧ Below w.heap.size w w' := by
  have hlq := hf.q
  have hlw := hf.w
  have hlh := hf.h
  have hlt := hf.t
  have hln := hf.n
  clear hf
  obtain ⟨id, ep, rd, mk, qr, qb, qw, tr, tw, th, ts, en, nx, rt⟩ := b
  obtain ⟨vq, vw, vh, vt, vn⟩ := v1
  obtain ⟨uq, uw, uh, ut, un⟩ := v2
  obtain ⟨hq, hw, hh, ht, hn⟩ := h1
  obtain ⟨gq, gw, gh, gt, gn⟩ := h2
  simp only [bkV] at *
  obtain ⟨aq, cq, rfl⟩ := hq.shape
  obtain ⟨aw, cw, rfl⟩ := hw.shape
  obtain ⟨ah, ch, rfl⟩ := hh.shape
  obtain ⟨at', ct, rfl⟩ := ht.shape
  obtain ⟨an, cn, rfl⟩ := hn.shape
  obtain ⟨aq2, cq2, rfl⟩ := gq.shape
  obtain ⟨aw2, cw2, rfl⟩ := gw.shape
  obtain ⟨ah2, ch2, rfl⟩ := gh.shape
  obtain ⟨at2, ct2, rfl⟩ := gt.shape
  obtain ⟨an2, cn2, rfl⟩ := gn.shape
  obtain ⟨w1, hw1⟩ : ∃ x, (w.alloc (.cells #[.int .i64 id, .int .i64 ep, .int .i64 rd, .string mk, .int .i64 qr, .int .i64 qb, .slice aq qw.length cq, .int .i64 tr, .slice aw tw.length cw, .slice ah th.length ch, .slice at' ts.length ct, .bool en, .slice an nx.length cn, .string rt] 37)).alloc (.cells #[.int .i64 id, .int .i64 ep, .int .i64 rd, .string mk, .int .i64 qr, .int .i64 qb, .slice aq2 qw.length cq2, .int .i64 tr, .slice aw2 tw.length cw2, .slice ah2 th.length ch2, .slice at2 ts.length ct2, .bool en, .slice an2 nx.length cn2, .string rt] 37) = x := ⟨_, rfl⟩
  have b1 : Below w.heap.size w w1 := by rw [← hw1]; exact ((Below.refl _ w).alloc (Nat.le_refl _) _).alloc (by simp) _
  have k1 : Blk w1 w.heap.size 37 [.int .i64 id, .int .i64 ep, .int .i64 rd, .string mk, .int .i64 qr, .int .i64 qb, .slice aq qw.length cq, .int .i64 tr, .slice aw tw.length cw, .slice ah th.length ch, .slice at' ts.length ct, .bool en, .slice an nx.length cn, .string rt] := by rw [← hw1]; exact (Blk.new w _ _).below ((Below.refl (w.heap.size + 1) _).alloc (by simp) _) (by omega)
  have m1 : Blk w1 (w.heap.size + 1) 37 [.int .i64 id, .int .i64 ep, .int .i64 rd, .string mk, .int .i64 qr, .int .i64 qb, .slice aq2 qw.length cq2, .int .i64 tr, .slice aw2 tw.length cw2, .slice ah2 th.length ch2, .slice at2 ts.length ct2, .bool en, .slice an2 nx.length cn2, .string rt] := by rw [← hw1]; exact Blk.newR _ _ [.int .i64 id, .int .i64 ep, .int .i64 rd, .string mk, .int .i64 qr, .int .i64 qb, .slice aq2 qw.length cq2, .int .i64 tr, .slice aw2 tw.length cw2, .slice ah2 th.length ch2, .slice at2 ts.length ct2, .bool en, .slice an2 nx.length cn2, .string rt] _ (by simp)
  have E1 := hide (fun V (hV : Below w.heap.size w V) => eqQc_any qr qb (.slice aq qw.length cq) (.slice aq2 qw.length cq2) qw V (hq.below hV (Nat.le_refl _)) (gq.below hV (Nat.le_refl _)) hlq)
  have E2 := hide (fun V (hV : Below w.heap.size w V) => eqTc_any tr (.slice aw tw.length cw) (.slice ah th.length ch) (.slice aw2 tw.length cw2) (.slice ah2 th.length ch2) tw th V (hw.below hV (Nat.le_refl _)) (hh.below hV (Nat.le_refl _)) (gw.below hV (Nat.le_refl _)) (gh.below hV (Nat.le_refl _)) hlw hlh)
  have E3 := hide (fun V (hV : Below w.heap.size w V) => eqTxS_any (.slice at' ts.length ct) (.slice at2 ts.length ct2) ts ts V (ht.below hV (Nat.le_refl _)) (gt.below hV (Nat.le_refl _)) hlt hlt rfl)
  have E4 := hide (fun V (hV : Below w.heap.size w V) => eqValS_any (.slice an nx.length cn) (.slice an2 nx.length cn2) nx nx V (hn.below hV (Nat.le_refl _)) (gn.below hV (Nat.le_refl _)) hln hln)
  rw [decide_eq_true rfl] at E4
  simp only [qcV, tcV] at E1 E2
  have HB1 := hide b1
  clear hq hw hh ht hn gq gw gh gt gn b1
  go_enter Try.func26, Try.ntmps26
  have x0 := k1.cell 0
  have y0 := m1.cell 0
  have x1 := k1.cell 1
  have y1 := m1.cell 1
  have x2 := k1.cell 2
  have y2 := m1.cell 2
  have x3 := k1.cell 3
  have y3 := m1.cell 3
  have x4 := k1.cell 4
  have y4 := m1.cell 4
  have x5 := k1.cell 5
  have y5 := m1.cell 5
  have x6 := k1.cell 6
  have y6 := m1.cell 6
  simp only [List.getElem?_cons_zero, List.getElem?_cons_succ] at x0 y0 x1 y1 x2 y2 x3 y3 x4 y4 x5 y5 x6 y6
  go_wp2_with fail
  refine (E1.out _ HB1.out).mono ?_
  rintro e w2 ⟨rfl, hb2⟩
  have k2 := k1.below hb2 k1.lt
  have m2 := m1.below hb2 m1.lt
  have HB2 := hide (HB1.out.trans (hb2.mono HB1.out.size))
  clear k1 m1 hb2
  clear x0 y0 x1 y1 x2 y2 x3 y3 x4 y4 x5 y5 x6 y6 hw1
  have x7 := k2.cell 7
  have y7 := m2.cell 7
  have x8 := k2.cell 8
  have y8 := m2.cell 8
  have x9 := k2.cell 9
  have y9 := m2.cell 9
  simp only [List.getElem?_cons_zero, List.getElem?_cons_succ] at x7 y7 x8 y8 x9 y9
  go_wp2_with fail
  refine (E2.out _ HB2.out).mono ?_
  rintro e w3 ⟨rfl, hb3⟩
  have k3 := k2.below hb3 k2.lt
  have m3 := m2.below hb3 m2.lt
  have HB3 := hide (HB2.out.trans (hb3.mono HB2.out.size))
  clear k2 m2 hb3
  clear x7 y7 x8 y8 x9 y9
  have x10 := k3.cell 10
  have y10 := m3.cell 10
  simp only [List.getElem?_cons_zero, List.getElem?_cons_succ] at x10 y10
  go_wp2_with fail
  refine (E3.out _ HB3.out).mono ?_
  rintro e w4 ⟨rfl, hb4⟩
  have k4 := k3.below hb4 k3.lt
  have m4 := m3.below hb4 m3.lt
  have HB4 := hide (HB3.out.trans (hb4.mono HB3.out.size))
  clear k3 m3 hb4
  clear x10 y10
  have x11 := k4.cell 11
  have y11 := m4.cell 11
  have x12 := k4.cell 12
  have y12 := m4.cell 12
  simp only [List.getElem?_cons_zero, List.getElem?_cons_succ] at x11 y11 x12 y12
  go_wp2_with fail
  refine (E4.out _ HB4.out).mono ?_
  rintro e w5 ⟨rfl, hb5⟩
  have k5 := k4.below hb5 k4.lt
  have m5 := m4.below hb5 m4.lt
  have HB5 := hide (HB4.out.trans (hb5.mono HB4.out.size))
  clear k4 m4 hb5
  clear x11 y11 x12 y12
  have x13 := k5.cell 13
  have y13 := m5.cell 13
  simp only [List.getElem?_cons_zero, List.getElem?_cons_succ] at x13 y13
  go_wp2
  go_ret
  exact ⟨rfl, HB5.out⟩
end Go.Proofs.Ytbjeonnaannofaa
