/- Blocks drawn, bent or not, where no tree is drawn. -/
import Derived.Test.YtcmmdkabocfnfaaGreatDoorZbDrawBd
import Derived.Test.YtcmmdkabocfnfaaGreatDoorZbDrawTx
namespace Go.Proofs.YtcmmdkabocfnfaaGreatDoor
open Go.RowKit
set_option linter.unusedVariables false

set_option maxRecDepth 20000 in
set_option maxHeartbeats 8000000 in
theorem l9Any_any (w0 w : World) (g : Nat) (cv : Value) (code : List UInt8) (hc : Cur w0 w g cv code) (hl : code.length ≤ 1048576) :
    Calls Tryz.prog 57 #[.pointer (some ⟨g, 0, none⟩)] w fun e w' => ∃ (b : Bk) (v : Bv), e = .returned (bkV b v) ∧ OwnK w.heap.size w' b v ∧ SmB b ∧ Cur w0 w' g cv code ∧ w.grownBy w' (some g) := by
  have hgl := hc.lt
  obtain ⟨w1, hw1⟩ : ∃ w1, w.alloc (.cells #[.int .i64 0, .int .i64 0, .int .i64 0, .string { data := #[] }, .int .i64 0, .int .i64 0, .slice none 0 0, .int .i64 0, .slice none 0 0, .slice none 0 0, .slice none 0 0, .bool false, .slice none 0 0, .string { data := #[] }] 32) = w1 := ⟨_, rfl⟩
  have hb1 : Below w.heap.size w w1 := by rw [← hw1]; exact (Below.refl _ w).alloc (Nat.le_refl _) _
  have hs1 : w1.heap.size = w.heap.size + 1 := by rw [← hw1]; simp
  have K1 : Hid (Blk w1 w.heap.size 32 [.int .i64 0, .int .i64 0, .int .i64 0, .string { data := #[] }, .int .i64 0, .int .i64 0, .slice none 0 0, .int .i64 0, .slice none 0 0, .slice none 0 0, .slice none 0 0, .bool false, .slice none 0 0, .string { data := #[] }]) := hide (by rw [← hw1]; exact Blk.new w _ _)
  have Hc1 := hide (hc.below hb1 hgl)
  have HG1 := hide (grw_of_below (some g) hb1 (Nat.le_refl _))
  have Hs1 := hide hs1
  clear hc hb1 hs1
  go_enter Tryz.func57, Tryz.ntmps57
  go_wp2_with fail
  refine (l9Draw_any w0 _ g cv code Hc1.out hl).mono ?_
  rintro e w2 ⟨b, v, rfl, o2, hS, hc2, hg2⟩
  have HK := hide hS
  have z1 := Hs1.out
  have z2 := hg2.size
  have k2 := blk_notg5 K1.out hg2 (by omega)
  have hG2 := grw_trans HG1.out hg2
  obtain ⟨vq, vw, vh, vt, vn⟩ := v
  obtain ⟨aq, cq, hvq⟩ := o2.q.rd.shape
  obtain ⟨aw, cw, hvw⟩ := o2.p.rd.shape
  obtain ⟨ah, ch, hvh⟩ := o2.h.rd.shape
  obtain ⟨at_, ct, hvt⟩ := o2.t.rd.shape
  obtain ⟨an, cn, hvn⟩ := o2.n.rd.shape
  simp only at hvq hvw hvh hvt hvn
  subst hvq hvw hvh hvt hvn
  simp only [bkV]
  obtain ⟨w3, hw3⟩ : ∃ x, w2.alloc (.cells #[.int .i64 b.id, .int .i64 b.ep, .int .i64 b.rd, .string b.md, .int .i64 b.qr, .int .i64 b.qb, .slice aq b.qw.length cq, .int .i64 b.tr, .slice aw b.tw.length cw, .slice ah b.th.length ch, .slice at_ b.ts.length ct, .bool b.en, .slice an b.nx.length cn, .string b.rt] 32) = x := ⟨_, rfl⟩
  have b3 : Below w2.heap.size w2 w3 := by rw [← hw3]; exact (Below.refl _ w2).alloc (Nat.le_refl _) _
  have t3 : Blk w3 w2.heap.size 32 [.int .i64 b.id, .int .i64 b.ep, .int .i64 b.rd, .string b.md, .int .i64 b.qr, .int .i64 b.qb, .slice aq b.qw.length cq, .int .i64 b.tr, .slice aw b.tw.length cw, .slice ah b.th.length ch, .slice at_ b.ts.length ct, .bool b.en, .slice an b.nx.length cn, .string b.rt] := by rw [← hw3]; exact Blk.new w2 _ _
  have k3 := k2.below b3 k2.lt
  have hc3 := hc2.below b3 hc2.lt
  have z3 : w2.heap.size < w3.heap.size := t3.lt
  have hG3 := grw_trans hG2 (grw_of_below (some g) b3 (Nat.le_refl _))
  have o3 := o2.below9 b3 (Nat.le_refl _)
  have Hw3 := hide hw3
  have Hin : Hid (∀ k, (⟨.slice aq b.qw.length cq, .slice aw b.tw.length cw, .slice ah b.th.length ch, .slice at_ b.ts.length ct, .slice an b.nx.length cn⟩ : Bv).has k → k < w2.heap.size) := hide (fun k hk => (o2.in9 k hk).2)
  clear hw3 o2 hc2 hg2 k2 hG2 hS K1 HG1 Hc1 b3 hw1
  have HT3 := hide t3
  have HK3 := hide k3
  have HO3 := hide o3
  have HC3 := hide hc3
  have HG3 := hide hG3
  have Hz1 := hide z1
  clear t3 k3 o3 hc3 hG3 z1
  go_wp2_with fail
  rw [Hw3.out]
  clear Hw3
  refine (l1Once_any w0 _ g cv code 4 HC3.out hl (by omega) (by omega)).mono ?_
  rintro e w4 ⟨o1, rfl, hc4, hg4⟩
  have z4 := hg4.size
  have z1 := Hz1.out
  have t4 := blk_notg5 HT3.out hg4 (by omega)
  have k4 := blk_notg5 HK3.out hg4 (by omega)
  have o4 := HO3.out.grown9 hg4 (fun e => by have := (HO3.out.in9 _ e).1; omega)
  have hG4 := grw_trans HG3.out hg4
  clear HT3 HK3 HO3 HC3 HG3 hg4 Hz1
  cases o1
  · have oE := o4
    have cE := hc4
    have gE := hG4
    have tE := t4
    have kE := k4
    clear o4 hc4 hG4 t4 k4
    have HQ := hide ((oE.q.put14 (g := w.heap.size) (by omega) (.int .i64 b.id) (.int .i64 b.ep) (.int .i64 b.rd) (.string b.md) (.int .i64 b.qr) (.int .i64 b.qb) (.slice aq b.qw.length cq) (.int .i64 b.tr) (.slice aw b.tw.length cw) (.slice ah b.th.length ch) (.slice at_ b.ts.length ct) (.bool b.en) (.slice an b.nx.length cn) (.string b.rt)).mono (show w.heap.size ≤ w1.heap.size by omega))
    have HP := hide ((oE.p.put14 (g := w.heap.size) (by omega) (.int .i64 b.id) (.int .i64 b.ep) (.int .i64 b.rd) (.string b.md) (.int .i64 b.qr) (.int .i64 b.qb) (.slice aq b.qw.length cq) (.int .i64 b.tr) (.slice aw b.tw.length cw) (.slice ah b.th.length ch) (.slice at_ b.ts.length ct) (.bool b.en) (.slice an b.nx.length cn) (.string b.rt)).mono (show w.heap.size ≤ w1.heap.size by omega))
    have HH := hide ((oE.h.put14 (g := w.heap.size) (by omega) (.int .i64 b.id) (.int .i64 b.ep) (.int .i64 b.rd) (.string b.md) (.int .i64 b.qr) (.int .i64 b.qb) (.slice aq b.qw.length cq) (.int .i64 b.tr) (.slice aw b.tw.length cw) (.slice ah b.th.length ch) (.slice at_ b.ts.length ct) (.bool b.en) (.slice an b.nx.length cn) (.string b.rt)).mono (show w.heap.size ≤ w1.heap.size by omega))
    have HT := hide ((oE.t.put14 (g := w.heap.size) (by omega) (.int .i64 b.id) (.int .i64 b.ep) (.int .i64 b.rd) (.string b.md) (.int .i64 b.qr) (.int .i64 b.qb) (.slice aq b.qw.length cq) (.int .i64 b.tr) (.slice aw b.tw.length cw) (.slice ah b.th.length ch) (.slice at_ b.ts.length ct) (.bool b.en) (.slice an b.nx.length cn) (.string b.rt)).mono (show w.heap.size ≤ w1.heap.size by omega))
    have HN := hide ((oE.n.put14 (g := w.heap.size) (by omega) (.int .i64 b.id) (.int .i64 b.ep) (.int .i64 b.rd) (.string b.md) (.int .i64 b.qr) (.int .i64 b.qb) (.slice aq b.qw.length cq) (.int .i64 b.tr) (.slice aw b.tw.length cw) (.slice ah b.th.length ch) (.slice at_ b.ts.length ct) (.bool b.en) (.slice an b.nx.length cn) (.string b.rt)).mono (show w.heap.size ≤ w1.heap.size by omega))
    have hbR := below_put14 w4 w.heap.size (.int .i64 b.id) (.int .i64 b.ep) (.int .i64 b.rd) (.string b.md) (.int .i64 b.qr) (.int .i64 b.qb) (.slice aq b.qw.length cq) (.int .i64 b.tr) (.slice aw b.tw.length cw) (.slice ah b.th.length ch) (.slice at_ b.ts.length ct) (.bool b.en) (.slice an b.nx.length cn) (.string b.rt)
    have HC := hide (cE.below hbR hgl)
    have HG := hide (grw_below gE hbR (Nat.le_refl _))
    have t0 := tE.cell 0
    have e0 := kE.cell 0
    have f0 := kE.frozen 0
    have t1 := tE.cell 1
    have e1 := kE.cell 1
    have f1 := kE.frozen 1
    have t2 := tE.cell 2
    have e2 := kE.cell 2
    have f2 := kE.frozen 2
    have t3 := tE.cell 3
    have e3 := kE.cell 3
    have f3 := kE.frozen 3
    have t4 := tE.cell 4
    have e4 := kE.cell 4
    have f4 := kE.frozen 4
    have t5 := tE.cell 5
    have e5 := kE.cell 5
    have f5 := kE.frozen 5
    have t6 := tE.cell 6
    have e6 := kE.cell 6
    have f6 := kE.frozen 6
    have t7 := tE.cell 7
    have e7 := kE.cell 7
    have f7 := kE.frozen 7
    have t8 := tE.cell 8
    have e8 := kE.cell 8
    have f8 := kE.frozen 8
    have t9 := tE.cell 9
    have e9 := kE.cell 9
    have f9 := kE.frozen 9
    have t10 := tE.cell 10
    have e10 := kE.cell 10
    have f10 := kE.frozen 10
    have t11 := tE.cell 11
    have e11 := kE.cell 11
    have f11 := kE.frozen 11
    have t12 := tE.cell 12
    have e12 := kE.cell 12
    have f12 := kE.frozen 12
    have t13 := tE.cell 13
    have e13 := kE.cell 13
    have f13 := kE.frozen 13
    simp only [List.getElem?_cons_zero, List.getElem?_cons_succ] at t0 e0 t1 e1 t2 e2 t3 e3 t4 e4 t5 e5 t6 e6 t7 e7 t8 e8 t9 e9 t10 e10 t11 e11 t12 e12 t13 e13
    clear oE cE gE tE kE hbR
    go_wp2
    refine bodyPost_ret (v := .agg #[.int .i64 b.id, .int .i64 b.ep, .int .i64 b.rd, .string b.md, .int .i64 b.qr, .int .i64 b.qb, .slice aq b.qw.length cq, .int .i64 b.tr, .slice aw b.tw.length cw, .slice ah b.th.length ch, .slice at_ b.ts.length ct, .bool b.en, .slice an b.nx.length cn, .string b.rt]) (by simp [results, Tryz.f57, go_sem, e0, e1, e2, e3, e4, e5, e6, e7, e8, e9, e10, e11, e12, e13]) rfl ?_
    exact ⟨b, ⟨_, _, _, _, _⟩, rfl, ⟨HQ.out, HP.out, HH.out, HT.out, HN.out⟩, HK.out.bent, HC.out, HG.out⟩
  · have HB := hide (l9Bend_any w0 w4 g cv code b ⟨.slice aq b.qw.length cq, .slice aw b.tw.length cw, .slice ah b.th.length ch, .slice at_ b.ts.length ct, .slice an b.nx.length cn⟩ hc4 hl o4.rd HK.out)
    simp only [bkV] at HB
    have x0 := t4.cell 0
    have x1 := t4.cell 1
    have x2 := t4.cell 2
    have x3 := t4.cell 3
    have x4 := t4.cell 4
    have x5 := t4.cell 5
    have x6 := t4.cell 6
    have x7 := t4.cell 7
    have x8 := t4.cell 8
    have x9 := t4.cell 9
    have x10 := t4.cell 10
    have x11 := t4.cell 11
    have x12 := t4.cell 12
    have x13 := t4.cell 13
    simp only [List.getElem?_cons_zero, List.getElem?_cons_succ] at x0 x1 x2 x3 x4 x5 x6 x7 x8 x9 x10 x11 x12 x13
    have HT4 := hide t4
    have HK4 := hide k4
    have HG4 := hide hG4
    clear t4 k4 hG4 o4 hc4
    go_wp2_with fail
    refine HB.out.mono ?_
    rintro e w5 ⟨b', v5, rfl, o5, hS5, hc5, hg5⟩
    have HS5 := hide hS5
    have z5 := hg5.size
    have t5 := blk_notg5 HT4.out hg5 (by omega)
    have k5 := blk_notg5 HK4.out hg5 (by omega)
    have hG5 := grw_trans HG4.out hg5
    clear x0 x1 x2 x3 x4 x5 x6 x7 x8 x9 x10 x11 x12 x13 HB HT4 HK4 HG4 hS5
    obtain ⟨vq5, vw5, vh5, vt5, vn5⟩ := v5
    obtain ⟨aq5, cq5, hvq5⟩ := o5.q.rd.shape
    obtain ⟨aw5, cw5, hvw5⟩ := o5.p.rd.shape
    obtain ⟨ah5, ch5, hvh5⟩ := o5.h.rd.shape
    obtain ⟨at5, ct5, hvt5⟩ := o5.t.rd.shape
    obtain ⟨an5, cn5, hvn5⟩ := o5.n.rd.shape
    simp only at hvq5 hvw5 hvh5 hvt5 hvn5
    subst hvq5 hvw5 hvh5 hvt5 hvn5
    simp only
    have y0 := t5.cell 0
    have g0 := t5.frozen 0
    have y1 := t5.cell 1
    have g1 := t5.frozen 1
    have y2 := t5.cell 2
    have g2 := t5.frozen 2
    have y3 := t5.cell 3
    have g3 := t5.frozen 3
    have y4 := t5.cell 4
    have g4 := t5.frozen 4
    have y5 := t5.cell 5
    have g5 := t5.frozen 5
    have y6 := t5.cell 6
    have g6 := t5.frozen 6
    have y7 := t5.cell 7
    have g7 := t5.frozen 7
    have y8 := t5.cell 8
    have g8 := t5.frozen 8
    have y9 := t5.cell 9
    have g9 := t5.frozen 9
    have y10 := t5.cell 10
    have g10 := t5.frozen 10
    have y11 := t5.cell 11
    have g11 := t5.frozen 11
    have y12 := t5.cell 12
    have g12 := t5.frozen 12
    have y13 := t5.cell 13
    have g13 := t5.frozen 13
    simp only [List.getElem?_cons_zero, List.getElem?_cons_succ] at y0 y1 y2 y3 y4 y5 y6 y7 y8 y9 y10 y11 y12 y13
    obtain ⟨S1, hS1⟩ : ∃ x, ((((((((((((((w5).setCell ⟨w2.heap.size, 0, none⟩ (.int .i64 b'.id)).setCell ⟨w2.heap.size, 1, none⟩ (.int .i64 b'.ep)).setCell ⟨w2.heap.size, 2, none⟩ (.int .i64 b'.rd)).setCell ⟨w2.heap.size, 3, none⟩ (.string b'.md)).setCell ⟨w2.heap.size, 4, none⟩ (.int .i64 b'.qr)).setCell ⟨w2.heap.size, 5, none⟩ (.int .i64 b'.qb)).setCell ⟨w2.heap.size, 6, none⟩ (.slice aq5 b'.qw.length cq5)).setCell ⟨w2.heap.size, 7, none⟩ (.int .i64 b'.tr)).setCell ⟨w2.heap.size, 8, none⟩ (.slice aw5 b'.tw.length cw5)).setCell ⟨w2.heap.size, 9, none⟩ (.slice ah5 b'.th.length ch5)).setCell ⟨w2.heap.size, 10, none⟩ (.slice at5 b'.ts.length ct5)).setCell ⟨w2.heap.size, 11, none⟩ (.bool b'.en)).setCell ⟨w2.heap.size, 12, none⟩ (.slice an5 b'.nx.length cn5)).setCell ⟨w2.heap.size, 13, none⟩ (.string b'.rt) = x := ⟨_, rfl⟩
    have hbp := below_put14 w5 w2.heap.size (.int .i64 b'.id) (.int .i64 b'.ep) (.int .i64 b'.rd) (.string b'.md) (.int .i64 b'.qr) (.int .i64 b'.qb) (.slice aq5 b'.qw.length cq5) (.int .i64 b'.tr) (.slice aw5 b'.tw.length cw5) (.slice ah5 b'.th.length ch5) (.slice at5 b'.ts.length ct5) (.bool b'.en) (.slice an5 b'.nx.length cn5) (.string b'.rt)
    have tE : Blk S1 w2.heap.size 32 [.int .i64 b'.id, .int .i64 b'.ep, .int .i64 b'.rd, .string b'.md, .int .i64 b'.qr, .int .i64 b'.qb, .slice aq5 b'.qw.length cq5, .int .i64 b'.tr, .slice aw5 b'.tw.length cw5, .slice ah5 b'.th.length ch5, .slice at5 b'.ts.length ct5, .bool b'.en, .slice an5 b'.nx.length cn5, .string b'.rt] := by rw [← hS1]; exact ((((((((((((((t5.setC 0 _).setC 1 _).setC 2 _).setC 3 _).setC 4 _).setC 5 _).setC 6 _).setC 7 _).setC 8 _).setC 9 _).setC 10 _).setC 11 _).setC 12 _).setC 13 _)
    have kE : Blk S1 w.heap.size 32 [.int .i64 0, .int .i64 0, .int .i64 0, .string { data := #[] }, .int .i64 0, .int .i64 0, .slice none 0 0, .int .i64 0, .slice none 0 0, .slice none 0 0, .slice none 0 0, .bool false, .slice none 0 0, .string { data := #[] }] := by rw [← hS1]; exact ((((((((((((((k5.otherC w2.heap.size 0 _ (by omega)).otherC w2.heap.size 1 _ (by omega)).otherC w2.heap.size 2 _ (by omega)).otherC w2.heap.size 3 _ (by omega)).otherC w2.heap.size 4 _ (by omega)).otherC w2.heap.size 5 _ (by omega)).otherC w2.heap.size 6 _ (by omega)).otherC w2.heap.size 7 _ (by omega)).otherC w2.heap.size 8 _ (by omega)).otherC w2.heap.size 9 _ (by omega)).otherC w2.heap.size 10 _ (by omega)).otherC w2.heap.size 11 _ (by omega)).otherC w2.heap.size 12 _ (by omega)).otherC w2.heap.size 13 _ (by omega))
    have oE : OwnK w4.heap.size S1 b' ⟨.slice aq5 b'.qw.length cq5, .slice aw5 b'.tw.length cw5, .slice ah5 b'.th.length ch5, .slice at5 b'.ts.length ct5, .slice an5 b'.nx.length cn5⟩ := by
      rw [← hS1]
      exact ⟨o5.q.put14 (g := w2.heap.size) (by omega) (.int .i64 b'.id) (.int .i64 b'.ep) (.int .i64 b'.rd) (.string b'.md) (.int .i64 b'.qr) (.int .i64 b'.qb) (.slice aq5 b'.qw.length cq5) (.int .i64 b'.tr) (.slice aw5 b'.tw.length cw5) (.slice ah5 b'.th.length ch5) (.slice at5 b'.ts.length ct5) (.bool b'.en) (.slice an5 b'.nx.length cn5) (.string b'.rt), o5.p.put14 (g := w2.heap.size) (by omega) (.int .i64 b'.id) (.int .i64 b'.ep) (.int .i64 b'.rd) (.string b'.md) (.int .i64 b'.qr) (.int .i64 b'.qb) (.slice aq5 b'.qw.length cq5) (.int .i64 b'.tr) (.slice aw5 b'.tw.length cw5) (.slice ah5 b'.th.length ch5) (.slice at5 b'.ts.length ct5) (.bool b'.en) (.slice an5 b'.nx.length cn5) (.string b'.rt), o5.h.put14 (g := w2.heap.size) (by omega) (.int .i64 b'.id) (.int .i64 b'.ep) (.int .i64 b'.rd) (.string b'.md) (.int .i64 b'.qr) (.int .i64 b'.qb) (.slice aq5 b'.qw.length cq5) (.int .i64 b'.tr) (.slice aw5 b'.tw.length cw5) (.slice ah5 b'.th.length ch5) (.slice at5 b'.ts.length ct5) (.bool b'.en) (.slice an5 b'.nx.length cn5) (.string b'.rt), o5.t.put14 (g := w2.heap.size) (by omega) (.int .i64 b'.id) (.int .i64 b'.ep) (.int .i64 b'.rd) (.string b'.md) (.int .i64 b'.qr) (.int .i64 b'.qb) (.slice aq5 b'.qw.length cq5) (.int .i64 b'.tr) (.slice aw5 b'.tw.length cw5) (.slice ah5 b'.th.length ch5) (.slice at5 b'.ts.length ct5) (.bool b'.en) (.slice an5 b'.nx.length cn5) (.string b'.rt), o5.n.put14 (g := w2.heap.size) (by omega) (.int .i64 b'.id) (.int .i64 b'.ep) (.int .i64 b'.rd) (.string b'.md) (.int .i64 b'.qr) (.int .i64 b'.qb) (.slice aq5 b'.qw.length cq5) (.int .i64 b'.tr) (.slice aw5 b'.tw.length cw5) (.slice ah5 b'.th.length ch5) (.slice at5 b'.ts.length ct5) (.bool b'.en) (.slice an5 b'.nx.length cn5) (.string b'.rt)⟩
    have cE : Cur w0 S1 g cv code := by rw [← hS1]; exact hc5.below hbp (by omega)
    have gE : w.grownBy S1 (some g) := by rw [← hS1]; exact grw_below hG5 hbp (by omega)
    clear hbp o5 hc5 hG5 t5 k5
    have HQ := hide ((oE.q.put14 (g := w.heap.size) (by omega) (.int .i64 b'.id) (.int .i64 b'.ep) (.int .i64 b'.rd) (.string b'.md) (.int .i64 b'.qr) (.int .i64 b'.qb) (.slice aq5 b'.qw.length cq5) (.int .i64 b'.tr) (.slice aw5 b'.tw.length cw5) (.slice ah5 b'.th.length ch5) (.slice at5 b'.ts.length ct5) (.bool b'.en) (.slice an5 b'.nx.length cn5) (.string b'.rt)).mono (show w.heap.size ≤ w4.heap.size by omega))
    have HP := hide ((oE.p.put14 (g := w.heap.size) (by omega) (.int .i64 b'.id) (.int .i64 b'.ep) (.int .i64 b'.rd) (.string b'.md) (.int .i64 b'.qr) (.int .i64 b'.qb) (.slice aq5 b'.qw.length cq5) (.int .i64 b'.tr) (.slice aw5 b'.tw.length cw5) (.slice ah5 b'.th.length ch5) (.slice at5 b'.ts.length ct5) (.bool b'.en) (.slice an5 b'.nx.length cn5) (.string b'.rt)).mono (show w.heap.size ≤ w4.heap.size by omega))
    have HH := hide ((oE.h.put14 (g := w.heap.size) (by omega) (.int .i64 b'.id) (.int .i64 b'.ep) (.int .i64 b'.rd) (.string b'.md) (.int .i64 b'.qr) (.int .i64 b'.qb) (.slice aq5 b'.qw.length cq5) (.int .i64 b'.tr) (.slice aw5 b'.tw.length cw5) (.slice ah5 b'.th.length ch5) (.slice at5 b'.ts.length ct5) (.bool b'.en) (.slice an5 b'.nx.length cn5) (.string b'.rt)).mono (show w.heap.size ≤ w4.heap.size by omega))
    have HT := hide ((oE.t.put14 (g := w.heap.size) (by omega) (.int .i64 b'.id) (.int .i64 b'.ep) (.int .i64 b'.rd) (.string b'.md) (.int .i64 b'.qr) (.int .i64 b'.qb) (.slice aq5 b'.qw.length cq5) (.int .i64 b'.tr) (.slice aw5 b'.tw.length cw5) (.slice ah5 b'.th.length ch5) (.slice at5 b'.ts.length ct5) (.bool b'.en) (.slice an5 b'.nx.length cn5) (.string b'.rt)).mono (show w.heap.size ≤ w4.heap.size by omega))
    have HN := hide ((oE.n.put14 (g := w.heap.size) (by omega) (.int .i64 b'.id) (.int .i64 b'.ep) (.int .i64 b'.rd) (.string b'.md) (.int .i64 b'.qr) (.int .i64 b'.qb) (.slice aq5 b'.qw.length cq5) (.int .i64 b'.tr) (.slice aw5 b'.tw.length cw5) (.slice ah5 b'.th.length ch5) (.slice at5 b'.ts.length ct5) (.bool b'.en) (.slice an5 b'.nx.length cn5) (.string b'.rt)).mono (show w.heap.size ≤ w4.heap.size by omega))
    have hbR := below_put14 S1 w.heap.size (.int .i64 b'.id) (.int .i64 b'.ep) (.int .i64 b'.rd) (.string b'.md) (.int .i64 b'.qr) (.int .i64 b'.qb) (.slice aq5 b'.qw.length cq5) (.int .i64 b'.tr) (.slice aw5 b'.tw.length cw5) (.slice ah5 b'.th.length ch5) (.slice at5 b'.ts.length ct5) (.bool b'.en) (.slice an5 b'.nx.length cn5) (.string b'.rt)
    have HC := hide (cE.below hbR hgl)
    have HG := hide (grw_below gE hbR (Nat.le_refl _))
    have t0 := tE.cell 0
    have e0 := kE.cell 0
    have f0 := kE.frozen 0
    have t1 := tE.cell 1
    have e1 := kE.cell 1
    have f1 := kE.frozen 1
    have t2 := tE.cell 2
    have e2 := kE.cell 2
    have f2 := kE.frozen 2
    have t3 := tE.cell 3
    have e3 := kE.cell 3
    have f3 := kE.frozen 3
    have t4 := tE.cell 4
    have e4 := kE.cell 4
    have f4 := kE.frozen 4
    have t5 := tE.cell 5
    have e5 := kE.cell 5
    have f5 := kE.frozen 5
    have t6 := tE.cell 6
    have e6 := kE.cell 6
    have f6 := kE.frozen 6
    have t7 := tE.cell 7
    have e7 := kE.cell 7
    have f7 := kE.frozen 7
    have t8 := tE.cell 8
    have e8 := kE.cell 8
    have f8 := kE.frozen 8
    have t9 := tE.cell 9
    have e9 := kE.cell 9
    have f9 := kE.frozen 9
    have t10 := tE.cell 10
    have e10 := kE.cell 10
    have f10 := kE.frozen 10
    have t11 := tE.cell 11
    have e11 := kE.cell 11
    have f11 := kE.frozen 11
    have t12 := tE.cell 12
    have e12 := kE.cell 12
    have f12 := kE.frozen 12
    have t13 := tE.cell 13
    have e13 := kE.cell 13
    have f13 := kE.frozen 13
    simp only [List.getElem?_cons_zero, List.getElem?_cons_succ] at t0 e0 t1 e1 t2 e2 t3 e3 t4 e4 t5 e5 t6 e6 t7 e7 t8 e8 t9 e9 t10 e10 t11 e11 t12 e12 t13 e13
    clear oE cE gE tE kE hbR
    go_wp2
    (try rw [hS1])
    refine bodyPost_ret (v := .agg #[.int .i64 b'.id, .int .i64 b'.ep, .int .i64 b'.rd, .string b'.md, .int .i64 b'.qr, .int .i64 b'.qb, .slice aq5 b'.qw.length cq5, .int .i64 b'.tr, .slice aw5 b'.tw.length cw5, .slice ah5 b'.th.length ch5, .slice at5 b'.ts.length ct5, .bool b'.en, .slice an5 b'.nx.length cn5, .string b'.rt]) (by simp [results, Tryz.f57, go_sem, e0, e1, e2, e3, e4, e5, e6, e7, e8, e9, e10, e11, e12, e13]) rfl ?_
    exact ⟨b', ⟨_, _, _, _, _⟩, rfl, ⟨HQ.out, HP.out, HH.out, HT.out, HN.out⟩, HS5.out, HC.out, HG.out⟩
set_option maxRecDepth 20000 in
set_option maxHeartbeats 4000000 in
theorem drawPutBlock_any (w : World) (cv : Value) (code : List UInt8) (hr : RdB w cv code) (hl : code.length ≤ 1048576) :
    Calls Tryz.prog 18 #[cv] w fun e w' => ∃ (b : Bk) (bv : Bv), e = .returned (bkV b bv) ∧ RdK w' b bv ∧ SmB b ∧ Below w.heap.size w w' := by
  obtain ⟨a, c, rfl⟩ : ∃ a c, cv = .slice a code.length c := by
    rcases hr with ⟨a, c, h1, h2, -⟩ | ⟨b, off, c, h0, h1, _⟩
    · subst h2; exact ⟨a, c, h1⟩
    · exact ⟨_, c, h1⟩
  obtain ⟨w1, hw1⟩ : ∃ x, w.alloc (.cells #[.int .i64 0, .int .i64 0, .int .i64 0, .string { data := #[] }, .int .i64 0, .int .i64 0, .slice none 0 0, .int .i64 0, .slice none 0 0, .slice none 0 0, .slice none 0 0, .bool false, .slice none 0 0, .string { data := #[] }] 32) = x := ⟨_, rfl⟩
  have b1 : Below w.heap.size w w1 := by rw [← hw1]; exact (Below.refl _ w).alloc (Nat.le_refl _) _
  have z1 : w1.heap.size = w.heap.size + 1 := by rw [← hw1]; simp
  have K1 : Hid (Blk w1 w.heap.size 32 [.int .i64 0, .int .i64 0, .int .i64 0, .string { data := #[] }, .int .i64 0, .int .i64 0, .slice none 0 0, .int .i64 0, .slice none 0 0, .slice none 0 0, .slice none 0 0, .bool false, .slice none 0 0, .string { data := #[] }]) := hide (by rw [← hw1]; exact Blk.new w _ _)
  have HN := hide (l1New_any w1 (.slice a code.length c) code (hr.below b1 (Nat.le_refl _)) hl)
  have HB1 := hide b1
  have Hz1 := hide z1
  clear hr b1 z1
  go_enter Tryz.func18, Tryz.ntmps18
  go_wp2_with fail
  refine HN.out.mono ?_
  rintro e w2 ⟨rfl, hc2, hb2⟩
  have HC2 := hide hc2
  have z2 := hc2.lt
  have K2 := hide (K1.out.below hb2 K1.out.lt)
  clear hc2 hb2 HN K1 hw1
  go_wp2_with fail
  refine (l9Any_any w1 w2 w1.heap.size _ code HC2.out hl).mono ?_
  rintro e w5 ⟨b, v5, rfl, o5, hS5, hc5, hg5⟩
  have z5 := hg5.size
  have zz := Hz1.out
  have k5 := blk_notg5 K2.out hg5 (by omega)
  have HS5 := hide hS5
  obtain ⟨vq5, vw5, vh5, vt5, vn5⟩ := v5
  obtain ⟨aq5, cq5, hvq5⟩ := o5.q.rd.shape
  obtain ⟨aw5, cw5, hvw5⟩ := o5.p.rd.shape
  obtain ⟨ah5, ch5, hvh5⟩ := o5.h.rd.shape
  obtain ⟨at5, ct5, hvt5⟩ := o5.t.rd.shape
  obtain ⟨an5, cn5, hvn5⟩ := o5.n.rd.shape
  simp only at hvq5 hvw5 hvh5 hvt5 hvn5
  subst hvq5 hvw5 hvh5 hvt5 hvn5
  simp only [bkV]
  have e0 := k5.cell 0
  have f0 := k5.frozen 0
  have e1 := k5.cell 1
  have f1 := k5.frozen 1
  have e2 := k5.cell 2
  have f2 := k5.frozen 2
  have e3 := k5.cell 3
  have f3 := k5.frozen 3
  have e4 := k5.cell 4
  have f4 := k5.frozen 4
  have e5 := k5.cell 5
  have f5 := k5.frozen 5
  have e6 := k5.cell 6
  have f6 := k5.frozen 6
  have e7 := k5.cell 7
  have f7 := k5.frozen 7
  have e8 := k5.cell 8
  have f8 := k5.frozen 8
  have e9 := k5.cell 9
  have f9 := k5.frozen 9
  have e10 := k5.cell 10
  have f10 := k5.frozen 10
  have e11 := k5.cell 11
  have f11 := k5.frozen 11
  have e12 := k5.cell 12
  have f12 := k5.frozen 12
  have e13 := k5.cell 13
  have f13 := k5.frozen 13
  simp only [List.getElem?_cons_zero, List.getElem?_cons_succ] at e0 e1 e2 e3 e4 e5 e6 e7 e8 e9 e10 e11 e12 e13
  have Q9 := hide (OwnK.rd ⟨o5.q.put14 (g := w.heap.size) (by omega) (.int .i64 b.id) (.int .i64 b.ep) (.int .i64 b.rd) (.string b.md) (.int .i64 b.qr) (.int .i64 b.qb) (.slice aq5 b.qw.length cq5) (.int .i64 b.tr) (.slice aw5 b.tw.length cw5) (.slice ah5 b.th.length ch5) (.slice at5 b.ts.length ct5) (.bool b.en) (.slice an5 b.nx.length cn5) (.string b.rt), o5.p.put14 (g := w.heap.size) (by omega) (.int .i64 b.id) (.int .i64 b.ep) (.int .i64 b.rd) (.string b.md) (.int .i64 b.qr) (.int .i64 b.qb) (.slice aq5 b.qw.length cq5) (.int .i64 b.tr) (.slice aw5 b.tw.length cw5) (.slice ah5 b.th.length ch5) (.slice at5 b.ts.length ct5) (.bool b.en) (.slice an5 b.nx.length cn5) (.string b.rt), o5.h.put14 (g := w.heap.size) (by omega) (.int .i64 b.id) (.int .i64 b.ep) (.int .i64 b.rd) (.string b.md) (.int .i64 b.qr) (.int .i64 b.qb) (.slice aq5 b.qw.length cq5) (.int .i64 b.tr) (.slice aw5 b.tw.length cw5) (.slice ah5 b.th.length ch5) (.slice at5 b.ts.length ct5) (.bool b.en) (.slice an5 b.nx.length cn5) (.string b.rt), o5.t.put14 (g := w.heap.size) (by omega) (.int .i64 b.id) (.int .i64 b.ep) (.int .i64 b.rd) (.string b.md) (.int .i64 b.qr) (.int .i64 b.qb) (.slice aq5 b.qw.length cq5) (.int .i64 b.tr) (.slice aw5 b.tw.length cw5) (.slice ah5 b.th.length ch5) (.slice at5 b.ts.length ct5) (.bool b.en) (.slice an5 b.nx.length cn5) (.string b.rt), o5.n.put14 (g := w.heap.size) (by omega) (.int .i64 b.id) (.int .i64 b.ep) (.int .i64 b.rd) (.string b.md) (.int .i64 b.qr) (.int .i64 b.qb) (.slice aq5 b.qw.length cq5) (.int .i64 b.tr) (.slice aw5 b.tw.length cw5) (.slice ah5 b.th.length ch5) (.slice at5 b.ts.length ct5) (.bool b.en) (.slice an5 b.nx.length cn5) (.string b.rt)⟩)
  have B9 := hide ((HB1.out.trans (hc5.bel.mono (by omega))).trans (below_put14 w5 w.heap.size (.int .i64 b.id) (.int .i64 b.ep) (.int .i64 b.rd) (.string b.md) (.int .i64 b.qr) (.int .i64 b.qb) (.slice aq5 b.qw.length cq5) (.int .i64 b.tr) (.slice aw5 b.tw.length cw5) (.slice ah5 b.th.length ch5) (.slice at5 b.ts.length ct5) (.bool b.en) (.slice an5 b.nx.length cn5) (.string b.rt)))
  clear k5 o5 hc5 hg5 hS5 K2 HC2 zz
  go_wp2
  refine bodyPost_ret (v := .agg #[.int .i64 b.id, .int .i64 b.ep, .int .i64 b.rd, .string b.md, .int .i64 b.qr, .int .i64 b.qb, .slice aq5 b.qw.length cq5, .int .i64 b.tr, .slice aw5 b.tw.length cw5, .slice ah5 b.th.length ch5, .slice at5 b.ts.length ct5, .bool b.en, .slice an5 b.nx.length cn5, .string b.rt]) (by simp [results, Tryz.f18, go_sem, e0, e1, e2, e3, e4, e5, e6, e7, e8, e9, e10, e11, e12, e13]) rfl ?_
  exact ⟨b, ⟨_, _, _, _, _⟩, rfl, Q9.out, HS5.out, B9.out⟩
end Go.Proofs.YtcmmdkabocfnfaaGreatDoor
