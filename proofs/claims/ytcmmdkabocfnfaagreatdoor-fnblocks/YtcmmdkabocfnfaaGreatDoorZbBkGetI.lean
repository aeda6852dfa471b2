/- The landed code's GetBlock. -/
import Derived.Test.YtcmmdkabocfnfaaGreatDoorZbBkGetO
import Derived.Test.YtcmmdkabocfnfaaGreatDoorZbBkGetP
namespace Go.Proofs.YtcmmdkabocfnfaaGreatDoor
open Go.RowKit
set_option linter.unusedVariables false

theorem gI_false {l : List UInt8} (h : (gI l).2 = false) : gI l = (bk0, false) := by
  unfold gI at h ⊢
  split at h
  · cases h
  · rename_i h2; rw [if_neg h2]
theorem implBlockOf_any (v : Value) (l : List UInt8) (w : World) (b0 : Addr) (hr : RdB w v l) (hl : l.length ≤ 1048576) (hge : Ge w b0) (hG : 0 < w.heap.size) :
    Calls Tryz.prog 28 #[v] w fun e w' => ∃ u E, e = .returned (.tuple #[bkV (gI l).1 u, E]) ∧ OfOk w.heap.size w' (gI l) b0 u E ∧ Below w.heap.size w w' := by
  have hr0 := hr
  rcases hr with ⟨a, cap, rfl, rfl, hn⟩ | ⟨b, off, cap, hne, rfl, h1, h2, h3, h4⟩
  · cases a with
    | none =>
      have hc := hn rfl
      subst hc
      exact bofA [] w b0 hr0 hr0 hl hge hG
    | some ad => exact bofB ad cap [] w b0 hr0 (.inl ⟨some ad, 0, rfl, rfl, fun h => by cases h⟩) hl hge hG
  · exact bofC b off cap l w b0 hr0 (.inr ⟨b, off, l.length, hne, rfl, Nat.le_refl _, Nat.le_trans h1 h2, h3, h4⟩) hl hge hG h1 h2
set_option maxRecDepth 20000 in
set_option maxHeartbeats 8000000 in
theorem implGetBlock_any (v : Value) (l : List UInt8) (w : World) (b0 : Addr) (hr : RdB w v l) (hl : l.length ≤ 1048576) (hge : Ge w b0) (hG : 0 < w.heap.size) :
    Calls Tryz.prog 8 #[v] w fun e w' => ∃ u, e = .returned (.tuple #[bkV (gI l).1 u, .bool (gI l).2]) ∧ OwnK w.heap.size w' (gI l).1 u ∧ (∀ x, u.q.ownBlock = some x → u.w.ownBlock ≠ some x) ∧ Below w.heap.size w w' := by
  obtain ⟨w1, hw1⟩ : ∃ x, w.alloc (.cells #[.int .i64 0, .int .i64 0, .int .i64 0, .string { data := #[] }, .int .i64 0, .int .i64 0, .slice none 0 0, .int .i64 0, .slice none 0 0, .slice none 0 0, .slice none 0 0, .bool false, .slice none 0 0, .string { data := #[] }] 32) = x := ⟨_, rfl⟩
  have b1 : Below w.heap.size w w1 := by rw [← hw1]; exact (Below.refl _ w).alloc (Nat.le_refl _) _
  have m1 : Blk w1 w.heap.size 32 [.int .i64 0, .int .i64 0, .int .i64 0, .string { data := #[] }, .int .i64 0, .int .i64 0, .slice none 0 0, .int .i64 0, .slice none 0 0, .slice none 0 0, .slice none 0 0, .bool false, .slice none 0 0, .string { data := #[] }] := by rw [← hw1]; exact Blk.new w _ _
  have C0 := hide (implBlockOf_any v l w1 b0 (hr.below b1 (Nat.le_refl _)) hl (hge.below b1 hG) (Nat.lt_of_lt_of_le hG b1.size))
  have Hf := hide (@gI_false l)
  obtain ⟨a, cap, rfl⟩ := hr.shape
  have Hge := hide hge
  have HB1 := hide b1
  have Hm1 := hide m1
  generalize gI l = G at C0 Hf ⊢
  clear hr hge b1 m1
  go_enter Tryz.func8, Tryz.ntmps8
  go_wp2_with fail
  refine C0.out.mono ?_
  rintro e w2 ⟨u, E, rfl, ⟨ok2, hne2, hE⟩, hb2⟩
  have hB2 := HB1.out.trans (hb2.mono HB1.out.size)
  have m2 := Hm1.out.below hb2 Hm1.out.lt
  have zm := Hm1.out.lt
  obtain ⟨X, o⟩ := G
  simp only at ok2 hE
  obtain ⟨id, ep, rd, mk, qr, qb, qw, tr, tw, th, ts, en, nx, rt⟩ := X
  obtain ⟨aq, cq, aw, cw, ah, ch, at_, ct, an, cn, rfl⟩ := ok2.rd.shapes9g
  simp only [bkV] at *
  obtain ⟨w3, hw3⟩ : ∃ x, w2.alloc (.cells #[.int .i64 id, .int .i64 ep, .int .i64 rd, .string mk, .int .i64 qr, .int .i64 qb, .slice aq qw.length cq, .int .i64 tr, .slice aw tw.length cw, .slice ah th.length ch, .slice at_ ts.length ct, .bool en, .slice an nx.length cn, .string rt] 32) = x := ⟨_, rfl⟩
  have b3 : Below w2.heap.size w2 w3 := by rw [← hw3]; exact (Below.refl _ w2).alloc (Nat.le_refl _) _
  have j3 : Blk w3 w2.heap.size 32 [.int .i64 id, .int .i64 ep, .int .i64 rd, .string mk, .int .i64 qr, .int .i64 qb, .slice aq qw.length cq, .int .i64 tr, .slice aw tw.length cw, .slice ah th.length ch, .slice at_ ts.length ct, .bool en, .slice an nx.length cn, .string rt] := by rw [← hw3]; exact Blk.new w2 _ _
  have m3 := m2.below b3 m2.lt
  have hB3 := hB2.trans (b3.mono hB2.size)
  have ok3 := ok2.belowK b3
  have e0 := Hge.out.below hB3 hG
  unfold Ge at e0
  clear hb2 hB2 m2 b3 ok2 C0 Hm1 HB1 hw1
  rcases hE with ⟨rfl, rfl⟩ | ⟨rfl, why, rfl⟩
  · have CI := hide (is_none b0 w3)
    have Hb := hide (hB3.trans ((below_put14 w3 w.heap.size (.int .i64 id) (.int .i64 ep) (.int .i64 rd) (.string mk) (.int .i64 qr) (.int .i64 qb) (.slice aq qw.length cq) (.int .i64 tr) (.slice aw tw.length cw) (.slice ah th.length ch) (.slice at_ ts.length ct) (.bool en) (.slice an nx.length cn) (.string rt)).mono (Nat.le_refl _)))
    have HoF := hide ((ok3.put14 (g := w.heap.size) (by omega) (.int .i64 id) (.int .i64 ep) (.int .i64 rd) (.string mk) (.int .i64 qr) (.int .i64 qb) (.slice aq qw.length cq) (.int .i64 tr) (.slice aw tw.length cw) (.slice ah th.length ch) (.slice at_ ts.length ct) (.bool en) (.slice an nx.length cn) (.string rt)).mono (show w.heap.size ≤ w1.heap.size by omega))
    have Hne := hide hne2
    have e0 := j3.cell 0
    have e1 := j3.cell 1
    have e2 := j3.cell 2
    have e3 := j3.cell 3
    have e4 := j3.cell 4
    have e5 := j3.cell 5
    have e6 := j3.cell 6
    have e7 := j3.cell 7
    have e8 := j3.cell 8
    have e9 := j3.cell 9
    have e10 := j3.cell 10
    have e11 := j3.cell 11
    have e12 := j3.cell 12
    have e13 := j3.cell 13
    simp only [List.getElem?_cons_zero, List.getElem?_cons_succ] at e0 e1 e2 e3 e4 e5 e6 e7 e8 e9 e10 e11 e12 e13
    have t0 := m3.cell 0
    have t1 := m3.cell 1
    have t2 := m3.cell 2
    have t3 := m3.cell 3
    have t4 := m3.cell 4
    have t5 := m3.cell 5
    have t6 := m3.cell 6
    have t7 := m3.cell 7
    have t8 := m3.cell 8
    have t9 := m3.cell 9
    have t10 := m3.cell 10
    have t11 := m3.cell 11
    have t12 := m3.cell 12
    have t13 := m3.cell 13
    have g0 := m3.frozen 0
    have g1 := m3.frozen 1
    have g2 := m3.frozen 2
    have g3 := m3.frozen 3
    have g4 := m3.frozen 4
    have g5 := m3.frozen 5
    have g6 := m3.frozen 6
    have g7 := m3.frozen 7
    have g8 := m3.frozen 8
    have g9 := m3.frozen 9
    have g10 := m3.frozen 10
    have g11 := m3.frozen 11
    have g12 := m3.frozen 12
    have g13 := m3.frozen 13
    simp only [List.getElem?_cons_zero, List.getElem?_cons_succ] at t0 t1 t2 t3 t4 t5 t6 t7 t8 t9 t10 t11 t12 t13
    clear j3 m3 ok3 hB3 hne2 Hf Hge
    go_wp2_with (go_at_call 29; refine CI.out.mono ?_; rintro en7 w7 ⟨rfl, rfl⟩)
    refine bodyPost_ret (v := .tuple #[.agg #[.int .i64 id, .int .i64 ep, .int .i64 rd, .string mk, .int .i64 qr, .int .i64 qb, .slice aq qw.length cq, .int .i64 tr, .slice aw tw.length cw, .slice ah th.length ch, .slice at_ ts.length ct, .bool en, .slice an nx.length cn, .string rt], .bool true]) (by simp [results, Tryz.f8, go_sem, t0, t1, t2, t3, t4, t5, t6, t7, t8, t9, t10, t11, t12, t13]) rfl ?_
    exact ⟨⟨_, _, _, _, _⟩, rfl, HoF.out, Hne.out, Hb.out⟩
  · have hbk := Hf.out rfl
    have CI := hide (is_flaw why b0 w3)
    have Hm3 := hide m3
    have HB3 := hide hB3
    clear j3 m3 ok3 hB3 hne2 Hge Hf
    go_wp2_with fail
    refine CI.out.mono ?_
    rintro en7 w7 ⟨rfl, hb7⟩
    have m7 := Hm3.out.below hb7 Hm3.out.lt
    have hB7 := HB3.out.trans (hb7.mono HB3.out.size)
    have Hb := hide (hB7.trans ((below_put14 w7 w.heap.size (.int .i64 0) (.int .i64 0) (.int .i64 0) (.string { data := #[] }) (.int .i64 0) (.int .i64 0) (.slice none 0 0) (.int .i64 0) (.slice none 0 0) (.slice none 0 0) (.slice none 0 0) (.bool false) (.slice none 0 0) (.string { data := #[] })).mono (Nat.le_refl _)))
    have t0 := m7.cell 0
    have t1 := m7.cell 1
    have t2 := m7.cell 2
    have t3 := m7.cell 3
    have t4 := m7.cell 4
    have t5 := m7.cell 5
    have t6 := m7.cell 6
    have t7 := m7.cell 7
    have t8 := m7.cell 8
    have t9 := m7.cell 9
    have t10 := m7.cell 10
    have t11 := m7.cell 11
    have t12 := m7.cell 12
    have t13 := m7.cell 13
    have g0 := m7.frozen 0
    have g1 := m7.frozen 1
    have g2 := m7.frozen 2
    have g3 := m7.frozen 3
    have g4 := m7.frozen 4
    have g5 := m7.frozen 5
    have g6 := m7.frozen 6
    have g7 := m7.frozen 7
    have g8 := m7.frozen 8
    have g9 := m7.frozen 9
    have g10 := m7.frozen 10
    have g11 := m7.frozen 11
    have g12 := m7.frozen 12
    have g13 := m7.frozen 13
    simp only [List.getElem?_cons_zero, List.getElem?_cons_succ] at t0 t1 t2 t3 t4 t5 t6 t7 t8 t9 t10 t11 t12 t13
    clear m7 hB7 hb7 Hm3 HB3 hw3
    go_wp2
    refine bodyPost_ret (v := .tuple #[.agg #[.int .i64 0, .int .i64 0, .int .i64 0, .string { data := #[] }, .int .i64 0, .int .i64 0, .slice none 0 0, .int .i64 0, .slice none 0 0, .slice none 0 0, .slice none 0 0, .bool false, .slice none 0 0, .string { data := #[] }], .bool false]) (by simp [results, Tryz.f8, go_sem, t0, t1, t2, t3, t4, t5, t6, t7, t8, t9, t10, t11, t12, t13]) rfl ?_
    refine ⟨nilBv, ?_, ?_, fun x h => by simp [nilBv, Value.ownBlock] at h, Hb.out⟩
    · simp only [Prod.mk.injEq] at hbk
      rw [show (⟨id, ep, rd, mk, qr, qb, qw, tr, tw, th, ts, en, nx, rt⟩ : Bk) = bk0 from hbk.1]
      rfl
    · simp only [Prod.mk.injEq] at hbk
      rw [show (⟨id, ep, rd, mk, qr, qb, qw, tr, tw, th, ts, en, nx, rt⟩ : Bk) = bk0 from hbk.1]
      exact own_bk0 _ _
end Go.Proofs.YtcmmdkabocfnfaaGreatDoor
