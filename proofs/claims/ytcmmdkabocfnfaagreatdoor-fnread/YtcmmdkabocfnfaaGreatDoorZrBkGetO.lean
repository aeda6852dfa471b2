/- The landed code's blockOf. -/
import Derived.Test.YtcmmdkabocfnfaaGreatDoorZrBkPutI
import Derived.Test.YtcmmdkabocfnfaaGreatDoorZrBkRdF
import Derived.Test.YtcmmdkabocfnfaaGreatDoorZrBkIs
import Derived.Test.YtcmmdkabocfnfaaGreatDoorZrBkFew
namespace Go.Proofs.YtcmmdkabocfnfaaGreatDoor
open Go.RowKit
set_option linter.unusedVariables false

/-- The named error lies at b0. -/
def Ge (w : World) (b0 : Addr) : Prop := w.cell? ⟨0, 0, none⟩ = some (sentV b0)
theorem Ge.below {w w' : World} {b0 : Addr} {K : Nat} (h : Ge w b0) (hb : Below K w w') (hK : 0 < K) : Ge w' b0 := (hb.cell (p := ⟨0, 0, none⟩) hK).trans h
def nilBv : Bv := ⟨.slice none 0 0, .slice none 0 0, .slice none 0 0, .slice none 0 0, .slice none 0 0⟩
theorem own_bk0 (base : Nat) (w : World) : OwnK base w bk0 nilBv := ⟨nil_ownS _ _, nil_ownS _ _, nil_ownI _ _, nil_ownT _ _, nil_ownV _ _⟩
theorem gI_yes {l : List UInt8} (h1 : (i16 l).isSome = true) (h2 : blP (bI l) = l) : gI l = (bI l, true) := by unfold gI; rw [h1, decide_eq_true h2]; rfl
theorem gI_no1 {l : List UInt8} (h1 : (i16 l).isSome = false) : gI l = (bk0, false) := by unfold gI; rw [h1]; rfl
theorem gI_no2 {l : List UInt8} (h2 : blP (bI l) ≠ l) : gI l = (bk0, false) := by unfold gI; rw [decide_eq_false h2, Bool.and_false]; rfl
/-- What blockOf answers. -/
def OfOk (base : Nat) (w' : World) (g : Bk × Bool) (b0 : Addr) (u : Bv) (E : Value) : Prop :=
  OwnK base w' g.1 u ∧ (∀ x, u.q.ownBlock = some x → u.w.ownBlock ≠ some x) ∧ ((g.2 = true ∧ E = .nilIface) ∨ (g.2 = false ∧ ∃ why, E = flawV why b0))
theorem of_no (base : Nat) (w' : World) (why : ByteArray) (b0 : Addr) : OfOk base w' (bk0, false) b0 nilBv (flawV why b0) := ⟨own_bk0 _ _, fun x h => by simp [nilBv, Value.ownBlock] at h, .inr ⟨rfl, why, rfl⟩⟩
theorem RdK.shapes9g {w : World} {b : Bk} {v : Bv} (h : RdK w b v) : ∃ aq cq aw cw ah ch at_ ct an cn, v = ⟨.slice aq b.qw.length cq, .slice aw b.tw.length cw, .slice ah b.th.length ch, .slice at_ b.ts.length ct, .slice an b.nx.length cn⟩ := by
  obtain ⟨q, p, hh, t, n⟩ := h
  obtain ⟨vq, vw, vh, vt, vn⟩ := v
  obtain ⟨aq, cq, rfl⟩ := q.shape
  obtain ⟨aw, cw, rfl⟩ := p.shape
  obtain ⟨ah, ch, rfl⟩ := hh.shape
  obtain ⟨at_, ct, rfl⟩ := t.shape
  obtain ⟨an, cn, rfl⟩ := n.shape
  exact ⟨aq, cq, aw, cw, ah, ch, at_, ct, an, cn, rfl⟩
theorem OwnK.belowK {base : Nat} {w w' : World} {b : Bk} {v : Bv} (h : OwnK base w b v) (hb : Below w.heap.size w w') : OwnK base w' b v :=
  ⟨row_oth (S := fun _ => False) h.q (Oth.of_below hb) (fun _ _ e => e), row_oth (S := fun _ => False) h.p (Oth.of_below hb) (fun _ _ e => e), row_oth (S := fun _ => False) h.h (Oth.of_below hb) (fun _ _ e => e), row_oth (S := fun _ => False) h.t (Oth.of_below hb) (fun _ _ e => e), row_oth (S := fun _ => False) h.n (Oth.of_below hb) (fun _ _ e => e)⟩
theorem OwnK.put14 {base : Nat} {w : World} {b : Bk} {v : Bv} (h : OwnK base w b v) {g : Nat} (hg : g < base) (y0 y1 y2 y3 y4 y5 y6 y7 y8 y9 y10 y11 y12 y13 : Value) :
    OwnK base ((((((((((((((w.setCell ⟨g, 0, none⟩ y0).setCell ⟨g, 1, none⟩ y1).setCell ⟨g, 2, none⟩ y2).setCell ⟨g, 3, none⟩ y3).setCell ⟨g, 4, none⟩ y4).setCell ⟨g, 5, none⟩ y5).setCell ⟨g, 6, none⟩ y6).setCell ⟨g, 7, none⟩ y7).setCell ⟨g, 8, none⟩ y8).setCell ⟨g, 9, none⟩ y9).setCell ⟨g, 10, none⟩ y10).setCell ⟨g, 11, none⟩ y11).setCell ⟨g, 12, none⟩ y12).setCell ⟨g, 13, none⟩ y13) b v :=
  ⟨h.q.put14 hg _ _ _ _ _ _ _ _ _ _ _ _ _ _, h.p.put14 hg _ _ _ _ _ _ _ _ _ _ _ _ _ _, h.h.put14 hg _ _ _ _ _ _ _ _ _ _ _ _ _ _, h.t.put14 hg _ _ _ _ _ _ _ _ _ _ _ _ _ _, h.n.put14 hg _ _ _ _ _ _ _ _ _ _ _ _ _ _⟩
theorem OwnK.mono {base base' : Nat} {w : World} {b : Bk} {v : Bv} (h : OwnK base w b v) (hB : base' ≤ base) : OwnK base' w b v :=
  ⟨OwnS.mono h.q hB, OwnS.mono h.p hB, OwnI.mono h.h hB, OwnT.mono h.t hB, OwnV.mono h.n hB⟩
set_option maxRecDepth 20000 in
set_option maxHeartbeats 8000000 in
theorem bofC (b off cap : Nat) (l : List UInt8) (w : World) (b0 : Addr) (hrv : RdB w (.slice (some ⟨b, off, none⟩) l.length cap) l) (hrp : RdB w (.slice (some ⟨b, off, none⟩) l.length l.length) l) (hl : l.length ≤ 1048576) (hge : Ge w b0) (hG : 0 < w.heap.size) (h1 : l.length ≤ cap) (h2 : cap ≤ maxLen) :
    Calls Tryz.prog 28 #[.slice (some ⟨b, off, none⟩) l.length cap] w fun e w' => ∃ u E, e = .returned (.tuple #[bkV (gI l).1 u, E]) ∧ OfOk w.heap.size w' (gI l) b0 u E ∧ Below w.heap.size w w' := by
  have HRB := hide (fun W B (h : Rd9 w W B (.slice (some ⟨b, off, none⟩) l.length l.length) l (some 0)) => rdBlock_any h)
  have HPB := hide (fun u V (hV : RdK V (bI l) u) => implPutBlock_any (bI l) u V hV (few_bI l (by omega)) (by have := rN_bd l (y7 l); show -9223372036854775808 ≤ rN l (y7 l) ∧ rN l (y7 l) ≤ 9223372036854775807; omega))
  have Hy := hide (@gI_yes l)
  have Hn1 := hide (@gI_no1 l)
  have Hn2 := hide (@gI_no2 l)
  have HEq := hide (fun v6 P6 V (h1 : RdB V v6 P6) (hV : Below w.heap.size w V) => equalB_any v6 (.slice (some ⟨b, off, none⟩) l.length cap) P6 l V h1 (hrv.below hV (Nat.le_refl _)))
  generalize gI l = G at Hy Hn1 Hn2 ⊢
  generalize i16 l = S16 at HRB Hy Hn1
  generalize bI l = X at HRB HPB Hy Hn2
  generalize blP X = P at HPB Hy Hn2
  obtain ⟨w1, hw1⟩ : ∃ x, w.alloc (.cells #[.int .i64 0, .int .i64 0, .int .i64 0, .string { data := #[] }, .int .i64 0, .int .i64 0, .slice none 0 0, .int .i64 0, .slice none 0 0, .slice none 0 0, .slice none 0 0, .bool false, .slice none 0 0, .string { data := #[] }] 32) = x := ⟨_, rfl⟩
  have b1 : Below w.heap.size w w1 := by rw [← hw1]; exact (Below.refl _ w).alloc (Nat.le_refl _) _
  have m1 : Blk w1 w.heap.size 32 [.int .i64 0, .int .i64 0, .int .i64 0, .string { data := #[] }, .int .i64 0, .int .i64 0, .slice none 0 0, .int .i64 0, .slice none 0 0, .slice none 0 0, .slice none 0 0, .bool false, .slice none 0 0, .string { data := #[] }] := by rw [← hw1]; exact Blk.new w _ _
  have C0 := hide (readerAt_any (.slice (some ⟨b, off, none⟩) l.length l.length) _ _ _ 0 w1 rfl)
  have Hrp := hide hrp
  have Hge := hide hge
  have HB1 := hide b1
  have Hm1 := hide m1
  clear hrv hrp hge b1 m1
  go_enter Tryz.func28, Tryz.ntmps28
  go_wp2_with (go_at_call 79; refine C0.out.mono ?_; rintro e w2 ⟨rfl, hb2⟩)
  have hB2 := HB1.out.trans (hb2.mono HB1.out.size)
  have m2 := Hm1.out.below hb2 Hm1.out.lt
  obtain ⟨w3, hw3⟩ : ∃ x, w2.alloc (.cells #[.slice (some ⟨b, off, none⟩) l.length l.length, .int .i64 0, .bool true] 101) = x := ⟨_, rfl⟩
  have b3 : Below w2.heap.size w2 w3 := by rw [← hw3]; exact (Below.refl _ w2).alloc (Nat.le_refl _) _
  have k3 : Rdr w3 w2.heap.size (.slice (some ⟨b, off, none⟩) l.length l.length) 0 true := by rw [← hw3]; exact Blk.new w2 _ _
  have m3 := m2.below b3 m2.lt
  have hB3 := hB2.trans (b3.mono hB2.size)
  have z2 := hB2.size
  have zm := m2.lt
  have z23 := b3.size
  have hR3 : Rd9 w w3 w2.heap.size (.slice (some ⟨b, off, none⟩) l.length l.length) l (some 0) := ⟨⟨0, true, k3, rfl, Int.le_refl _, by omega⟩, Hrp.out, hB3, z2, by omega⟩
  have C1 := hide (HRB.out w3 w2.heap.size hR3)
  have HB3 := hide hB3
  have Hm3 := hide m3
  clear m2 hB2 b3 k3 m3 hB3 hR3 hb2 C0 hw1
  go_wp2_with fail
  (try rw [hw3])
  refine C1.out.mono ?_
  rintro e w4 ⟨u, rfl, ok4, hne4, hR4, O4⟩
  have z3 := O4.size
  have m4 := Hm3.out.oth O4 (by omega)
  have hB4 := HB3.out.trans (O4.below (B := w.heap.size) (fun g e => by omega) HB3.out.size)
  have zw3 := HB3.out.size
  have z4 := hB4.size
  obtain ⟨id, ep, rd, mk, qr, qb, qw, tr, tw, th, ts, en, nx, rt⟩ := X
  obtain ⟨aq, cq, aw, cw, ah, ch, at_, ct, an, cn, rfl⟩ := ok4.rd.shapes9g
  simp only [bkV] at *
  obtain ⟨w5, hw5⟩ : ∃ x, w4.alloc (.cells #[.int .i64 id, .int .i64 ep, .int .i64 rd, .string mk, .int .i64 qr, .int .i64 qb, .slice aq qw.length cq, .int .i64 tr, .slice aw tw.length cw, .slice ah th.length ch, .slice at_ ts.length ct, .bool en, .slice an nx.length cn, .string rt] 32) = x := ⟨_, rfl⟩
  have b5 : Below w4.heap.size w4 w5 := by rw [← hw5]; exact (Below.refl _ w4).alloc (Nat.le_refl _) _
  have j5 : Blk w5 w4.heap.size 32 [.int .i64 id, .int .i64 ep, .int .i64 rd, .string mk, .int .i64 qr, .int .i64 qb, .slice aq qw.length cq, .int .i64 tr, .slice aw tw.length cw, .slice ah th.length ch, .slice at_ ts.length ct, .bool en, .slice an nx.length cn, .string rt] := by rw [← hw5]; exact Blk.new w4 _ _
  have m5 := m4.below b5 m4.lt
  have hB5 := hB4.trans (b5.mono hB4.size)
  have ok5 := ok4.belowK b5
  have hR5 := hR4.bel b5
  obtain ⟨p, ok, hk, hs, -, -⟩ := hR5.blk
  have c2 := hk.cell 2
  simp only [List.getElem?_cons_zero, List.getElem?_cons_succ] at c2
  have Hok5 := hide ok5
  have Hne := hide hne4
  have HB5 := hide hB5
  have Hm5 := hide m5
  have Hj5 := hide j5
  have z5 := b5.size
  have zm5 := m5.lt
  clear hk hR4 hR5 m4 hB4 O4 ok4 hne4 b5 j5 m5 hB5 ok5 C1 HRB Hm3 HB3 Hm1 HB1 hw3
  cases ok
  · have hG2 : G = (bk0, false) := Hn1.out (by rw [hs]; rfl)
    subst hG2
    have e0 := Hge.out.below HB5.out hG
    unfold Ge sentV at e0
    have Hb := hide (HB5.out.trans ((below_put14 w5 w.heap.size (.int .i64 0) (.int .i64 0) (.int .i64 0) (.string { data := #[] }) (.int .i64 0) (.int .i64 0) (.slice none 0 0) (.int .i64 0) (.slice none 0 0) (.slice none 0 0) (.slice none 0 0) (.bool false) (.slice none 0 0) (.string { data := #[] })).mono (Nat.le_refl _)))
    have t0 := Hm5.out.cell 0
    have t1 := Hm5.out.cell 1
    have t2 := Hm5.out.cell 2
    have t3 := Hm5.out.cell 3
    have t4 := Hm5.out.cell 4
    have t5 := Hm5.out.cell 5
    have t6 := Hm5.out.cell 6
    have t7 := Hm5.out.cell 7
    have t8 := Hm5.out.cell 8
    have t9 := Hm5.out.cell 9
    have t10 := Hm5.out.cell 10
    have t11 := Hm5.out.cell 11
    have t12 := Hm5.out.cell 12
    have t13 := Hm5.out.cell 13
    have g0 := Hm5.out.frozen 0
    have g1 := Hm5.out.frozen 1
    have g2 := Hm5.out.frozen 2
    have g3 := Hm5.out.frozen 3
    have g4 := Hm5.out.frozen 4
    have g5 := Hm5.out.frozen 5
    have g6 := Hm5.out.frozen 6
    have g7 := Hm5.out.frozen 7
    have g8 := Hm5.out.frozen 8
    have g9 := Hm5.out.frozen 9
    have g10 := Hm5.out.frozen 10
    have g11 := Hm5.out.frozen 11
    have g12 := Hm5.out.frozen 12
    have g13 := Hm5.out.frozen 13
    simp only [List.getElem?_cons_zero, List.getElem?_cons_succ] at t0 t1 t2 t3 t4 t5 t6 t7 t8 t9 t10 t11 t12 t13
    clear hs Hy Hn1 Hn2 HPB HEq Hok5 Hj5
    go_wp2
    go_region
    all_goals
      go_wp2
      refine bodyPost_ret (v := .tuple #[.agg #[.int .i64 0, .int .i64 0, .int .i64 0, .string { data := #[] }, .int .i64 0, .int .i64 0, .slice none 0 0, .int .i64 0, .slice none 0 0, .slice none 0 0, .slice none 0 0, .bool false, .slice none 0 0, .string { data := #[] }], flawV _ b0]) (by simp [results, Tryz.f28, go_sem, flawV, t0, t1, t2, t3, t4, t5, t6, t7, t8, t9, t10, t11, t12, t13]; rfl) rfl ?_
      exact ⟨nilBv, _, rfl, of_no _ _ _ _, Hb.out.drew⟩
  · have hS : S16.isSome = true := by rw [hs]; rfl
    have e0 := Hj5.out.cell 0
    have e1 := Hj5.out.cell 1
    have e2 := Hj5.out.cell 2
    have e3 := Hj5.out.cell 3
    have e4 := Hj5.out.cell 4
    have e5 := Hj5.out.cell 5
    have e6 := Hj5.out.cell 6
    have e7 := Hj5.out.cell 7
    have e8 := Hj5.out.cell 8
    have e9 := Hj5.out.cell 9
    have e10 := Hj5.out.cell 10
    have e11 := Hj5.out.cell 11
    have e12 := Hj5.out.cell 12
    have e13 := Hj5.out.cell 13
    simp only [List.getElem?_cons_zero, List.getElem?_cons_succ] at e0 e1 e2 e3 e4 e5 e6 e7 e8 e9 e10 e11 e12 e13
    have CP := hide (HPB.out _ w5 Hok5.out.rd)
    clear hs Hn1
    go_wp2_with fail
    refine CP.out.mono ?_
    rintro en6 w6 ⟨v6, rfl, ho6, hb6⟩
    obtain ⟨a6, c6, rfl⟩ := ho6.rd.shape
    have hB6 := HB5.out.trans (hb6.mono HB5.out.size)
    have CE := hide (HEq.out _ P w6 ho6.rd hB6)
    have m6 := Hm5.out.below hb6 Hm5.out.lt
    have j6 := Hj5.out.below hb6 Hj5.out.lt
    have ok6 := Hok5.out.belowK hb6
    clear e0 e1 e2 e3 e4 e5 e6 e7 e8 e9 e10 e11 e12 e13
    clear ho6 hb6 hw5 CP HPB HEq Hm5 Hj5 Hok5
    by_cases hP : P = l
    · have hG2 := Hy.out hS hP
      subst hG2
      rw [decide_eq_true hP] at CE
      have Hok6 := hide (ok6.mono (show w.heap.size ≤ w3.heap.size by omega))
      have Hb := hide (hB6.trans ((below_put14 w6 w.heap.size (.int .i64 id) (.int .i64 ep) (.int .i64 rd) (.string mk) (.int .i64 qr) (.int .i64 qb) (.slice aq qw.length cq) (.int .i64 tr) (.slice aw tw.length cw) (.slice ah th.length ch) (.slice at_ ts.length ct) (.bool en) (.slice an nx.length cn) (.string rt)).mono (Nat.le_refl _)))
      have HoF := hide ((ok6.put14 (g := w.heap.size) (by omega) (.int .i64 id) (.int .i64 ep) (.int .i64 rd) (.string mk) (.int .i64 qr) (.int .i64 qb) (.slice aq qw.length cq) (.int .i64 tr) (.slice aw tw.length cw) (.slice ah th.length ch) (.slice at_ ts.length ct) (.bool en) (.slice an nx.length cn) (.string rt)).mono (show w.heap.size ≤ w3.heap.size by omega))
      have e0 := j6.cell 0
      have e1 := j6.cell 1
      have e2 := j6.cell 2
      have e3 := j6.cell 3
      have e4 := j6.cell 4
      have e5 := j6.cell 5
      have e6 := j6.cell 6
      have e7 := j6.cell 7
      have e8 := j6.cell 8
      have e9 := j6.cell 9
      have e10 := j6.cell 10
      have e11 := j6.cell 11
      have e12 := j6.cell 12
      have e13 := j6.cell 13
      simp only [List.getElem?_cons_zero, List.getElem?_cons_succ] at e0 e1 e2 e3 e4 e5 e6 e7 e8 e9 e10 e11 e12 e13
      have t0 := m6.cell 0
      have t1 := m6.cell 1
      have t2 := m6.cell 2
      have t3 := m6.cell 3
      have t4 := m6.cell 4
      have t5 := m6.cell 5
      have t6 := m6.cell 6
      have t7 := m6.cell 7
      have t8 := m6.cell 8
      have t9 := m6.cell 9
      have t10 := m6.cell 10
      have t11 := m6.cell 11
      have t12 := m6.cell 12
      have t13 := m6.cell 13
      have g0 := m6.frozen 0
      have g1 := m6.frozen 1
      have g2 := m6.frozen 2
      have g3 := m6.frozen 3
      have g4 := m6.frozen 4
      have g5 := m6.frozen 5
      have g6 := m6.frozen 6
      have g7 := m6.frozen 7
      have g8 := m6.frozen 8
      have g9 := m6.frozen 9
      have g10 := m6.frozen 10
      have g11 := m6.frozen 11
      have g12 := m6.frozen 12
      have g13 := m6.frozen 13
      simp only [List.getElem?_cons_zero, List.getElem?_cons_succ] at t0 t1 t2 t3 t4 t5 t6 t7 t8 t9 t10 t11 t12 t13
      clear m6 j6 ok6 hB6 Hy Hn2 hP
      go_wp2_with (go_at_call 81; refine CE.out.mono ?_; rintro e w7 ⟨rfl, rfl⟩)
      refine bodyPost_ret (v := .tuple #[.agg #[.int .i64 id, .int .i64 ep, .int .i64 rd, .string mk, .int .i64 qr, .int .i64 qb, .slice aq qw.length cq, .int .i64 tr, .slice aw tw.length cw, .slice ah th.length ch, .slice at_ ts.length ct, .bool en, .slice an nx.length cn, .string rt], .nilIface]) (by simp [results, Tryz.f28, go_sem, t0, t1, t2, t3, t4, t5, t6, t7, t8, t9, t10, t11, t12, t13]) rfl ?_
      exact ⟨⟨_, _, _, _, _⟩, _, rfl, ⟨HoF.out, Hne.out, .inl ⟨rfl, rfl⟩⟩, Hb.out⟩
    · have hG2 : G = (bk0, false) := Hn2.out hP
      subst hG2
      rw [decide_eq_false hP] at CE
      have e0 := Hge.out.below hB6 hG
      unfold Ge sentV at e0
      have Hb := hide (hB6.trans ((below_put14 w6 w.heap.size (.int .i64 0) (.int .i64 0) (.int .i64 0) (.string { data := #[] }) (.int .i64 0) (.int .i64 0) (.slice none 0 0) (.int .i64 0) (.slice none 0 0) (.slice none 0 0) (.slice none 0 0) (.bool false) (.slice none 0 0) (.string { data := #[] })).mono (Nat.le_refl _)))
      have t0 := m6.cell 0
      have t1 := m6.cell 1
      have t2 := m6.cell 2
      have t3 := m6.cell 3
      have t4 := m6.cell 4
      have t5 := m6.cell 5
      have t6 := m6.cell 6
      have t7 := m6.cell 7
      have t8 := m6.cell 8
      have t9 := m6.cell 9
      have t10 := m6.cell 10
      have t11 := m6.cell 11
      have t12 := m6.cell 12
      have t13 := m6.cell 13
      have g0 := m6.frozen 0
      have g1 := m6.frozen 1
      have g2 := m6.frozen 2
      have g3 := m6.frozen 3
      have g4 := m6.frozen 4
      have g5 := m6.frozen 5
      have g6 := m6.frozen 6
      have g7 := m6.frozen 7
      have g8 := m6.frozen 8
      have g9 := m6.frozen 9
      have g10 := m6.frozen 10
      have g11 := m6.frozen 11
      have g12 := m6.frozen 12
      have g13 := m6.frozen 13
      simp only [List.getElem?_cons_zero, List.getElem?_cons_succ] at t0 t1 t2 t3 t4 t5 t6 t7 t8 t9 t10 t11 t12 t13
      clear m6 j6 ok6 hB6 Hy Hn2 hP
      go_wp2_with (go_at_call 81; refine CE.out.mono ?_; rintro e w7 ⟨rfl, rfl⟩)
      go_region
      all_goals
        go_wp2
        refine bodyPost_ret (v := .tuple #[.agg #[.int .i64 0, .int .i64 0, .int .i64 0, .string { data := #[] }, .int .i64 0, .int .i64 0, .slice none 0 0, .int .i64 0, .slice none 0 0, .slice none 0 0, .slice none 0 0, .bool false, .slice none 0 0, .string { data := #[] }], flawV _ b0]) (by simp [results, Tryz.f28, go_sem, flawV, t0, t1, t2, t3, t4, t5, t6, t7, t8, t9, t10, t11, t12, t13]; rfl) rfl ?_
        exact ⟨nilBv, _, rfl, of_no _ _ _ _, Hb.out.drew⟩
end Go.Proofs.YtcmmdkabocfnfaaGreatDoor
