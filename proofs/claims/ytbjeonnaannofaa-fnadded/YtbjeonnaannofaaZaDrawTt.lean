/- Certificates of leavings drawn. -/
import Derived.Test.YtbjeonnaannofaaZaIntApp
namespace Go.Proofs.Ytbjeonnaannofaa
open Go.RowKit
set_option linter.unusedVariables false

/-- A certificate of leavings half put together in block B; the answer's place is still empty. -/
structure Tk (w0 w W : World) (g B : Nat) (cv : Value) (code : List UInt8) (r : Int) (vw vh : Value) (ws : List ByteArray) (hs : List Int) : Prop where
  z : Blk W w.heap.size 33 [.int .i64 0, .slice none 0 0, .slice none 0 0]
  o : Blk W B 33 [.int .i64 r, vw, vh]
  lo : w.heap.size < B
  p : OwnS (w.heap.size + 1) W vw ws
  h : OwnI (B + 1) W vh hs
  ne : ∀ k, vw.ownBlock = some k → k ≠ B
  cur : Cur w0 W g cv code
  grw : w.grownBy W (some g)
  gl : g < w.heap.size
theorem Tk.call {w0 w W W' : World} {g B : Nat} {cv : Value} {code : List UInt8} {r : Int} {vw vh : Value} {ws : List ByteArray} {hs : List Int} (h : Tk w0 w W g B cv code r vw vh ws hs) (hc : Cur w0 W' g cv code) (hg : W.grownBy W' (some g)) : Tk w0 w W' g B cv code r vw vh ws hs := by
  have h1 := h.gl
  have h2 := h.lo
  have O : Oth (fun k => k = g) W W' := Oth.of_grown hg (fun k e => by injection e with e; exact e.symm)
  exact ⟨blk_notg5 h.z hg (by omega), blk_notg5 h.o hg (by omega), h2, row_oth h.p O (fun k e e2 => by have := (World.ownsRow.lt h.p k e).1; omega), row_oth h.h O (fun k e e2 => by have := (World.ownsRow.lt h.h k e).1; omega), h.ne, hc, grw_trans h.grw hg, h1⟩
theorem Tk.bel {w0 w W W' : World} {g B : Nat} {cv : Value} {code : List UInt8} {r : Int} {vw vh : Value} {ws : List ByteArray} {hs : List Int} (h : Tk w0 w W g B cv code r vw vh ws hs) (hb : Below W.heap.size W W') : Tk w0 w W' g B cv code r vw vh ws hs :=
  h.call (h.cur.below hb h.cur.lt) (grw_of_below (some g) hb (Nat.le_refl _))
theorem Tk.app {w0 w W W' : World} {g B : Nat} {cv : Value} {code : List UInt8} {r : Int} {vw vh : Value} {ws : List ByteArray} {hs : List Int} (h : Tk w0 w W g B cv code r vw vh ws hs) {u : Value} {l : List Int} (hg : W.grownBy W' vh.ownBlock) (ho : OwnI (B + 1) W' u l) : Blk W' B 33 [.int .i64 r, vw, vh] ∧ Tk w0 w (W'.setCell ⟨B, 2, none⟩ u) g B cv code r vw u ws l := by
  have h1 := h.gl
  have h2 := h.lo
  have h3 := h.o.lt
  have O : Oth (fun k => vh.ownBlock = some k) W W' := Oth.of_grown hg (fun k e => e)
  have hb : Below (B + 1) W W' := O.below (fun k e => (World.ownsRow.lt h.h k e).1) (by omega)
  have hs : Below w.heap.size W' (W'.setCell ⟨B, 2, none⟩ u) := (Below.refl _ W').setCell (p := ⟨B, 2, none⟩) (show w.heap.size ≤ B by omega) u
  have op : OwnS (w.heap.size + 1) W' vw ws := row_oth h.p O (fun k e e2 => rows_apart h.h h.p (by decide) k e e2)
  have k2 := h.o.below hb (by omega)
  exact ⟨k2, (h.z.below hb (by omega)).otherC B 2 u (by omega), k2.setC 2 u, h2, row_oth op (Oth.of_grown (S := fun k => k = B) (grown_set W' B 2 u) (fun k e => by injection e with e; exact e.symm)) (fun k e e2 => h.ne k e e2), ho.olderC (Nat.lt_succ_self B) 2 u, h.ne, (h.cur.below hb (by omega)).below hs h1, grw_below (grw_below h.grw hb (by omega)) hs (Nat.le_refl _), h1⟩
set_option maxRecDepth 20000 in
set_option maxHeartbeats 4000000 in
theorem l8Tc_any (w0 w : World) (g : Nat) (cv : Value) (code : List UInt8) (hc : Cur w0 w g cv code) (hl : code.length ≤ 1048576) :
    Calls Try.prog 139 #[.pointer (some ⟨g, 0, none⟩)] w fun e w' => ∃ (r : Int) (vw vh : Value) (ws : List ByteArray) (hs : List Int), e = .returned (tcV r vw vh) ∧ (0 ≤ r ∧ r ≤ 3) ∧ OwnS w.heap.size w' vw ws ∧ OwnI w.heap.size w' vh hs ∧ ws.length ≤ 7 ∧ (∀ s ∈ ws, s.size ≤ 9) ∧ hs.length ≤ 8 ∧ Cur w0 w' g cv code ∧ w.grownBy w' (some g) := by
  have hgl := hc.lt
  obtain ⟨w1, hw1⟩ : ∃ w1, w.alloc (.cells #[.int .i64 0, .slice none 0 0, .slice none 0 0] 33) = w1 := ⟨_, rfl⟩
  have hb1 : Below w.heap.size w w1 := by rw [← hw1]; exact (Below.refl _ w).alloc (Nat.le_refl _) _
  have hs1 : w1.heap.size = w.heap.size + 1 := by rw [← hw1]; simp
  have K1 : Hid (Blk w1 w.heap.size 33 [.int .i64 0, .slice none 0 0, .slice none 0 0]) := hide (by rw [← hw1]; exact Blk.new w _ _)
  have Hc1 := hide (hc.below hb1 hgl)
  have HG1 := hide (grw_of_below (some g) hb1 (Nat.le_refl _))
  clear hc hb1
  go_enter Try.func139, Try.ntmps139
  go_wp2_with fail
  refine (l1Once_any w0 _ g cv code 4 Hc1.out hl (by omega) (by omega)).mono ?_
  rintro e w2 ⟨bb, rfl, hc2, hg2⟩
  have K2 := hide (blk_notg5 K1.out hg2 (by omega))
  have HG2 := hide (grw_trans HG1.out hg2)
  have hs2 := hg2.size
  clear hg2 K1 HG1 Hc1
  cases bb
  · obtain ⟨w3, hw3⟩ : ∃ w3, w2.alloc (.cells #[.int .i64 2, .int .i64 3, .int .i64 1, .int .i64 0] 3) = w3 := ⟨_, rfl⟩
    have b3 : Below w2.heap.size w2 w3 := by rw [← hw3]; exact (Below.refl _ w2).alloc (Nat.le_refl _) _
    have HI3 : Hid (IntsAt w3 w2.heap.size [2, 3, 1, 0]) := hide (by rw [← hw3]; exact ints_new w2 [2, 3, 1, 0] 3)
    have hc3 := hc2.below b3 hc2.lt
    have K3 := hide (K2.out.below b3 (by omega))
    have HG3 := hide (grw_trans HG2.out (grw_of_below (some g) b3 (Nat.le_refl _)))
    have hs3 := b3.size
    clear hc2 b3 K2 HG2
    go_wp2_with fail
    refine (l1Int_any w0 _ g w2.heap.size cv code [2, 3, 1, 0] hc3 hl HI3.out (by omega) (by simp) (by simp) 4).mono ?_
    rintro e w4 ⟨r, rfl, hr, hc4, hg4⟩
    have hr2 : 0 ≤ r ∧ r ≤ 3 := by simp at hr; omega
    have K4 := hide (blk_notg5 K3.out hg4 (by omega))
    have HG4 := hide (grw_trans HG3.out hg4)
    have hs4 := hg4.size
    clear hc3 hg4 K3 HG3 HI3 hw3 hr
    go_wp2_with fail
    refine (l7Who_any w0 _ g cv code hc4 hl).mono ?_
    rintro e w5 ⟨v5, ws, rfl, o5, h7, h9, hc5, hg5⟩
    obtain ⟨a5, c5, rfl⟩ := o5.rd.shape
    have k5 := blk_notg5 K4.out hg5 (by omega)
    have hs5 := hg5.size
    obtain ⟨w6, hw6⟩ : ∃ w6, w5.alloc (.cells #[.int .i64 r, .slice a5 ws.length c5, .slice none 0 0] 33) = w6 := ⟨_, rfl⟩
    have b6 : Below w5.heap.size w5 w6 := by rw [← hw6]; exact (Below.refl _ w5).alloc (Nat.le_refl _) _
    have HD6 : Hid (Tk w0 w w6 g w5.heap.size cv code r (.slice a5 ws.length c5) (.slice none 0 0) ws []) := hide ⟨k5.below b6 k5.lt, by rw [← hw6]; exact Blk.new w5 _ [.int .i64 r, .slice a5 ws.length c5, .slice none 0 0], by omega, (o5.below b6 (Nat.le_refl _)).mono (by omega), nilIK _ _, fun k e => by have := (World.ownsRow.lt o5 k e).2; omega, hc5.below b6 hc5.lt, grw_below (grw_trans HG4.out hg5) b6 (by omega), hgl⟩
    have H9 := hide h9
    have Hw6 := hide hw6
    clear o5 hc5 hg5 k5 b6 K4 HG4 hc4 h9 hw6
    go_wp2
    rw [Hw6.out]
    clear Hw6
    generalize w5.heap.size = B at *
    go_loopw [4] (fun iv wr => ∃ (k : Nat) (vh : Value) (hs : List Int), iv = .int .i64 (k : Int) ∧ Tk w0 w wr g B cv code r (.slice a5 ws.length c5) vh ws hs ∧ k ≤ ws.length ∧ hs.length = k) (fun iv _ => 8 - (intOf iv).toNat)
    case atStart => exact ⟨0, _, _, rfl, HD6.out, Nat.zero_le _, rfl⟩
    case round =>
      clear HD6
      obtain ⟨k, vh, hs, rfl, hD, hk, hth⟩ := hrel
      obtain ⟨ah, ch, rfl⟩ := hD.h.rd.shape
      have c1 := hD.o.cell 1
      have c2 := hD.o.cell 2
      simp only [List.getElem?_cons_zero, List.getElem?_cons_succ] at c1 c2
      have Hth := hide hth
      have hth5 : hs.length ≤ 7 := by omega
      clear hth
      by_cases hlt : k < ws.length
      · have HD2 : Hid (Tk w0 w (wr.alloc (.cells #[.int .i64 0, .int .i64 1, .int .i64 0, .int .i64 2] 3)).drew g B cv code r (.slice a5 ws.length c5) (.slice ah hs.length ch) ws hs) := hide ((hD.bel ((Below.refl _ wr).alloc (Nat.le_refl _) _)).bel (Below.refl _ _).drew)
        have HI2 : Hid (IntsAt (wr.alloc (.cells #[.int .i64 0, .int .i64 1, .int .i64 0, .int .i64 2] 3)).drew wr.heap.size [0, 1, 0, 2]) := hide (ints_new wr [0, 1, 0, 2] 3)
        have hgw : wr.heap.size ≠ g := by have := hD.o.lt; have := hD.lo; omega
        have c2d : wr.drew.cell? ⟨B, 2, none⟩ = some (.slice ah hs.length ch) := c2
        have c2e := Blk.cell HD2.out.o 2
        simp only [List.getElem?_cons_zero, List.getElem?_cons_succ] at c2e
        have C1 := hide (l1Int_any w0 _ g wr.heap.size cv code [0, 1, 0, 2] HD2.out.cur hl HI2.out hgw (by simp) (by simp) 4)
        clear hD HI2
        go_wp2
        go_region_law (first
          | (refine step_appIK rfl _ _ rfl (B + 1) (.slice ah hs.length ch) w6.heap.size hs y (by rfl) (by rfl) HDa.out.h (Blk.newV w6 _ [.int .i64 y] _ rfl) (by omega) (by have := Blk.lt HDa.out.o; omega) ?_; intro v7 w7 ho7 hg7; have hap := HDa.out.app hg7 ho7; have y9 := Blk.cell hap.1 2; have g9 := Blk.frozen hap.1 2; have HD7 := hide hap.2; have hsh := ho7.rd.shape; rw [List.length_append, List.length_cons, List.length_nil, Nat.zero_add] at hsh; obtain ⟨a7, c7', hv7⟩ := hsh; subst hv7; simp only [List.getElem?_cons_zero, List.getElem?_cons_succ] at y9; clear hap ho7 hg7)
          | (go_simp; go_at_call 88; refine C1.out.mono ?_; rintro e w6 ⟨y, rfl, hy, hc6, hg6⟩; have HD6 := hide (HD2.out.call hc6 hg6); have HDa := hide (HD6.out.bel ((Below.refl _ w6).alloc (Nat.le_refl _) (.cells #[.int .i64 y] 3))); have y6 := Blk.cell HD6.out.o 2; have ya := Blk.cell HDa.out.o 2; simp only [List.getElem?_cons_zero, List.getElem?_cons_succ] at y6 ya; clear hc6 hg6))
        all_goals
          go_wp2
          go_roundw
          case rel => exact ⟨k + 1, _, _, by go_num, HD7.out, hlt, by simp [Hth.out]⟩
          case measure => simp [intOf]; omega
      · have HDe := hide hD
        clear hD c2
        go_wp2_with fail
        refine (l1Once_any w0 _ g cv code 8 HDe.out.cur hl (by omega) (by omega)).mono ?_
        rintro e w10 ⟨o3, rfl, hc10, hg10⟩
        have HD10 := hide (HDe.out.call hc10 hg10)
        clear HDe hc10 hg10
        go_upto_if 30 with fail
        go_cut [] from 5 (fun wc => ∃ (vh : Value) (hs : List Int), Tk w0 w wc g B cv code r (.slice a5 ws.length c5) vh ws hs ∧ hs.length ≤ 8)
        case first =>
          cases o3
          · go_wp2
            go_meet
            case rel => exact ⟨_, _, HD10.out, by omega⟩
          · have HDa := hide (HD10.out.bel ((Below.refl _ w10).alloc (Nat.le_refl _) (.cells #[.int .i64 0] 3)))
            have c2 := Blk.cell HD10.out.o 2
            simp only [List.getElem?_cons_zero, List.getElem?_cons_succ] at c2
            go_wp2_with (at_builtin; refine app_ownIs _ rfl _ _ rfl (B + 1) _ _ hs [0] rfl rfl HDa.out.h (rd_oneI (Blk.newV w10 _ [.int .i64 0] _ rfl)) (by simp; omega) (by have := Blk.lt HDa.out.o; omega) ?_; intro v7 w7 ho7 hg7 _ _; have hap := HDa.out.app hg7 ho7; have y9 := Blk.cell hap.1 2; have g9 := Blk.frozen hap.1 2; have HD7 := hide hap.2; have hsh := ho7.rd.shape; rw [List.length_append, List.length_cons, List.length_nil, Nat.zero_add] at hsh; obtain ⟨a7, c7', hv7⟩ := hsh; subst hv7; simp only [List.getElem?_cons_zero, List.getElem?_cons_succ] at y9; clear hap ho7 hg7)
            go_meet
            case rel => exact ⟨_, _, HD7.out, by simp; omega⟩
        case rest =>
          clear HD10
          obtain ⟨vh, hs, hD, h8⟩ := hcut
          obtain ⟨ah, ch, rfl⟩ := hD.h.rd.shape
          have hlo := hD.lo
          have t0 := hD.o.cell 0
          have t1 := hD.o.cell 1
          have t2 := hD.o.cell 2
          have z0 := hD.z.cell 0
          have z1 := hD.z.cell 1
          have z2 := hD.z.cell 2
          have f0 := hD.z.frozen 0
          have f1 := hD.z.frozen 1
          have f2 := hD.z.frozen 2
          simp only [List.getElem?_cons_zero, List.getElem?_cons_succ] at t0 t1 t2 z0 z1 z2
          have hbR : Below w.heap.size wc (((wc.setCell ⟨w.heap.size, 0, none⟩ (.int .i64 r)).setCell ⟨w.heap.size, 1, none⟩ (.slice a5 ws.length c5)).setCell ⟨w.heap.size, 2, none⟩ (.slice ah hs.length ch)) := (((Below.refl _ wc).setCell (p := ⟨w.heap.size, 0, none⟩) (Nat.le_refl _) _).setCell (p := ⟨w.heap.size, 1, none⟩) (Nat.le_refl _) _).setCell (p := ⟨w.heap.size, 2, none⟩) (Nat.le_refl _) _
          have HC := hide (hD.cur.below hbR hgl)
          have HG := hide (grw_below hD.grw hbR (Nat.le_refl _))
          have HP := hide ((((hD.p.olderC (g := w.heap.size) (by omega) 0 (.int .i64 r)).olderC (g := w.heap.size) (by omega) 1 (.slice a5 ws.length c5)).olderC (g := w.heap.size) (by omega) 2 (.slice ah hs.length ch)).mono (show w.heap.size ≤ w.heap.size + 1 by omega))
          have HH := hide ((((hD.h.olderC (g := w.heap.size) (by omega) 0 (.int .i64 r)).olderC (g := w.heap.size) (by omega) 1 (.slice a5 ws.length c5)).olderC (g := w.heap.size) (by omega) 2 (.slice ah hs.length ch)).mono (show w.heap.size ≤ B + 1 by omega))
          clear hD hbR
          go_wp2
          refine bodyPost_ret (v := .agg #[.int .i64 r, .slice a5 ws.length c5, .slice ah hs.length ch]) (by simp [results, Try.f139, go_sem, z0, z1, z2]) rfl ?_
          exact ⟨r, _, _, ws, hs, rfl, hr2, HP.out, HH.out, h7, H9.out, h8, HC.out, HG.out⟩
  · have k2 := K2.out
    have e0 := k2.cell 0
    have e1 := k2.cell 1
    have e2 := k2.cell 2
    have f0 := k2.frozen 0
    have f1 := k2.frozen 1
    have f2 := k2.frozen 2
    simp only [List.getElem?_cons_zero, List.getElem?_cons_succ] at e0 e1 e2
    have hbR : Below w.heap.size w2 (((w2.setCell ⟨w.heap.size, 0, none⟩ (.int .i64 0)).setCell ⟨w.heap.size, 1, none⟩ (.slice none 0 0)).setCell ⟨w.heap.size, 2, none⟩ (.slice none 0 0)) := (((Below.refl _ w2).setCell (p := ⟨w.heap.size, 0, none⟩) (Nat.le_refl _) _).setCell (p := ⟨w.heap.size, 1, none⟩) (Nat.le_refl _) _).setCell (p := ⟨w.heap.size, 2, none⟩) (Nat.le_refl _) _
    have HC := hide (hc2.below hbR hgl)
    have HG := hide (grw_below HG2.out hbR (Nat.le_refl _))
    clear k2 K2 hc2 hbR HG2
    go_wp2
    refine bodyPost_ret (v := .agg #[.int .i64 0, .slice none 0 0, .slice none 0 0]) (by simp [results, Try.f139, go_sem, e0, e1, e2]) rfl ?_
    exact ⟨0, _, _, [], [], rfl, by omega, nilSK _ _, nilIK _ _, by simp, by simp, by simp, HC.out, HG.out⟩
end Go.Proofs.Ytbjeonnaannofaa
