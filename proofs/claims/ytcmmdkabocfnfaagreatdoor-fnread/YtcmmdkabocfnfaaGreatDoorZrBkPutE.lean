/- The landed code's PutBlock. -/
import Derived.Test.YtcmmdkabocfnfaaGreatDoorZrBkPutP
import Derived.Laws.CopyOwn
import Derived.Laws.MakeOwn
namespace Go.Proofs.YtcmmdkabocfnfaaGreatDoor
open Go.RowKit
set_option linter.unusedVariables false

theorem txP_len9 {t : Tx5} (h : t.2.1.size ≤ 8 ∧ t.2.2.1.size ≤ 8) : (txP t).length ≤ 100 := by
  unfold txP
  have h1 := numB_len t.1
  have h2 := textB_len t.2.1
  have h3 := textB_len t.2.2.1
  have h4 := numB_len t.2.2.2.1
  have h5 := numB_len t.2.2.2.2
  simp only [List.length_append]
  omega
theorem xB9_len (ts : List Tx5) (k : Nat) (hl : ts.length ≤ 4) (h : ∀ t ∈ ts, t.2.1.size ≤ 8 ∧ t.2.2.1.size ≤ 8) : (xB9 ts k).length ≤ 1000 := by
  unfold xB9
  have h1 := numsB_len [(ts.length : Int)]
  have h2 := flat_len9 txP 100 (ts.take k) (fun t ht => txP_len9 (h t (List.mem_of_mem_take ht)))
  have h3 : (ts.take k).length ≤ 4 := by rw [List.length_take]; omega
  rw [List.length_append]
  simp only [List.length_cons, List.length_nil] at h1
  omega
theorem nB9_len (b : Bk) (k : Nat) (hl : b.nx.length ≤ 12) (h : ∀ p ∈ b.nx, p.1.size ≤ 8) : (nB9 b k).length ≤ 1000 := by
  unfold nB9
  have h1 := numsB_len [(if b.en = true then 1 else 0), (b.nx.length : Int)]
  have h2 := flat_len9 (fun p : Vl => textB p.1 ++ numB p.2) 40 (b.nx.take k) (fun p hp => by
    have a1 := textB_len p.1
    have a2 := numB_len p.2
    have a3 := h p (List.mem_of_mem_take hp)
    rw [List.length_append]; omega)
  have h3 : (b.nx.take k).length ≤ 12 := by rw [List.length_take]; omega
  rw [List.length_append]
  simp only [List.length_cons, List.length_nil] at h1
  omega
theorem one9 (w : World) (n : Int) : ∀ i (h : i < [n].length), (w.alloc (.cells #[.int .i64 n] 3)).cell? ⟨w.heap.size, 0 + i, none⟩ = some (.int .i64 [n][i]) := cells_one (c_one5 rfl)
theorem two9 (w : World) (n m : Int) : ∀ i (h : i < [n, m].length), (w.alloc (.cells #[.int .i64 n, .int .i64 m] 3)).cell? ⟨w.heap.size, 0 + i, none⟩ = some (.int .i64 [n, m][i]) := cells_two (c_two50 rfl) (c_two51 rfl)
set_option maxRecDepth 20000 in
set_option maxHeartbeats 4000000 in
theorem implTxsB_any (v : Value) (ts : List Tx5) (w : World) (hr : RdT w v ts) (hl : ts.length ≤ 4) (hx : ∀ t ∈ ts, txB t = true) :
    Calls Tryz.prog 50 #[v] w fun e w' => ∃ v', e = .returned v' ∧ OwnB w.heap.size w' v' (xB9 ts ts.length) ∧ Below w.heap.size w w' := by
  have Hz : Hid (∀ k, (xB9 ts k).length ≤ 1000) := hide (fun k => xB9_len ts k hl (fun t ht => ⟨(tx_small (hx t ht)).1, (tx_small (hx t ht)).2.1⟩))
  have H0 : Hid ([] ++ numsB [(ts.length : Int)] = xB9 ts 0) := hide (by simp [xB9])
  have hb0 : Below w.heap.size w (w.alloc (.cells #[.int .i64 (ts.length : Int)] 3)) := (Below.refl _ _).alloc (Nat.le_refl _) _
  have Hp := hide (putNumsL_any (.slice none 0 0) [] [(ts.length : Int)] w.heap.size 0 1 (w.alloc (.cells #[.int .i64 (ts.length : Int)] 3)) (rd_nil9 _) (by simp) (by simp) (by simp) (one9 w _) (by intro x hx; rw [List.mem_singleton.1 hx]; omega))
  rw [H0.out] at Hp
  simp only [List.length_cons, List.length_nil] at Hp
  obtain ⟨at_, ct, rfl⟩ := hr.shape
  have Ht := hide hr
  have Hx := hide hx
  have Hb0 := hide hb0
  clear hr hx hb0 H0
  go_enter Tryz.func50, Tryz.ntmps50
  go_wp2_with (go_at_call 103; refine Hp.out.mono ?_; rintro e w1 ⟨v1, rfl, ho1, hb1⟩)
  have hB1 : Below w.heap.size w w1 := Hb0.out.trans (hb1.mono Hb0.out.size)
  have ho1' := OwnB.mono ho1 (show w.heap.size ≤ _ from Hb0.out.size)
  clear Hp hb1 ho1 Hb0
  go_loopw [3, 12] (fun bv iv wr => ∃ k : Nat, k ≤ ts.length ∧ iv = .int .i64 (k : Int) ∧ OwnB w.heap.size wr bv (xB9 ts k) ∧ Below w.heap.size w wr) (fun _ iv _ => ts.length - (intOf iv).toNat)
  case atStart => exact ⟨0, by omega, rfl, ho1', hB1⟩
  case round =>
    obtain ⟨k, hk, rfl, ho, hb⟩ := hrel
    clear ho1' hB1
    by_cases hlt : k < ts.length
    · obtain ⟨bt, ot, rfl, hc1, hc2, hbt, hat⟩ := Ht.out.at9 hlt
      have hli : (k : Int) < (ts.length : Int) := by omega
      have hat' := hat.below hb hbt
      have hsm := tx_small (Hx.out ts[k] (List.getElem_mem _))
      have hsn := hide (xB9_snoc ts k hlt)
      have hxk := Hx.out ts[k] (List.getElem_mem _)
      have hz := Hz.out k
      generalize ts[k] = tx at hat hat' hsm hsn hxk
      obtain ⟨c0, c1, c2, c3, c4⟩ := hat'
      obtain ⟨w1, hw1⟩ : ∃ x, wr.alloc (.cells #[.int .i64 tx.1, .string tx.2.1, .string tx.2.2.1, .int .i64 tx.2.2.2.1, .int .i64 tx.2.2.2.2] 52) = x := ⟨_, rfl⟩
      have bA : Below wr.heap.size wr w1 := by rw [← hw1]; exact (Below.refl _ _).alloc (Nat.le_refl _) _
      have b1 : Below w.heap.size w w1 := hb.trans (bA.mono hb.size)
      have k1 : Blk w1 wr.heap.size 52 [.int .i64 tx.1, .string tx.2.1, .string tx.2.2.1, .int .i64 tx.2.2.2.1, .int .i64 tx.2.2.2.2] := by rw [← hw1]; exact Blk.new wr _ _
      have HP := hide (implPutTx_any _ (xB9 ts k) tx w1 (ho.rd.below bA (Nat.le_refl _)) (by omega) (by omega) (by omega) (by omega) (by omega) (by omega))
      rw [hxk, if_pos rfl, ← hsn.out] at HP
      obtain ⟨kd, fr, to, am, no⟩ := tx
      simp only [txV] at HP c0 c1 c2 c3 c4 hw1 k1
      have x0 := k1.cell 0
      have x1 := k1.cell 1
      have x2 := k1.cell 2
      have x3 := k1.cell 3
      have x4 := k1.cell 4
      simp only [List.getElem?_cons_zero, List.getElem?_cons_succ] at x0 x1 x2 x3 x4
      have hsB := bA.size
      have hsb := hb.size
      have HB1 := hide b1
      have hsh := ho.rd.shape
      obtain ⟨a5, c5, rfl⟩ := hsh
      clear hat hb b1 k1 bA ho hsm hxk hz hsn
      go_wp2_with fail
      refine HP.out.mono ?_
      rintro e w6 ⟨v6, rfl, ho6, hb6⟩
      have HB6 := hide (HB1.out.trans (hb6.mono HB1.out.size))
      have Ho6 := hide (OwnB.mono ho6 (show w.heap.size ≤ _ from by omega))
      clear hb6 ho6 c0 c1 c2 c3 c4 x0 x1 x2 x3 x4 hw1
      go_wp2
      go_roundw
      case rel => exact ⟨k + 1, by omega, by go_num, Ho6.out, HB6.out⟩
      case measure => simp [intOf]; omega
    · have e : k = ts.length := by omega
      rw [e] at ho
      clear e
      go_wp2
      go_ret
      exact ⟨_, rfl, ho, hb⟩
theorem RdV.at' {w : World} {a : Option Addr} {cap k : Nat} {l : List Vl} (h : RdV w (.slice a l.length cap) l) (hk : k < l.length) :
    ∃ b off, a = some ⟨b, off, none⟩ ∧ l.length ≤ cap ∧ cap ≤ maxLen ∧ b < w.heap.size ∧ w.cell? ⟨b, off + k * 2, none⟩ = some (.string l[k].1) ∧ w.cell? ⟨b, off + k * 2 + 1, none⟩ = some (.int .i64 l[k].2) := by
  rcases h with ⟨a', cap', e, rfl, -⟩ | ⟨b, off, cap', h0, e, h1, h2, h3, h4⟩
  · simp at hk
  · simp only [Value.slice.injEq, true_and] at e
    obtain ⟨rfl, rfl⟩ := e
    exact ⟨b, off, rfl, h1, h2, h3, (h4 k hk).1, (h4 k hk).2⟩
set_option maxRecDepth 20000 in
set_option maxHeartbeats 4000000 in
theorem implEndB_any (b : Bk) (v : Bv) (w : World) (hr : RdK w b v) (hk : PutK b) :
    Calls Tryz.prog 51 #[bkV b v] w fun e w' => ∃ v', e = .returned v' ∧ OwnB w.heap.size w' v' (eB9 b) ∧ Below w.heap.size w w' := by
  have HX : Hid (eB9 b = nB9 b b.nx.length ++ textsB [b.rt]) := hide rfl
  have Hz : Hid (∀ k, (nB9 b k).length ≤ 1000) := hide (fun k => nB9_len b k hk.nx (fun p hp => (hk.nb p hp).1))
  have hnl := hk.nx
  have Hnb := hide hk.nb
  have hrt := hk.rt
  generalize eB9 b = X at HX ⊢
  clear hk
  obtain ⟨id, ep, rd, mk, qr, qb, qw, tr, tw, th, ts, en, nx, rt⟩ := b
  obtain ⟨vq, vw, vh, vt, vn⟩ := v
  obtain ⟨hq, hw, hh, ht, hn⟩ := hr
  simp only [bkV] at *
  obtain ⟨aq, cq, rfl⟩ := hq.shape
  obtain ⟨aw, cw, rfl⟩ := hw.shape
  obtain ⟨ah, ch, rfl⟩ := hh.shape
  obtain ⟨at_, ct, rfl⟩ := ht.shape
  obtain ⟨an, cn, rfl⟩ := hn.shape
  obtain ⟨w1, hw1⟩ : ∃ x, w.alloc (.cells #[.int .i64 id, .int .i64 ep, .int .i64 rd, .string mk, .int .i64 qr, .int .i64 qb, .slice aq qw.length cq, .int .i64 tr, .slice aw tw.length cw, .slice ah th.length ch, .slice at_ ts.length ct, .bool en, .slice an nx.length cn, .string rt] 32) = x := ⟨_, rfl⟩
  have b1 : Below w.heap.size w w1 := by rw [← hw1]; exact (Below.refl _ w).alloc (Nat.le_refl _) _
  have k1 : Blk w1 w.heap.size 32 [.int .i64 id, .int .i64 ep, .int .i64 rd, .string mk, .int .i64 qr, .int .i64 qb, .slice aq qw.length cq, .int .i64 tr, .slice aw tw.length cw, .slice ah th.length ch, .slice at_ ts.length ct, .bool en, .slice an nx.length cn, .string rt] := by rw [← hw1]; exact Blk.new w _ _
  have hs1 : w1.heap.size = w.heap.size + 1 := by rw [← hw1]; simp
  have K1 := hide k1
  have HB1 := hide b1
  have Hn := hide hn
  have x11 := k1.cell 11
  have x12 := k1.cell 12
  simp only [List.getElem?_cons_zero, List.getElem?_cons_succ] at x11 x12
  clear hq hw hh ht hn k1 b1
  cases en
  · have H0 : Hid ([] ++ numsB [0, (nx.length : Int)] = nB9 ⟨id, ep, rd, mk, qr, qb, qw, tr, tw, th, ts, false, nx, rt⟩ 0) := hide (by simp [nB9])
    have hb0 : Below w.heap.size w (w1.alloc (.cells #[.int .i64 0, .int .i64 (nx.length : Int)] 3)) := HB1.out.alloc HB1.out.size _
    have Hp := hide (putNumsL_any (.slice none 0 0) [] [0, (nx.length : Int)] w1.heap.size 0 2 (w1.alloc (.cells #[.int .i64 0, .int .i64 (nx.length : Int)] 3)) (rd_nil9 _) (by simp) (by simp) (by simp) (two9 w1 _ _) (by
      intro x hx
      simp only [List.mem_cons, List.not_mem_nil, or_false] at hx
      rcases hx with rfl | rfl <;> omega))
    rw [H0.out] at Hp
    simp only [List.length_cons, List.length_nil] at Hp
    have Hb0 := hide hb0
    have K0 := hide (K1.out.below (show Below w1.heap.size w1 (w1.alloc (.cells #[.int .i64 0, .int .i64 (nx.length : Int)] 3)) from (Below.refl _ _).alloc (Nat.le_refl _) _) K1.out.lt)
    clear hb0 H0 hs1
    go_enter Tryz.func51, Tryz.ntmps51
    go_wp2_with (go_at_call 103; (with_reducible refine Hp.out.mono ?_); rintro e w2 ⟨v2, rfl, ho2, hb2⟩; have k2 := K0.out.below hb2 K0.out.lt; have y12 := k2.cell 12; simp only [List.getElem?_cons_zero, List.getElem?_cons_succ] at y12)
    have hB2 : Below w.heap.size w w2 := Hb0.out.trans (hb2.mono Hb0.out.size)
    have ho2' := OwnB.mono ho2 (show w.heap.size ≤ _ from Hb0.out.size)
    have K2 := hide k2
    have HB2 := hide hB2
    clear Hp hb2 ho2 Hb0 K0 k2 hB2 y12 x11 x12 hw1
    go_loopw [4, 18] (fun bv iv wr => ∃ k : Nat, k ≤ nx.length ∧ iv = .int .i64 (k : Int) ∧ OwnB w.heap.size wr bv (nB9 ⟨id, ep, rd, mk, qr, qb, qw, tr, tw, th, ts, false, nx, rt⟩ k) ∧ Below w2.heap.size w2 wr) (fun _ iv _ => nx.length - (intOf iv).toNat)
    case atStart => exact ⟨0, by omega, rfl, ho2', Below.refl _ _⟩
    case round =>
      obtain ⟨k, hk, rfl, ho, hb2⟩ := hrel
      have hb := HB2.out.trans (hb2.mono HB2.out.size)
      clear ho2'
      by_cases hlt : k < nx.length
      · obtain ⟨bt, ot, rfl, hc1, hc2, hbt, c0, c1⟩ := Hn.out.at' hlt
        replace c0 := (hb.cell (p := ⟨bt, ot + k * 2, none⟩) hbt).trans c0
        replace c1 := (hb.cell (p := ⟨bt, ot + k * 2 + 1, none⟩) hbt).trans c1
        have hli : (k : Int) < (nx.length : Int) := by omega
        have hsm := Hnb.out nx[k] (List.getElem_mem _)
        have Hsn := hide (nB9_snoc ⟨id, ep, rd, mk, qr, qb, qw, tr, tw, th, ts, false, nx, rt⟩ k hlt)
        have hz := Hz.out k
        simp only at Hsn
        generalize nx[k] = p at c0 c1 hsm Hsn
        obtain ⟨nm, wt⟩ := p
        simp only at c0 c1 hsm Hsn
        obtain ⟨w3, hw3⟩ : ∃ x, wr.alloc (.cells #[.string nm, .int .i64 wt] 56) = x := ⟨_, rfl⟩
        have bA : Below wr.heap.size wr w3 := by rw [← hw3]; exact (Below.refl _ _).alloc (Nat.le_refl _) _
        have HB1 := hide (hb.trans (bA.mono hb.size))
        have HB0 := hide bA
        have k3 : Blk w3 wr.heap.size 56 [.string nm, .int .i64 wt] := by rw [← hw3]; exact Blk.new wr _ _
        have hs3 : w3.heap.size = wr.heap.size + 1 := by rw [← hw3]; simp
        have hsb := hb.size
        have Ho := hide ho
        have x0 := k3.cell 0
        have x1 := k3.cell 1
        simp only [List.getElem?_cons_zero, List.getElem?_cons_succ] at x0 x1
        have htot : tot [nm] ≤ 10000000 := by simp only [tot, List.map_cons, List.map_nil, List.sum_cons, List.sum_nil]; omega
        have hla : (nB9 ⟨id, ep, rd, mk, qr, qb, qw, tr, tw, th, ts, false, nx, rt⟩ k ++ textsB [nm]).length ≤ 2000 := by
          have := textB_len nm
          have e1 : textsB [nm] = textB nm := by simp [textsB]
          rw [List.length_append, e1]; omega
        have Hbd : Hid (∀ x ∈ [wt], -9223372036854775808 ≤ x ∧ x ≤ 9223372036854775807) := hide (by intro x hx; rw [List.mem_singleton.1 hx]; omega)
        obtain ⟨a5, c5, rfl⟩ := ho.rd.shape
        have Hbr := hide hb2
        clear k3 bA ho hb hb2 hsm
        go_wp2
        clear hw3
        go_region_held_law (fun w' => w'.cell? ⟨wr.heap.size, 0, none⟩ = some (.string nm) ∧ w'.cell? ⟨wr.heap.size, 1, none⟩ = some (.int .i64 wt))
          (refine ⟨?_, ?_⟩ <;> exact (by repeat (first | (with_reducible refine c_one5 ?_; first | with_reducible rfl | omega | (simp; done) | (simp; omega)) | with_reducible refine c_drew5 ?_ | with_reducible refine c_old5 ?_ | (with_reducible refine c_bel5 hb5 ?_ ?_; · (first | omega | (simp; done) | (simp; omega))) | (with_reducible refine c_bel5 hb4 ?_ ?_; · (first | omega | (simp; done) | (simp; omega))) | with_reducible exact x0 | with_reducible exact x1))) (first
          | (go_at_call 103; refine (putNumsL_any v4 _ [wt] _ 0 1 _ (ho4.rd.below (by repeat (first | with_reducible exact Below.refl _ _ | with_reducible exact HB5.out | with_reducible exact HB4.out | with_reducible exact HB0.out | with_reducible refine Below.drew ?_ | (with_reducible refine b_al5 ?_ ?_; · (first | omega | (simp; done) | (simp; omega))))) (Nat.le_refl _)) (by omega) (by simp) (by (first | omega | (simp; done) | (simp; omega))) (cells_one (by repeat (first | (with_reducible refine c_one5 ?_; first | with_reducible rfl | omega | (simp; done) | (simp; omega)) | with_reducible refine c_drew5 ?_ | with_reducible refine c_old5 ?_ | (with_reducible refine c_bel5 hb5 ?_ ?_; · (first | omega | (simp; done) | (simp; omega))) | (with_reducible refine c_bel5 hb4 ?_ ?_; · (first | omega | (simp; done) | (simp; omega))) | with_reducible exact x0 | with_reducible exact x1))) Hbd.out).mono ?_; rintro e w5 ⟨v5, rfl, ho5, hb5⟩; have hz5 := hb5.size; (try simp at hz5); have HB5 : Hid (Below wr.heap.size wr w5) := hide (Below.trans (by repeat (first | with_reducible exact Below.refl _ _ | with_reducible exact HB5.out | with_reducible exact HB4.out | with_reducible exact HB0.out | with_reducible refine Below.drew ?_ | (with_reducible refine b_al5 ?_ ?_; · (first | omega | (simp; done) | (simp; omega))))) (hb5.mono (by (first | omega | (simp; done) | (simp; omega))))))
          | (go_at_call 102; refine (putTexts_any _ _ _ [nm] _ (Ho.out.rd.below (by repeat (first | with_reducible exact Below.refl _ _ | with_reducible exact HB5.out | with_reducible exact HB4.out | with_reducible exact HB0.out | with_reducible refine Below.drew ?_ | (with_reducible refine b_al5 ?_ ?_; · (first | omega | (simp; done) | (simp; omega))))) (Nat.le_refl _)) (rd_str9 _ _ nm (by (first | omega | (simp; done) | (simp; omega))) (by repeat (first | (with_reducible refine c_one5 ?_; first | with_reducible rfl | omega | (simp; done) | (simp; omega)) | with_reducible refine c_drew5 ?_ | with_reducible refine c_old5 ?_ | (with_reducible refine c_bel5 hb5 ?_ ?_; · (first | omega | (simp; done) | (simp; omega))) | (with_reducible refine c_bel5 hb4 ?_ ?_; · (first | omega | (simp; done) | (simp; omega))) | with_reducible exact x0 | with_reducible exact x1))) (by omega) (by simp) htot).mono ?_; rintro e w4 ⟨v4, rfl, ho4, hb4⟩; have hz4 := hb4.size; (try simp at hz4); have HB4 : Hid (Below wr.heap.size wr w4) := hide (Below.trans (by repeat (first | with_reducible exact Below.refl _ _ | with_reducible exact HB5.out | with_reducible exact HB4.out | with_reducible exact HB0.out | with_reducible refine Below.drew ?_ | (with_reducible refine b_al5 ?_ ?_; · (first | omega | (simp; done) | (simp; omega))))) (hb4.mono (by (first | omega | (simp; done) | (simp; omega)))))))
        all_goals
          rw [← Hsn.out] at ho5
          have Ho5 := hide (OwnB.mono ho5 (show w.heap.size ≤ _ from (by (first | omega | (simp; done) | (simp; omega)))))
          clear ho5 hb5 ho4 hb4
          go_wp2
          go_roundw
          case rel => exact ⟨k + 1, by omega, by go_num, Ho5.out, Hbr.out.trans (HB5.out.mono Hbr.out.size)⟩
          case measure => simp [intOf]; omega
      · have e : k = nx.length := by omega
        rw [e] at ho
        have kr := K2.out.below hb2 K2.out.lt
        have y13 := kr.cell 13
        simp only [List.getElem?_cons_zero, List.getElem?_cons_succ] at y13
        have hz := Hz.out nx.length
        have htot : tot [rt] ≤ 10000000 := by simp only [tot, List.map_cons, List.map_nil, List.sum_cons, List.sum_nil]; omega
        have hA : Below wr.heap.size wr (wr.alloc (.cells #[.string rt] 9)) := (Below.refl _ _).alloc (Nat.le_refl _) _
        have HP := hide (putTexts_any _ _ (nB9 ⟨id, ep, rd, mk, qr, qb, qw, tr, tw, th, ts, false, nx, rt⟩ nx.length) [rt] (wr.alloc (.cells #[.string rt] 9)) (ho.rd.below hA (Nat.le_refl _)) (rd_one_str wr rt) (by omega) (by simp) htot)
        have HA := hide (hb.trans (hA.mono hb.size))
        have hsz : w.heap.size ≤ (wr.alloc (.cells #[.string rt] 9)).heap.size := HA.out.size
        obtain ⟨a5, c5, rfl⟩ := ho.rd.shape
        clear e ho hb hb2 kr hA
        go_wp2_with (go_at_call 102; refine HP.out.mono ?_; rintro e w4 ⟨v4, rfl, ho4, hb4⟩)
        go_ret
        exact ⟨v4, rfl, by rw [HX.out]; exact OwnB.mono ho4 hsz, HA.out.trans (hb4.mono hsz)⟩
  · have H0 : Hid ([] ++ numsB [1, (nx.length : Int)] = nB9 ⟨id, ep, rd, mk, qr, qb, qw, tr, tw, th, ts, true, nx, rt⟩ 0) := hide (by simp [nB9])
    have hb0 : Below w.heap.size w (w1.alloc (.cells #[.int .i64 1, .int .i64 (nx.length : Int)] 3)) := HB1.out.alloc HB1.out.size _
    have Hp := hide (putNumsL_any (.slice none 0 0) [] [1, (nx.length : Int)] w1.heap.size 0 2 (w1.alloc (.cells #[.int .i64 1, .int .i64 (nx.length : Int)] 3)) (rd_nil9 _) (by simp) (by simp) (by simp) (two9 w1 _ _) (by
      intro x hx
      simp only [List.mem_cons, List.not_mem_nil, or_false] at hx
      rcases hx with rfl | rfl <;> omega))
    rw [H0.out] at Hp
    simp only [List.length_cons, List.length_nil] at Hp
    have Hb0 := hide hb0
    have K0 := hide (K1.out.below (show Below w1.heap.size w1 (w1.alloc (.cells #[.int .i64 1, .int .i64 (nx.length : Int)] 3)) from (Below.refl _ _).alloc (Nat.le_refl _) _) K1.out.lt)
    clear hb0 H0 hs1
    go_enter Tryz.func51, Tryz.ntmps51
    go_wp2_with (go_at_call 103; (with_reducible refine Hp.out.mono ?_); rintro e w2 ⟨v2, rfl, ho2, hb2⟩; have k2 := K0.out.below hb2 K0.out.lt; have y12 := k2.cell 12; simp only [List.getElem?_cons_zero, List.getElem?_cons_succ] at y12)
    have hB2 : Below w.heap.size w w2 := Hb0.out.trans (hb2.mono Hb0.out.size)
    have ho2' := OwnB.mono ho2 (show w.heap.size ≤ _ from Hb0.out.size)
    have K2 := hide k2
    have HB2 := hide hB2
    clear Hp hb2 ho2 Hb0 K0 k2 hB2 y12 x11 x12 hw1
    go_loopw [4, 18] (fun bv iv wr => ∃ k : Nat, k ≤ nx.length ∧ iv = .int .i64 (k : Int) ∧ OwnB w.heap.size wr bv (nB9 ⟨id, ep, rd, mk, qr, qb, qw, tr, tw, th, ts, true, nx, rt⟩ k) ∧ Below w2.heap.size w2 wr) (fun _ iv _ => nx.length - (intOf iv).toNat)
    case atStart => exact ⟨0, by omega, rfl, ho2', Below.refl _ _⟩
    case round =>
      obtain ⟨k, hk, rfl, ho, hb2⟩ := hrel
      have hb := HB2.out.trans (hb2.mono HB2.out.size)
      clear ho2'
      by_cases hlt : k < nx.length
      · obtain ⟨bt, ot, rfl, hc1, hc2, hbt, c0, c1⟩ := Hn.out.at' hlt
        replace c0 := (hb.cell (p := ⟨bt, ot + k * 2, none⟩) hbt).trans c0
        replace c1 := (hb.cell (p := ⟨bt, ot + k * 2 + 1, none⟩) hbt).trans c1
        have hli : (k : Int) < (nx.length : Int) := by omega
        have hsm := Hnb.out nx[k] (List.getElem_mem _)
        have Hsn := hide (nB9_snoc ⟨id, ep, rd, mk, qr, qb, qw, tr, tw, th, ts, true, nx, rt⟩ k hlt)
        have hz := Hz.out k
        simp only at Hsn
        generalize nx[k] = p at c0 c1 hsm Hsn
        obtain ⟨nm, wt⟩ := p
        simp only at c0 c1 hsm Hsn
        obtain ⟨w3, hw3⟩ : ∃ x, wr.alloc (.cells #[.string nm, .int .i64 wt] 56) = x := ⟨_, rfl⟩
        have bA : Below wr.heap.size wr w3 := by rw [← hw3]; exact (Below.refl _ _).alloc (Nat.le_refl _) _
        have HB1 := hide (hb.trans (bA.mono hb.size))
        have HB0 := hide bA
        have k3 : Blk w3 wr.heap.size 56 [.string nm, .int .i64 wt] := by rw [← hw3]; exact Blk.new wr _ _
        have hs3 : w3.heap.size = wr.heap.size + 1 := by rw [← hw3]; simp
        have hsb := hb.size
        have Ho := hide ho
        have x0 := k3.cell 0
        have x1 := k3.cell 1
        simp only [List.getElem?_cons_zero, List.getElem?_cons_succ] at x0 x1
        have htot : tot [nm] ≤ 10000000 := by simp only [tot, List.map_cons, List.map_nil, List.sum_cons, List.sum_nil]; omega
        have hla : (nB9 ⟨id, ep, rd, mk, qr, qb, qw, tr, tw, th, ts, true, nx, rt⟩ k ++ textsB [nm]).length ≤ 2000 := by
          have := textB_len nm
          have e1 : textsB [nm] = textB nm := by simp [textsB]
          rw [List.length_append, e1]; omega
        have Hbd : Hid (∀ x ∈ [wt], -9223372036854775808 ≤ x ∧ x ≤ 9223372036854775807) := hide (by intro x hx; rw [List.mem_singleton.1 hx]; omega)
        obtain ⟨a5, c5, rfl⟩ := ho.rd.shape
        have Hbr := hide hb2
        clear k3 bA ho hb hb2 hsm
        go_wp2
        clear hw3
        go_region_held_law (fun w' => w'.cell? ⟨wr.heap.size, 0, none⟩ = some (.string nm) ∧ w'.cell? ⟨wr.heap.size, 1, none⟩ = some (.int .i64 wt))
          (refine ⟨?_, ?_⟩ <;> exact (by repeat (first | (with_reducible refine c_one5 ?_; first | with_reducible rfl | omega | (simp; done) | (simp; omega)) | with_reducible refine c_drew5 ?_ | with_reducible refine c_old5 ?_ | (with_reducible refine c_bel5 hb5 ?_ ?_; · (first | omega | (simp; done) | (simp; omega))) | (with_reducible refine c_bel5 hb4 ?_ ?_; · (first | omega | (simp; done) | (simp; omega))) | with_reducible exact x0 | with_reducible exact x1))) (first
          | (go_at_call 103; refine (putNumsL_any v4 _ [wt] _ 0 1 _ (ho4.rd.below (by repeat (first | with_reducible exact Below.refl _ _ | with_reducible exact HB5.out | with_reducible exact HB4.out | with_reducible exact HB0.out | with_reducible refine Below.drew ?_ | (with_reducible refine b_al5 ?_ ?_; · (first | omega | (simp; done) | (simp; omega))))) (Nat.le_refl _)) (by omega) (by simp) (by (first | omega | (simp; done) | (simp; omega))) (cells_one (by repeat (first | (with_reducible refine c_one5 ?_; first | with_reducible rfl | omega | (simp; done) | (simp; omega)) | with_reducible refine c_drew5 ?_ | with_reducible refine c_old5 ?_ | (with_reducible refine c_bel5 hb5 ?_ ?_; · (first | omega | (simp; done) | (simp; omega))) | (with_reducible refine c_bel5 hb4 ?_ ?_; · (first | omega | (simp; done) | (simp; omega))) | with_reducible exact x0 | with_reducible exact x1))) Hbd.out).mono ?_; rintro e w5 ⟨v5, rfl, ho5, hb5⟩; have hz5 := hb5.size; (try simp at hz5); have HB5 : Hid (Below wr.heap.size wr w5) := hide (Below.trans (by repeat (first | with_reducible exact Below.refl _ _ | with_reducible exact HB5.out | with_reducible exact HB4.out | with_reducible exact HB0.out | with_reducible refine Below.drew ?_ | (with_reducible refine b_al5 ?_ ?_; · (first | omega | (simp; done) | (simp; omega))))) (hb5.mono (by (first | omega | (simp; done) | (simp; omega))))))
          | (go_at_call 102; refine (putTexts_any _ _ _ [nm] _ (Ho.out.rd.below (by repeat (first | with_reducible exact Below.refl _ _ | with_reducible exact HB5.out | with_reducible exact HB4.out | with_reducible exact HB0.out | with_reducible refine Below.drew ?_ | (with_reducible refine b_al5 ?_ ?_; · (first | omega | (simp; done) | (simp; omega))))) (Nat.le_refl _)) (rd_str9 _ _ nm (by (first | omega | (simp; done) | (simp; omega))) (by repeat (first | (with_reducible refine c_one5 ?_; first | with_reducible rfl | omega | (simp; done) | (simp; omega)) | with_reducible refine c_drew5 ?_ | with_reducible refine c_old5 ?_ | (with_reducible refine c_bel5 hb5 ?_ ?_; · (first | omega | (simp; done) | (simp; omega))) | (with_reducible refine c_bel5 hb4 ?_ ?_; · (first | omega | (simp; done) | (simp; omega))) | with_reducible exact x0 | with_reducible exact x1))) (by omega) (by simp) htot).mono ?_; rintro e w4 ⟨v4, rfl, ho4, hb4⟩; have hz4 := hb4.size; (try simp at hz4); have HB4 : Hid (Below wr.heap.size wr w4) := hide (Below.trans (by repeat (first | with_reducible exact Below.refl _ _ | with_reducible exact HB5.out | with_reducible exact HB4.out | with_reducible exact HB0.out | with_reducible refine Below.drew ?_ | (with_reducible refine b_al5 ?_ ?_; · (first | omega | (simp; done) | (simp; omega))))) (hb4.mono (by (first | omega | (simp; done) | (simp; omega)))))))
        all_goals
          rw [← Hsn.out] at ho5
          have Ho5 := hide (OwnB.mono ho5 (show w.heap.size ≤ _ from (by (first | omega | (simp; done) | (simp; omega)))))
          clear ho5 hb5 ho4 hb4
          go_wp2
          go_roundw
          case rel => exact ⟨k + 1, by omega, by go_num, Ho5.out, Hbr.out.trans (HB5.out.mono Hbr.out.size)⟩
          case measure => simp [intOf]; omega
      · have e : k = nx.length := by omega
        rw [e] at ho
        have kr := K2.out.below hb2 K2.out.lt
        have y13 := kr.cell 13
        simp only [List.getElem?_cons_zero, List.getElem?_cons_succ] at y13
        have hz := Hz.out nx.length
        have htot : tot [rt] ≤ 10000000 := by simp only [tot, List.map_cons, List.map_nil, List.sum_cons, List.sum_nil]; omega
        have hA : Below wr.heap.size wr (wr.alloc (.cells #[.string rt] 9)) := (Below.refl _ _).alloc (Nat.le_refl _) _
        have HP := hide (putTexts_any _ _ (nB9 ⟨id, ep, rd, mk, qr, qb, qw, tr, tw, th, ts, true, nx, rt⟩ nx.length) [rt] (wr.alloc (.cells #[.string rt] 9)) (ho.rd.below hA (Nat.le_refl _)) (rd_one_str wr rt) (by omega) (by simp) htot)
        have HA := hide (hb.trans (hA.mono hb.size))
        have hsz : w.heap.size ≤ (wr.alloc (.cells #[.string rt] 9)).heap.size := HA.out.size
        obtain ⟨a5, c5, rfl⟩ := ho.rd.shape
        clear e ho hb hb2 kr hA
        go_wp2_with (go_at_call 102; refine HP.out.mono ?_; rintro e w4 ⟨v4, rfl, ho4, hb4⟩)
        go_ret
        exact ⟨v4, rfl, by rw [HX.out]; exact OwnB.mono ho4 hsz, HA.out.trans (hb4.mono hsz)⟩
end Go.Proofs.YtcmmdkabocfnfaaGreatDoor
