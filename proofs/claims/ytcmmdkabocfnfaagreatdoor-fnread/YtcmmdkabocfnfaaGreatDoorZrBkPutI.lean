/- The landed code's PutBlock. -/
import Derived.Test.YtcmmdkabocfnfaaGreatDoorZrBkPutE
import Derived.Test.YtcmmdkabocfnfaaGreatDoorZrBkPutJ
namespace Go.Proofs.YtcmmdkabocfnfaaGreatDoor
open Go.RowKit
set_option linter.unusedVariables false

theorem five_c {w : World} {T : TypeId} {x0 x1 x2 x3 x4 : Value × List UInt8} {G : Nat} (hG : G = w.heap.size) : ∀ i (h : i < [x0, x1, x2, x3, x4].length), (w.alloc (.cells #[x0.1, x1.1, x2.1, x3.1, x4.1] T)).cell? ⟨G, 0 + i, none⟩ = some [x0, x1, x2, x3, x4][i].1 := by
  subst hG
  intro i hi
  simp only [List.length_cons, List.length_nil] at hi
  rw [World.cell?_alloc_at _ _ _ _ rfl]
  rcases (show i = 0 ∨ i = 1 ∨ i = 2 ∨ i = 3 ∨ i = 4 from by omega) with rfl | rfl | rfl | rfl | rfl <;> rfl
theorem five_r {w : World} {x0 x1 x2 x3 x4 : Value × List UInt8} (h0 : RdB w x0.1 x0.2) (h1 : RdB w x1.1 x1.2) (h2 : RdB w x2.1 x2.2) (h3 : RdB w x3.1 x3.2) (h4 : RdB w x4.1 x4.2) : ∀ i (h : i < [x0, x1, x2, x3, x4].length), RdB w [x0, x1, x2, x3, x4][i].1 [x0, x1, x2, x3, x4][i].2 := by
  intro i hi
  simp only [List.length_cons, List.length_nil] at hi
  rcases (show i = 0 ∨ i = 1 ∨ i = 2 ∨ i = 3 ∨ i = 4 from by omega) with rfl | rfl | rfl | rfl | rfl
  · exact h0
  · exact h1
  · exact h2
  · exact h3
  · exact h4
theorem parts_len {b : Bk} (hk : PutK b) : (hB9 b).length ≤ 1000 ∧ (qB9 b.qr b.qb b.qw).length ≤ 1000 ∧ (tB9 b.tr b.tw b.th).length ≤ 1000 ∧ (xB9 b.ts b.ts.length).length ≤ 1000 ∧ (eB9 b).length ≤ 2000 := by
  have h1 := numsB_len [b.id, b.ep, b.rd]
  have h2 := textB_len b.md
  have h3 := numsB_len [b.qr, b.qb]
  have h4 := namesB_len b.qw
  have h5 := numsB_len [b.tr]
  have h6 := namesB_len b.tw
  have h7 := numsB_len b.th
  have h8 := xB9_len b.ts b.ts.length hk.ts (fun t ht => ⟨(hk.tb t ht).1, (hk.tb t ht).2.1⟩)
  have h9 := nB9_len b b.nx.length hk.nx (fun p hp => (hk.nb p hp).1)
  have h10 := textB_len b.rt
  have a1 := hk.md
  have a2 := hk.qw
  have a3 := hk.tw
  have a4 := hk.th
  have a5 := hk.rt
  have e1 : textsB [b.md] = textB b.md := by simp [textsB]
  have e2 : textsB [b.rt] = textB b.rt := by simp [textsB]
  simp only [List.length_cons, List.length_nil] at h1 h3 h5
  refine ⟨?_, ?_, ?_, h8, ?_⟩
  · unfold hB9; rw [List.length_append, e1]; omega
  · unfold qB9; rw [List.length_append]; omega
  · unfold tB9; rw [List.length_append, List.length_append]; omega
  · unfold eB9; rw [List.length_append, e2]; omega
set_option maxRecDepth 20000 in
set_option maxHeartbeats 4000000 in
theorem implPutBlock_any (b : Bk) (v : Bv) (w : World) (hr : RdK w b v) (hf : FewK b) (hbd : -9223372036854775808 ≤ b.tr ∧ b.tr ≤ 9223372036854775807) :
    Calls Tryz.prog 16 #[bkV b v] w fun e w' => ∃ v', e = .returned v' ∧ OwnB w.heap.size w' v' (blP b) ∧ Below w.heap.size w w' := by
  have HK := hide (fun V (hV : Below w.heap.size w V) => implBlockOk_any b v V (hr.below hV (Nat.le_refl _)) hf hbd)
  have HX : Hid (blP b = if blB b = true then n9P b b.nx.length ++ textB b.rt else []) := hide rfl
  have HPut := hide (bl_put (b := b))
  have HPi := hide (blP_is b)
  have Htx : Hid (blB b = true → ∀ t ∈ b.ts, txB t = true) := hide (fun h => by
    unfold blB at h
    simp only [Bool.and_eq_true, decide_eq_true_eq] at h
    have h8 := h.2.2.2.2.2.2.2.1
    rwa [List.all_eq_true] at h8)
  have HH := hide (fun (hk : PutK b) V (hV : Below w.heap.size w V) => implHeadB_any b v V (hr.below hV (Nat.le_refl _)) hk)
  have HQ := hide (fun (hk : PutK b) V (hV : Below w.heap.size w V) => implQcB_any b.qr b.qb v.q b.qw V (hr.q.below hV (Nat.le_refl _)) (by have := hk.qr; omega) hk.qb hk.qw.1 hk.qw.2)
  have HT := hide (fun (hk : PutK b) V (hV : Below w.heap.size w V) => implTcB_any b.tr v.w v.h b.tw b.th V (hr.p.below hV (Nat.le_refl _)) (hr.h.below hV (Nat.le_refl _)) (by have := hk.tr; omega) hk.tw.1 hk.tw.2 hk.th hk.hb)
  have HO := hide (fun (hk : PutK b) (hx : ∀ t ∈ b.ts, txB t = true) V (hV : Below w.heap.size w V) => implTxsB_any v.t b.ts V (hr.t.below hV (Nat.le_refl _)) hk.ts hx)
  have HE := hide (fun (hk : PutK b) V (hV : Below w.heap.size w V) => implEndB_any b v V (hr.below hV (Nat.le_refl _)) hk)
  have HL := hide (parts_len (b := b))
  generalize blP b = XX at HX HPi ⊢
  generalize blB b = Z0 at HX HK HPut HPi Htx
  generalize hB9 b = B1 at HPi HH HL
  generalize qB9 b.qr b.qb b.qw = B2 at HPi HQ HL
  generalize tB9 b.tr b.tw b.th = B3 at HPi HT HL
  generalize xB9 b.ts b.ts.length = B4 at HPi HO HL
  generalize eB9 b = B5 at HPi HE HL
  clear hf hbd
  cases Z0
  · rw [if_neg (by simp)] at HX
    clear HPut HPi Htx HH HQ HT HO HE HL
    obtain ⟨id, ep, rd, mk, qr, qb, qw, tr, tw, th, ts, en, nx, rt⟩ := b
    obtain ⟨vq, vw, vh, vt, vn⟩ := v
    obtain ⟨hq, hw, hh, ht, hn⟩ := hr
    simp only [bkV] at *
    obtain ⟨aq, cq, rfl⟩ := hq.shape
    obtain ⟨aw, cw, rfl⟩ := hw.shape
    obtain ⟨ah, ch, rfl⟩ := hh.shape
    obtain ⟨at_, ct, rfl⟩ := ht.shape
    obtain ⟨an, cn, rfl⟩ := hn.shape
    obtain ⟨w1, hw1⟩ : ∃ x, w.alloc (.cells #[.int .i64 id, .int .i64 ep, .int .i64 rd, .string mk, .int .i64 qr, .int .i64 qb, .slice aq qw.length cq, .int .i64 tr, .slice aw tw.length cw, .slice ah th.length ch, .slice at_ ts.length ct, .bool en, .slice an nx.length cn, .string rt] 32) = x := ⟨_, rfl⟩
    have b1 : Below w.heap.size w w1 := by rw [← hw1]; exact (Below.refl _ w).alloc (Nat.le_refl _) _
    have k1 : Blk w1 w.heap.size 32 [.int .i64 id, .int .i64 ep, .int .i64 rd, .string mk, .int .i64 qr, .int .i64 qb, .slice aq qw.length cq, .int .i64 tr, .slice aw tw.length cw, .slice ah th.length ch, .slice at_ ts.length ct, .bool en, .slice an nx.length cn, .string rt] := by rw [← hw1]; exact Blk.new w _ _
    have K1 := hide k1
    have HB1 := hide b1
    have HK1 := hide (HK.out w1 b1)
    have x0 := k1.cell 0
    have x1 := k1.cell 1
    have x2 := k1.cell 2
    have x3 := k1.cell 3
    have x4 := k1.cell 4
    have x5 := k1.cell 5
    have x6 := k1.cell 6
    have x7 := k1.cell 7
    have x8 := k1.cell 8
    have x9 := k1.cell 9
    have x10 := k1.cell 10
    have x11 := k1.cell 11
    have x12 := k1.cell 12
    have x13 := k1.cell 13
    simp only [List.getElem?_cons_zero, List.getElem?_cons_succ] at x0 x1 x2 x3 x4 x5 x6 x7 x8 x9 x10 x11 x12 x13
    clear hq hw hh ht hn k1 b1 HK
    go_enter Tryz.func16, Tryz.ntmps16
    go_wp2_with fail
    refine HK1.out.mono ?_
    rintro e w2 ⟨rfl, hb2⟩
    have HB2 := hide (HB1.out.trans (hb2.mono HB1.out.size))
    have Ho := hide (own_nil w2 w.heap.size HB2.out.size)
    clear x0 x1 x2 x3 x4 x5 x6 x7 x8 x9 x10 x11 x12 x13 hw1 hb2
    go_wp2
    go_ret
    exact ⟨_, rfl, by rw [HX.out]; exact Ho.out, HB2.out.alloc HB2.out.size _⟩
  · rw [if_pos rfl] at HX
    have hk := HPut.out rfl
    have GH := hide (HH.out hk)
    have GQ := hide (HQ.out hk)
    have GT := hide (HT.out hk)
    have GO := hide (HO.out hk (Htx.out rfl))
    have GE := hide (HE.out hk)
    obtain ⟨g1, g2, g3, g4, g5⟩ := HL.out hk
    have GP := hide (HPi.out rfl)
    clear HPut Htx HL hk HX HH HQ HT HO HE HPi
    obtain ⟨id, ep, rd, mk, qr, qb, qw, tr, tw, th, ts, en, nx, rt⟩ := b
    obtain ⟨vq, vw, vh, vt, vn⟩ := v
    obtain ⟨hq, hw, hh, ht, hn⟩ := hr
    simp only [bkV] at *
    obtain ⟨aq, cq, rfl⟩ := hq.shape
    obtain ⟨aw, cw, rfl⟩ := hw.shape
    obtain ⟨ah, ch, rfl⟩ := hh.shape
    obtain ⟨at_, ct, rfl⟩ := ht.shape
    obtain ⟨an, cn, rfl⟩ := hn.shape
    obtain ⟨w1, hw1⟩ : ∃ x, w.alloc (.cells #[.int .i64 id, .int .i64 ep, .int .i64 rd, .string mk, .int .i64 qr, .int .i64 qb, .slice aq qw.length cq, .int .i64 tr, .slice aw tw.length cw, .slice ah th.length ch, .slice at_ ts.length ct, .bool en, .slice an nx.length cn, .string rt] 32) = x := ⟨_, rfl⟩
    have b1 : Below w.heap.size w w1 := by rw [← hw1]; exact (Below.refl _ w).alloc (Nat.le_refl _) _
    have k1 : Blk w1 w.heap.size 32 [.int .i64 id, .int .i64 ep, .int .i64 rd, .string mk, .int .i64 qr, .int .i64 qb, .slice aq qw.length cq, .int .i64 tr, .slice aw tw.length cw, .slice ah th.length ch, .slice at_ ts.length ct, .bool en, .slice an nx.length cn, .string rt] := by rw [← hw1]; exact Blk.new w _ _
    have K1 := hide k1
    have HB1 := hide b1
    have HK1 := hide (HK.out w1 b1)
    have x0 := k1.cell 0
    have x1 := k1.cell 1
    have x2 := k1.cell 2
    have x3 := k1.cell 3
    have x4 := k1.cell 4
    have x5 := k1.cell 5
    have x6 := k1.cell 6
    have x7 := k1.cell 7
    have x8 := k1.cell 8
    have x9 := k1.cell 9
    have x10 := k1.cell 10
    have x11 := k1.cell 11
    have x12 := k1.cell 12
    have x13 := k1.cell 13
    simp only [List.getElem?_cons_zero, List.getElem?_cons_succ] at x0 x1 x2 x3 x4 x5 x6 x7 x8 x9 x10 x11 x12 x13
    clear hq hw hh ht hn k1 b1 HK
    simp only [qcV, tcV] at GQ GT
    go_enter Tryz.func16, Tryz.ntmps16
    go_wp2_with fail
    refine HK1.out.mono ?_
    rintro e w2 ⟨rfl, hb2⟩
    have hB2 := HB1.out.trans (hb2.mono HB1.out.size)
    have k2 := K1.out.below hb2 K1.out.lt
    have HSS : Hid (∀ V, Below w2.heap.size w2 V → (V.cell? ⟨w.heap.size, 0, none⟩ = some (.int .i64 id) ∧ V.cell? ⟨w.heap.size, 1, none⟩ = some (.int .i64 ep) ∧ V.cell? ⟨w.heap.size, 2, none⟩ = some (.int .i64 rd) ∧ V.cell? ⟨w.heap.size, 3, none⟩ = some (.string mk) ∧ V.cell? ⟨w.heap.size, 4, none⟩ = some (.int .i64 qr) ∧ V.cell? ⟨w.heap.size, 5, none⟩ = some (.int .i64 qb) ∧ V.cell? ⟨w.heap.size, 6, none⟩ = some (.slice aq qw.length cq) ∧ V.cell? ⟨w.heap.size, 7, none⟩ = some (.int .i64 tr) ∧ V.cell? ⟨w.heap.size, 8, none⟩ = some (.slice aw tw.length cw) ∧ V.cell? ⟨w.heap.size, 9, none⟩ = some (.slice ah th.length ch) ∧ V.cell? ⟨w.heap.size, 10, none⟩ = some (.slice at_ ts.length ct) ∧ V.cell? ⟨w.heap.size, 11, none⟩ = some (.bool en) ∧ V.cell? ⟨w.heap.size, 12, none⟩ = some (.slice an nx.length cn) ∧ V.cell? ⟨w.heap.size, 13, none⟩ = some (.string rt))) := hide (fun V hv => by have kv := k2.below hv k2.lt; exact ⟨kv.cell 0, kv.cell 1, kv.cell 2, kv.cell 3, kv.cell 4, kv.cell 5, kv.cell 6, kv.cell 7, kv.cell 8, kv.cell 9, kv.cell 10, kv.cell 11, kv.cell 12, kv.cell 13⟩)
    have bD : Below w2.heap.size w2 w2.drew := (Below.refl _ w2).drew
    have HB2 := hide hB2
    clear x0 x1 x2 x3 x4 x5 x6 x7 x8 x9 x10 x11 x12 x13 hw1 hb2 k2 hB2
    go_wp2
    go_region_held_law (fun w' => w'.cell? ⟨w.heap.size, 0, none⟩ = some (.int .i64 id) ∧ w'.cell? ⟨w.heap.size, 1, none⟩ = some (.int .i64 ep) ∧ w'.cell? ⟨w.heap.size, 2, none⟩ = some (.int .i64 rd) ∧ w'.cell? ⟨w.heap.size, 3, none⟩ = some (.string mk) ∧ w'.cell? ⟨w.heap.size, 4, none⟩ = some (.int .i64 qr) ∧ w'.cell? ⟨w.heap.size, 5, none⟩ = some (.int .i64 qb) ∧ w'.cell? ⟨w.heap.size, 6, none⟩ = some (.slice aq qw.length cq) ∧ w'.cell? ⟨w.heap.size, 7, none⟩ = some (.int .i64 tr) ∧ w'.cell? ⟨w.heap.size, 8, none⟩ = some (.slice aw tw.length cw) ∧ w'.cell? ⟨w.heap.size, 9, none⟩ = some (.slice ah th.length ch) ∧ w'.cell? ⟨w.heap.size, 10, none⟩ = some (.slice at_ ts.length ct) ∧ w'.cell? ⟨w.heap.size, 11, none⟩ = some (.bool en) ∧ w'.cell? ⟨w.heap.size, 12, none⟩ = some (.slice an nx.length cn) ∧ w'.cell? ⟨w.heap.size, 13, none⟩ = some (.string rt)) ((refine HSS.out _ ?_; repeat (first | with_reducible exact c8 | with_reducible exact c9 | with_reducible exact c7 | with_reducible exact c6 | with_reducible exact c5 | with_reducible exact c4 | with_reducible exact c3 | with_reducible exact bD | with_reducible exact Below.refl _ _ | refine Below.drew ?_))) ((first
      | (go_at_call 46; refine (implJoined_any [(_, B1), (_, B2), (_, B3), (_, B4), (_, B5)] _ 0 _ (by simp) (five_c rfl) (five_r (((((ho3.rd.below hb4 (Nat.le_refl _)).below hb5 (Nat.le_refl _)).below hb6 (Nat.le_refl _)).below hb7 (Nat.le_refl _)).below ((Below.refl _ _).alloc (Nat.le_refl _) _) (Nat.le_refl _)) ((((ho4.rd.below hb5 (Nat.le_refl _)).below hb6 (Nat.le_refl _)).below hb7 (Nat.le_refl _)).below ((Below.refl _ _).alloc (Nat.le_refl _) _) (Nat.le_refl _)) (((ho5.rd.below hb6 (Nat.le_refl _)).below hb7 (Nat.le_refl _)).below ((Below.refl _ _).alloc (Nat.le_refl _) _) (Nat.le_refl _)) ((ho6.rd.below hb7 (Nat.le_refl _)).below ((Below.refl _ _).alloc (Nat.le_refl _) _) (Nat.le_refl _)) ((ho7.rd).below ((Below.refl _ _).alloc (Nat.le_refl _) _) (Nat.le_refl _))) (by simp only [flP, List.flatMap_cons, List.flatMap_nil, List.length_append, List.length_nil]; omega) (by simp)).mono ?_; rintro e w9 ⟨v9, rfl, ho9, hb9⟩; have c9 := c8.trans (hb9.mono c8.size))
      | (go_at_call 51; (with_reducible refine (GE.out _ (HB2.out.trans (c6.mono HB2.out.size))).mono ?_); rintro e w7 ⟨v7, rfl, ho7, hb7⟩; obtain ⟨a7, d7, rfl⟩ := ho7.rd.shape; have c7 := c6.trans (hb7.mono c6.size); have c8 := c7.alloc c7.size (.cells #[.slice a3 B1.length d3, .slice a4 B2.length d4, .slice a5 B3.length d5, .slice a6 B4.length d6, .slice a7 B5.length d7] 22))
      | (go_at_call 50; (with_reducible refine (GO.out _ (HB2.out.trans (c5.mono HB2.out.size))).mono ?_); rintro e w6 ⟨v6, rfl, ho6, hb6⟩; obtain ⟨a6, d6, rfl⟩ := ho6.rd.shape; have c6 := c5.trans (hb6.mono c5.size))
      | (go_at_call 49; (with_reducible refine (GT.out _ (HB2.out.trans (c4.mono HB2.out.size))).mono ?_); rintro e w5 ⟨v5, rfl, ho5, hb5⟩; obtain ⟨a5, d5, rfl⟩ := ho5.rd.shape; have c5 := c4.trans (hb5.mono c4.size))
      | (go_at_call 48; (with_reducible refine (GQ.out _ (HB2.out.trans (c3.mono HB2.out.size))).mono ?_); rintro e w4 ⟨v4, rfl, ho4, hb4⟩; obtain ⟨a4, d4, rfl⟩ := ho4.rd.shape; have c4 := c3.trans (hb4.mono c3.size))
      | (go_at_call 47; (with_reducible refine (GH.out _ (HB2.out.trans (bD.mono HB2.out.size))).mono ?_); rintro e w3 ⟨v3, rfl, ho3, hb3⟩; obtain ⟨a3, d3, rfl⟩ := ho3.rd.shape; have c3 := bD.trans (hb3.mono bD.size))))
    have e9 : flP [(Value.slice a3 B1.length d3, B1), (Value.slice a4 B2.length d4, B2), (Value.slice a5 B3.length d5, B3), (Value.slice a6 B4.length d6, B4), (Value.slice a7 B5.length d7, B5)] = XX := by
      rw [← GP.out]
      simp only [flP, List.flatMap_cons, List.flatMap_nil, List.append_nil]
    rw [e9] at ho9
    have hB9' := HB2.out.trans (c9.mono HB2.out.size)
    have Ho := hide (OwnB.mono ho9 (Nat.le_trans HB2.out.size c8.size))
    clear ho9 e9
    go_wp2
    go_ret
    exact ⟨_, rfl, Ho.out, hB9'⟩
end Go.Proofs.YtcmmdkabocfnfaaGreatDoor
