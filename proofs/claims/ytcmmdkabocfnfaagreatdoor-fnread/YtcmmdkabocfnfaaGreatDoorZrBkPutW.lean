/- The model's PutBlock. -/
import Derived.Test.YtcmmdkabocfnfaaGreatDoorZrBkPutB
namespace Go.Proofs.YtcmmdkabocfnfaaGreatDoor
open Go.RowKit
set_option linter.unusedVariables false

theorem rd9_some (w : World) (a : Addr) (c : Nat) : RdB w (.slice (some a) 0 c) [] := .inl ⟨_, _, rfl, rfl, fun h => by cases h⟩
set_option maxRecDepth 20000 in
set_option maxHeartbeats 8000000 in
theorem specPutBlock_any (b : Bk) (v : Bv) (w : World) (hr : RdK w b v) (hf : FewK b) (hbd : -9223372036854775808 ≤ b.tr ∧ b.tr ≤ 9223372036854775807) :
    Calls Tryz.prog 27 #[bkV b v] w fun e w' => ∃ v', e = .returned v' ∧ OwnB w.heap.size w' v' (blP b) ∧ Below w.heap.size w w' := by
  have HK := hide (fun V (hV : Below w.heap.size w V) => specBlockOk_any b v V (hr.below hV (Nat.le_refl _)) hf hbd)
  have HX : Hid (blP b = if blB b = true then n9P b b.nx.length ++ textB b.rt else []) := hide rfl
  have HPut := hide (bl_put (b := b))
  have h1l : (h9P b).length ≤ 24 + b.md.size := by
    have a1 := numB_len b.id
    have a2 := numB_len b.ep
    have a3 := numB_len b.rd
    have a4 := textB_len b.md
    simp only [h9P, List.length_append, List.length_nil]; omega
  have h2l : (q9P b).length ≤ (h9P b).length + 18 + 6 * b.qw.length + tot b.qw := by
    have a1 := numB_len b.qr
    have a2 := numB_len b.qb
    have a3 := namesB_len b.qw
    simp only [q9P, List.length_append]; omega
  have h3l : (t9P b).length ≤ (q9P b).length + 12 + 6 * b.tw.length + tot b.tw + 6 * b.th.length := by
    have a1 := numB_len b.tr
    have a2 := namesB_len b.tw
    have a3 := hisP_len b.th
    simp only [t9P, List.length_append]; omega
  have HXl : Hid (∀ k, (∀ t ∈ b.ts, t.2.1.size ≤ 8 ∧ t.2.2.1.size ≤ 8) → k ≤ b.ts.length → (x9P b k).length ≤ (t9P b).length + 6 + 46 * k) := hide (fun k ht => by
    induction k with
    | zero => intro _; have := numB_len (b.ts.length : Int); simp only [x9P, List.take_zero, List.flatMap_nil, List.append_nil, List.length_append]; omega
    | succ k ih =>
      intro hk
      have h1 := ih (by omega)
      have h2 := txP_len b.ts[k]
      have h3 := ht b.ts[k] (List.getElem_mem _)
      rw [x9P_snoc b k (by omega), List.length_append]
      omega)
  have h5l : (e9P b).length ≤ (x9P b b.ts.length).length + 12 := by
    have a1 := numB_len (if b.en = true then 1 else 0)
    have a2 := numB_len (b.nx.length : Int)
    simp only [e9P, List.length_append]; omega
  have HNl : Hid (∀ k, (∀ p ∈ b.nx, p.1.size ≤ 8) → k ≤ b.nx.length → (n9P b k).length ≤ (e9P b).length + 20 * k) := hide (fun k ht => by
    induction k with
    | zero => intro _; simp [n9P]
    | succ k ih =>
      intro hk
      have h1 := ih (by omega)
      have h2 := textB_len b.nx[k].1
      have h4 := numB_len b.nx[k].2
      have h3 := ht b.nx[k] (List.getElem_mem _)
      rw [n9P_snoc b k (by omega), List.length_append, List.length_append]
      omega)
  have ex0 := x9P_zero b
  have Hxs := hide (x9P_snoc b)
  have en0 := n9P_zero b
  have Hns := hide (n9P_snoc b)
  have eh : h9P b = [] ++ numB b.id ++ numB b.ep ++ numB b.rd ++ textB b.md := rfl
  have eq9 : q9P b = h9P b ++ numB b.qr ++ numB b.qb ++ namesB b.qw := rfl
  have et9 : t9P b = q9P b ++ numB b.tr ++ namesB b.tw ++ hisP b.th := rfl
  have ee9 : e9P b = x9P b b.ts.length ++ numB (if b.en = true then 1 else 0) ++ numB (b.nx.length : Int) := rfl
  generalize blP b = XX at HX ⊢
  generalize blB b = Z0 at HX HK HPut
  cases Z0
  · rw [if_neg (by simp)] at HX
    clear HPut h1l h2l h3l HXl h5l HNl ex0 Hxs en0 Hns eh eq9 et9 ee9
    obtain ⟨id, ep, rd, mk, qr, qb, qw, tr, tw, th, ts, en, nx, rt⟩ := b
    obtain ⟨vq, vw, vh, vt, vn⟩ := v
    obtain ⟨hq, hw, hh, ht, hn⟩ := hr
    simp only [bkV] at *
    obtain ⟨aq, cq, rfl⟩ := hq.shape
    obtain ⟨aw, cw, rfl⟩ := hw.shape
    obtain ⟨ah, ch, rfl⟩ := hh.shape
    obtain ⟨at_, ct, rfl⟩ := ht.shape
    obtain ⟨an, cn, rfl⟩ := hn.shape
    obtain ⟨w1, hw1⟩ : ∃ x, w.alloc (.cells #[.int .i64 id, .int .i64 ep, .int .i64 rd, .string mk, .int .i64 qr, .int .i64 qb, .slice aq qw.length cq, .int .i64 tr, .slice aw tw.length cw, .slice ah th.length ch, .slice at_ ts.length ct, .bool en, .slice an nx.length cn, .string rt] 32) = x := ⟨_, rfl⟩
    have b1 : Below w.heap.size w w1 := by rw [← hw1]; exact (Below.refl _ w).alloc (Nat.le_refl _) _
    have k1 : Blk w1 w.heap.size 32 [.int .i64 id, .int .i64 ep, .int .i64 rd, .string mk, .int .i64 qr, .int .i64 qb, .slice aq qw.length cq, .int .i64 tr, .slice aw tw.length cw, .slice ah th.length ch, .slice at_ ts.length ct, .bool en, .slice an nx.length cn, .string rt] := by rw [← hw1]; exact Blk.new w _ _
    have x0 := k1.cell 0
    have x1 := k1.cell 1
    have x2 := k1.cell 2
    have x3 := k1.cell 3
    have x4 := k1.cell 4
    have x5 := k1.cell 5
    have x6 := k1.cell 6
    have x7 := k1.cell 7
    have x8 := k1.cell 8
    have x9 := k1.cell 9
    have x10 := k1.cell 10
    have x11 := k1.cell 11
    have x12 := k1.cell 12
    have x13 := k1.cell 13
    simp only [List.getElem?_cons_zero, List.getElem?_cons_succ] at x0 x1 x2 x3 x4 x5 x6 x7 x8 x9 x10 x11 x12 x13
    go_enter Tryz.func27, Tryz.ntmps27
    go_wp2_with fail
    refine (HK.out w1 b1).mono ?_
    rintro e w2 ⟨rfl, hb2⟩
    have hB2 := b1.trans (hb2.mono b1.size)
    have HO : Hid (OwnB w.heap.size (w2.alloc (.cells #[] 5)) (.slice (some ⟨w2.heap.size, 0, none⟩) 0 0) []) := hide (World.ownsRow_lit w2 #[] 0 hB2.size (by unfold maxLen; omega) (by simp))
    have HB := hide (hB2.alloc hB2.size (.cells #[] 5))
    clear x0 x1 x2 x3 x4 x5 x6 x7 x8 x9 x10 x11 x12 x13 hw1 hb2 k1
    go_wp2
    go_ret
    exact ⟨_, rfl, by rw [HX.out]; exact HO.out, HB.out⟩
  · rw [if_pos rfl] at HX
    have P := HPut.out rfl
    clear HPut
    obtain ⟨pid, pep, prd, pmd, pqr, pqb, pqw, ptr, ptw, pth, phb, pts, ptb, pnx, pnb, prt⟩ := P
    generalize h9P b = H9 at h1l h2l eh eq9
    generalize q9P b = Q9 at h2l h3l eq9 et9
    generalize t9P b = T9 at h3l HXl ex0 et9
    generalize e9P b = E9 at h5l HNl en0 ee9
    generalize hxf : x9P b = xf at HXl ex0 Hxs h5l ee9
    generalize hnf : n9P b = nf at HNl en0 Hns HX
    clear hxf hnf
    obtain ⟨id, ep, rd, mk, qr, qb, qw, tr, tw, th, ts, en, nx, rt⟩ := b
    obtain ⟨vq, vw, vh, vt, vn⟩ := v
    obtain ⟨hq, hw, hh, ht, hn⟩ := hr
    simp only [bkV] at *
    obtain ⟨aq, cq, rfl⟩ := hq.shape
    obtain ⟨aw, cw, rfl⟩ := hw.shape
    obtain ⟨ah, ch, rfl⟩ := hh.shape
    obtain ⟨at_, ct, rfl⟩ := ht.shape
    obtain ⟨an, cn, rfl⟩ := hn.shape
    obtain ⟨w1, hw1⟩ : ∃ x, w.alloc (.cells #[.int .i64 id, .int .i64 ep, .int .i64 rd, .string mk, .int .i64 qr, .int .i64 qb, .slice aq qw.length cq, .int .i64 tr, .slice aw tw.length cw, .slice ah th.length ch, .slice at_ ts.length ct, .bool en, .slice an nx.length cn, .string rt] 32) = x := ⟨_, rfl⟩
    have b1 : Below w.heap.size w w1 := by rw [← hw1]; exact (Below.refl _ w).alloc (Nat.le_refl _) _
    have k1 : Blk w1 w.heap.size 32 [.int .i64 id, .int .i64 ep, .int .i64 rd, .string mk, .int .i64 qr, .int .i64 qb, .slice aq qw.length cq, .int .i64 tr, .slice aw tw.length cw, .slice ah th.length ch, .slice at_ ts.length ct, .bool en, .slice an nx.length cn, .string rt] := by rw [← hw1]; exact Blk.new w _ _
    have x0 := k1.cell 0
    have x1 := k1.cell 1
    have x2 := k1.cell 2
    have x3 := k1.cell 3
    have x4 := k1.cell 4
    have x5 := k1.cell 5
    have x6 := k1.cell 6
    have x7 := k1.cell 7
    have x8 := k1.cell 8
    have x9 := k1.cell 9
    have x10 := k1.cell 10
    have x11 := k1.cell 11
    have x12 := k1.cell 12
    have x13 := k1.cell 13
    simp only [List.getElem?_cons_zero, List.getElem?_cons_succ] at x0 x1 x2 x3 x4 x5 x6 x7 x8 x9 x10 x11 x12 x13
    have Hq := hide hq
    have Hw := hide hw
    have Hh := hide hh
    have Ht := hide ht
    have Hn := hide hn
    clear hq hw hh ht hn hf
    go_enter Tryz.func27, Tryz.ntmps27
    go_wp2_with fail
    refine (HK.out w1 b1).mono ?_
    rintro e w3 ⟨rfl, hb3⟩
    have hB3 := b1.trans (hb3.mono b1.size)
    have k3 := k1.below hb3 k1.lt
    clear x0 x1 x2 x3 x4 x5 x6 x7 x8 x9 x10 x11 x12 x13 hw1 hb3 k1 b1 HK
    have HSA : Hid (∀ V, Below w3.heap.size w3 V → (V.cell? ⟨w.heap.size, 0, none⟩ = some (.int .i64 id) ∧ V.cell? ⟨w.heap.size, 1, none⟩ = some (.int .i64 ep) ∧ V.cell? ⟨w.heap.size, 2, none⟩ = some (.int .i64 rd) ∧ V.cell? ⟨w.heap.size, 3, none⟩ = some (.string mk))) := hide (fun V hv => ⟨(k3.below hv k3.lt).cell 0, (k3.below hv k3.lt).cell 1, (k3.below hv k3.lt).cell 2, (k3.below hv k3.lt).cell 3⟩)
    have bE : Below w3.heap.size w3 (w3.alloc (.cells #[] 5)).drew := ((Below.refl _ w3).alloc (Nat.le_refl _) _).drew
    have bD : Below w3.heap.size w3 w3.drew := (Below.refl _ w3).drew
    have HPN : Hid (∀ V u l (n : Int), RdB V u l → l.length ≤ 40000000 → (-9223372036854775808 ≤ n ∧ n ≤ 9223372036854775807) → Calls Tryz.prog 75 #[u, .int .i64 n] V fun e w' => ∃ v', e = .returned v' ∧ OwnB V.heap.size w' v' (l ++ numB n) ∧ Below V.heap.size V w') := hide (fun V u l n h h1 h2 => specPutNum_any u l n V h h1 h2.1 h2.2)
    have HPT : Hid (∀ V u l s, RdB V u l → l.length ≤ 40000000 → s.size ≤ 10000000 → Calls Tryz.prog 74 #[u, .string s] V fun e w' => ∃ v', e = .returned v' ∧ OwnB V.heap.size w' v' (l ++ textB s) ∧ Below V.heap.size V w') := hide (fun V u l s h h1 h2 => specPutText_any u l s V h h1 h2)
    have n1 := numB_len id
    have n2 := numB_len ep
    have n3 := numB_len rd
    have K3 := hide k3
    have HB3 := hide hB3
    clear k3 hB3
    go_wp2
    go_region_held_law (fun w' => w'.cell? ⟨w.heap.size, 0, none⟩ = some (.int .i64 id) ∧ w'.cell? ⟨w.heap.size, 1, none⟩ = some (.int .i64 ep) ∧ w'.cell? ⟨w.heap.size, 2, none⟩ = some (.int .i64 rd) ∧ w'.cell? ⟨w.heap.size, 3, none⟩ = some (.string mk)) ((refine HSA.out _ ?_; repeat (first | with_reducible exact bD | with_reducible exact bE | with_reducible exact c4 | with_reducible exact c3 | with_reducible exact c2 | with_reducible exact c1 | with_reducible exact Below.refl _ _ | refine Below.drew ?_ | refine Below.alloc ?_ (by first | omega | (simp; done) | (simp; omega)) _))) ((first
      | (go_at_call 74; refine (HPT.out u3 v3 _ mk o3.rd (by simp only [List.length_append, List.length_nil]; omega) (by omega)).mono ?_; rintro e u4 ⟨v4, rfl, o4, hb4⟩; have c4 := c3.trans (hb4.mono c3.size))
      | (go_at_call 75; refine (HPN.out u2 v2 _ rd o2.rd (by simp only [List.length_append, List.length_nil]; omega) (by omega)).mono ?_; rintro e u3 ⟨v3, rfl, o3, hb3⟩; have c3 := c2.trans (hb3.mono c2.size))
      | (go_at_call 75; refine (HPN.out u1 v1 _ ep o1.rd (by simp only [List.length_append, List.length_nil]; omega) (by omega)).mono ?_; rintro e u2 ⟨v2, rfl, o2, hb2⟩; have c2 := c1.trans (hb2.mono c1.size))
      | (go_at_call 75; (with_reducible refine (HPN.out (w3.alloc (.cells #[] 5)).drew _ [] id (rd9_some _ _ _) (by simp) (by omega)).mono ?_); rintro e u1 ⟨v1, rfl, o1, hb1⟩; have c1 := bE.trans (hb1.mono bE.size))))
    rw [← eh] at o4
    have O4 := hide (OwnB.mono o4 (show w.heap.size ≤ u3.heap.size from Nat.le_trans HB3.out.size c3.size))
    have C4 := hide c4
    have HB4 := hide (HB3.out.trans (c4.mono HB3.out.size))
    have k4 := K3.out.below c4 K3.out.lt
    clear o1 o2 o3 o4 hb1 hb2 hb3 hb4 c1 c2 c3 c4 HSA bE bD eh n1 n2 n3
    have HSB : Hid (∀ V, Below u4.heap.size u4 V → (V.cell? ⟨w.heap.size, 4, none⟩ = some (.int .i64 qr) ∧ V.cell? ⟨w.heap.size, 5, none⟩ = some (.int .i64 qb) ∧ V.cell? ⟨w.heap.size, 6, none⟩ = some (.slice aq qw.length cq) ∧ V.cell? ⟨w.heap.size, 7, none⟩ = some (.int .i64 tr) ∧ V.cell? ⟨w.heap.size, 8, none⟩ = some (.slice aw tw.length cw) ∧ V.cell? ⟨w.heap.size, 9, none⟩ = some (.slice ah th.length ch) ∧ V.cell? ⟨w.heap.size, 10, none⟩ = some (.slice at_ ts.length ct))) := hide (fun V hv => ⟨(k4.below hv k4.lt).cell 4, (k4.below hv k4.lt).cell 5, (k4.below hv k4.lt).cell 6, (k4.below hv k4.lt).cell 7, (k4.below hv k4.lt).cell 8, (k4.below hv k4.lt).cell 9, (k4.below hv k4.lt).cell 10⟩)
    have bD : Below u4.heap.size u4 u4.drew := (Below.refl _ u4).drew
    have HQc := hide (fun V u (h : RdB V u H9) (hV : Below w.heap.size w V) => specPutQc9_any u (.slice aq qw.length cq) H9 qr qb qw V h (Hq.out.below hV (Nat.le_refl _)) (by omega) (by omega) (by omega) (by omega) (by omega))
    rw [← eq9] at HQc
    have HTc := hide (fun V u (h : RdB V u Q9) (hV : Below w.heap.size w V) => specPutTc9_any u (.slice aw tw.length cw) (.slice ah th.length ch) Q9 tr tw th V h (Hw.out.below hV (Nat.le_refl _)) (Hh.out.below hV (Nat.le_refl _)) (by omega) (by omega) (by omega) (by omega) (by omega) (fun x hx => by have := phb x hx; omega))
    rw [← et9] at HTc
    simp only [qcV, tcV] at HQc HTc
    have R4 := hide (O4.out.rd.below bD (Nat.le_refl _))
    clear O4 k4
    go_wp2
    go_region_held_law (fun w' => w'.cell? ⟨w.heap.size, 4, none⟩ = some (.int .i64 qr) ∧ w'.cell? ⟨w.heap.size, 5, none⟩ = some (.int .i64 qb) ∧ w'.cell? ⟨w.heap.size, 6, none⟩ = some (.slice aq qw.length cq) ∧ w'.cell? ⟨w.heap.size, 7, none⟩ = some (.int .i64 tr) ∧ w'.cell? ⟨w.heap.size, 8, none⟩ = some (.slice aw tw.length cw) ∧ w'.cell? ⟨w.heap.size, 9, none⟩ = some (.slice ah th.length ch) ∧ w'.cell? ⟨w.heap.size, 10, none⟩ = some (.slice at_ ts.length ct)) ((refine HSB.out _ ?_; repeat (first | with_reducible exact bD | with_reducible exact c3 | with_reducible exact c2 | with_reducible exact c1 | with_reducible exact Below.refl _ _ | refine Below.drew ?_))) ((first
      | (go_at_call 75; refine (HPN.out y2 v2 _ (ts.length : Int) o2.rd (by omega) (by omega)).mono ?_; rintro e y3 ⟨v3, rfl, o3, hb3⟩; have c3 := c2.trans (hb3.mono c2.size))
      | (go_at_call 76; refine (HTc.out y1 v1 o1.rd (HB4.out.trans (c1.mono HB4.out.size))).mono ?_; rintro e y2 ⟨v2, rfl, o2, hb2⟩; have c2 := c1.trans (hb2.mono c1.size))
      | (go_at_call 77; refine (HQc.out u4.drew _ R4.out (HB4.out.trans (bD.mono HB4.out.size))).mono ?_; rintro e y1 ⟨v1, rfl, o1, hb1⟩; have c1 := bD.trans (hb1.mono bD.size))))
    rw [ex0] at o3
    have O3 := hide (OwnB.mono o3 (show w.heap.size ≤ y2.heap.size from Nat.le_trans HB4.out.size c2.size))
    have C3 := hide (C4.out.trans (c3.mono C4.out.size))
    clear o1 o2 o3 hb1 hb2 hb3 c1 c2 c3 HSB bD R4 HQc HTc eq9 et9 ex0 C4
    go_wp2
    go_loopw [3, 4] (fun bv iv wr => ∃ k : Nat, k ≤ ts.length ∧ iv = .int .i64 (k : Int) ∧ OwnB w.heap.size wr bv (xf k) ∧ Below w3.heap.size w3 wr) (fun _ iv _ => ts.length - (intOf iv).toNat)
    case atStart => exact ⟨0, Nat.zero_le _, rfl, O3.out, C3.out⟩
    case round =>
      obtain ⟨k, hk, rfl, ho, hb⟩ := hrel
      clear O3 C3
      have kr := K3.out.below hb K3.out.lt
      have t10 := kr.cell 10
      simp only [List.getElem?_cons_zero, List.getElem?_cons_succ] at t10
      have HBr := hide (HB3.out.trans (hb.mono HB3.out.size))
      have hxl := HXl.out k (fun t h => ⟨(ptb t h).1, (ptb t h).2.1⟩) hk
      by_cases hlt : k < ts.length
      · obtain ⟨bt, ot, rfl, q1, q2, hbt, hat⟩ := Ht.out.at9 hlt
        have hli : (k : Int) < (ts.length : Int) := by omega
        have hat' := hat.below HBr.out hbt
        have hsz := ptb ts[k] (List.getElem_mem _)
        have Hsn := hide (Hxs.out k hlt)
        have HL := hide (specL5Put_any _ (xf k) ts[k] wr ho.rd (by omega) (by omega) (by omega) (by omega) (by omega) (by omega))
        generalize ts[k] = tx at hat hat' hsz Hsn HL
        obtain ⟨d0, d1, d2, d3, d4⟩ := hat'
        simp only [txV] at HL
        have hwr := HBr.out.size
        have Hb := hide hb
        clear hat hsz ho hb kr hxl
        go_wp2_with fail
        refine HL.out.mono ?_
        rintro e w4 ⟨v4, rfl, o4, hb4⟩
        have HO4 := hide (OwnB.mono o4 hwr)
        have HB5 := hide (Hb.out.trans (hb4.mono Hb.out.size))
        clear o4 hb4 d0 d1 d2 d3 d4 t10
        go_wp2
        go_roundw
        case rel => exact ⟨k + 1, by omega, by go_num, by rw [Hsn.out]; exact HO4.out, HB5.out⟩
        case measure => simp [intOf]; omega
      · have ek : k = ts.length := by omega
        subst ek
        obtain ⟨wo, rfl⟩ : ∃ x, x = wr := ⟨_, rfl⟩
        have hwo := HBr.out.size
        have t11 := kr.cell 11
        simp only [List.getElem?_cons_zero, List.getElem?_cons_succ] at t11
        have HSC : Hid (∀ V, Below wo.heap.size wo V → V.cell? ⟨w.heap.size, 12, none⟩ = some (.slice an nx.length cn)) := hide (fun V hv => (kr.below hv kr.lt).cell 12)
        have bD : Below wo.heap.size wo wo.drew := (Below.refl _ wo).drew
        have RO := hide (ho.rd.below bD (Nat.le_refl _))
        have Hb := hide hb
        clear ho hb kr Hxs HXl
        generalize xf ts.length = Xe at hxl h5l ee9 RO
        cases en
        all_goals
          first
          | rw [if_pos rfl] at ee9
          | rw [if_neg (by simp)] at ee9
          go_wp2
          go_region_held_law (fun w' => w'.cell? ⟨w.heap.size, 12, none⟩ = some (.slice an nx.length cn)) ((refine HSC.out _ ?_; repeat (first | with_reducible exact bD | with_reducible exact c2 | with_reducible exact c1 | with_reducible exact Below.refl _ _ | refine Below.drew ?_))) ((first
            | (go_at_call 75; refine (HPN.out g1 v1 _ (nx.length : Int) o1.rd (by have := numB_len 0; have := numB_len 1; simp only [List.length_append]; omega) (by omega)).mono ?_; rintro e g2 ⟨v2, rfl, o2, hb2⟩; have c2 := c1.trans (hb2.mono c1.size))
            | (go_at_call 75; refine (HPN.out wo.drew _ Xe _ RO.out (by omega) (by omega)).mono ?_; rintro e g1 ⟨v1, rfl, o1, hb1⟩; have c1 := bD.trans (hb1.mono bD.size))))
          rw [← ee9, en0] at o2
          have O5 := hide (OwnB.mono o2 (show w.heap.size ≤ g1.heap.size from Nat.le_trans hwo c1.size))
          have C5 := hide (Hb.out.trans (c2.mono Hb.out.size))
          clear o1 o2 hb1 hb2 c1 c2 t10 t11
          go_wp2
          go_loopw [3, 6] (fun bv iv wr => ∃ k : Nat, k ≤ nx.length ∧ iv = .int .i64 (k : Int) ∧ OwnB w.heap.size wr bv (nf k) ∧ Below w3.heap.size w3 wr) (fun _ iv _ => nx.length - (intOf iv).toNat)
          case atStart => exact ⟨0, Nat.zero_le _, rfl, O5.out, C5.out⟩
          case round =>
            obtain ⟨k, hk, rfl, ho, hb⟩ := hrel
            clear O5 C5
            have kr := K3.out.below hb K3.out.lt
            have t12 := kr.cell 12
            simp only [List.getElem?_cons_zero, List.getElem?_cons_succ] at t12
            have HBr := hide (HB3.out.trans (hb.mono HB3.out.size))
            have hwr := HBr.out.size
            have hnl := HNl.out k (fun p h => (pnb p h).1) hk
            by_cases hlt : k < nx.length
            · obtain ⟨bn, on, rfl, q1, q2, hbn, d0, d1⟩ := Hn.out.at hlt
              have hli : (k : Int) < (nx.length : Int) := by omega
              have hsz := pnb nx[k] (List.getElem_mem _)
              have Hsn := hide (Hns.out k hlt)
              have f0 := (HBr.out.cell (p := ⟨bn, on + k * 2, none⟩) hbn).trans d0
              have f1 := (HBr.out.cell (p := ⟨bn, on + k * 2 + 1, none⟩) hbn).trans d1
              generalize nx[k] = px at d0 d1 f0 f1 hsz Hsn
              obtain ⟨nm, wt⟩ := px
              simp only at f0 f1 hsz Hsn
              have ltx := textB_len nm
              have HSD : Hid (∀ V, Below wr.heap.size wr V → (V.cell? ⟨w.heap.size, 12, none⟩ = some (.slice (some ⟨bn, on, none⟩) nx.length cn) ∧ V.cell? ⟨bn, on + k * 2, none⟩ = some (.string nm) ∧ V.cell? ⟨bn, on + k * 2 + 1, none⟩ = some (.int .i64 wt))) := hide (fun V hv => ⟨(kr.below hv kr.lt).cell 12, (hv.cell (p := ⟨bn, on + k * 2, none⟩) (show bn < wr.heap.size by omega)).trans f0, (hv.cell (p := ⟨bn, on + k * 2 + 1, none⟩) (show bn < wr.heap.size by omega)).trans f1⟩)
              have bF : Below wr.heap.size wr wr.drew := (Below.refl _ wr).drew
              have RF := hide (ho.rd.below bF (Nat.le_refl _))
              have Hbk := hide hb
              clear ho hb kr d0 d1 f0 f1
              generalize nf k = pr at hnl RF Hsn
              go_wp2
              go_region_held_law (fun w' => w'.cell? ⟨w.heap.size, 12, none⟩ = some (.slice (some ⟨bn, on, none⟩) nx.length cn) ∧ w'.cell? ⟨bn, on + k * 2, none⟩ = some (.string nm) ∧ w'.cell? ⟨bn, on + k * 2 + 1, none⟩ = some (.int .i64 wt)) ((refine HSD.out _ ?_; repeat (first | with_reducible exact bF | with_reducible exact c2 | with_reducible exact c1 | with_reducible exact Below.refl _ _ | refine Below.drew ?_))) ((first
                | (go_at_call 75; refine (HPN.out g3 v1 _ wt o1.rd (by simp only [List.length_append]; omega) (by omega)).mono ?_; rintro e g4 ⟨v2, rfl, o2, hb2⟩; have c2 := c1.trans (hb2.mono c1.size))
                | (go_at_call 74; refine (HPT.out wr.drew _ pr nm RF.out (by omega) (by omega)).mono ?_; rintro e g3 ⟨v1, rfl, o1, hb1⟩; have c1 := bF.trans (hb1.mono bF.size))))
              have O7 := hide (OwnB.mono o2 (show w.heap.size ≤ g3.heap.size from Nat.le_trans hwr c1.size))
              have C7 := hide (Hbk.out.trans (c2.mono Hbk.out.size))
              clear o1 o2 hb1 hb2 c1 c2 HSD bF RF t12
              go_wp2
              go_roundw
              case rel => exact ⟨k + 1, by omega, by go_num, by rw [Hsn.out]; exact O7.out, C7.out⟩
              case measure => simp [intOf]; omega
            · have ek : k = nx.length := by omega
              subst ek
              have HTe := hide (HPT.out wr _ (nf nx.length) rt ho.rd (by omega) (by omega))
              have t13 := kr.cell 13
              simp only [List.getElem?_cons_zero, List.getElem?_cons_succ] at t13
              clear ho hb kr
              go_wp2_with fail
              refine HTe.out.mono ?_
              rintro e w9 ⟨v9, rfl, o9, hb9⟩
              have HO9 := hide (OwnB.mono o9 hwr)
              have HB9 := hide (HBr.out.trans (hb9.mono HBr.out.size))
              clear o9 hb9 t12 t13
              go_wp2
              go_ret
              exact ⟨_, rfl, by rw [HX.out]; exact HO9.out, HB9.out⟩
end Go.Proofs.YtcmmdkabocfnfaaGreatDoor
