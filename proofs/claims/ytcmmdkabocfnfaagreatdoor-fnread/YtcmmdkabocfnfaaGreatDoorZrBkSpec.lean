/- The bytes of a block's certificates, by the model. The model's blocks that are right. -/
import Derived.Test.YtcmmdkabocfnfaaGreatDoorZrTxMarkC
import Derived.Test.YtcmmdkabocfnfaaGreatDoorZrTxSpec
import Derived.Test.YtcmmdkabocfnfaaGreatDoorZrTxPut
import Derived.Deep.RegionHeldLaw
import Derived.Lib.QuietBelow
import Derived.BigQuiet
namespace Go.Proofs.YtcmmdkabocfnfaaGreatDoor
open Go.RowKit
set_option linter.unusedVariables false

set_option maxRecDepth 20000 in
set_option maxHeartbeats 1000000 in
theorem specPutQc9_any (v vw : Value) (l : List UInt8) (r b : Int) (ws : List ByteArray) (w : World) (hr : RdB w v l) (hrw : RdS w vw ws) (hl : l.length ≤ 1000000) (hlw : ws.length ≤ 1000) (ht : tot ws ≤ 100000)
    (br : -9223372036854775808 ≤ r ∧ r ≤ 9223372036854775807) (bb : -9223372036854775808 ≤ b ∧ b ≤ 9223372036854775807) :
    Calls Tryz.prog 77 #[v, qcV r b vw] w fun e w' => ∃ v', e = .returned v' ∧ OwnB w.heap.size w' v' (l ++ numB r ++ numB b ++ namesB ws) ∧ Below w.heap.size w w' := by
  obtain ⟨a, c, rfl⟩ := hrw.shape
  simp only [qcV]
  obtain ⟨w1, hw1⟩ : ∃ x, w.alloc (.cells #[.int .i64 r, .int .i64 b, .slice a ws.length c] 25) = x := ⟨_, rfl⟩
  have b1 : Below w.heap.size w w1 := by rw [← hw1]; exact (Below.refl _ w).alloc (Nat.le_refl _) _
  have k1 : Blk w1 w.heap.size 25 [.int .i64 r, .int .i64 b, .slice a ws.length c] := by rw [← hw1]; exact Blk.new w _ _
  have HS : Hid (∀ V, Below w1.heap.size w1 V → (V.cell? ⟨w.heap.size, 0, none⟩ = some (.int .i64 r) ∧ V.cell? ⟨w.heap.size, 1, none⟩ = some (.int .i64 b) ∧ V.cell? ⟨w.heap.size, 2, none⟩ = some (.slice a ws.length c))) := hide (fun V hb => ⟨(k1.below hb k1.lt).cell 0, (k1.below hb k1.lt).cell 1, (k1.below hb k1.lt).cell 2⟩)
  have bD : Below w1.heap.size w1 w1.drew := (Below.refl _ w1).drew
  have HP1 := hide (specPutNum_any v l r w1.drew ((hr.below b1 (Nat.le_refl _)).below bD (Nat.le_refl _)) (by omega) br.1 br.2)
  have HP2 := hide (fun V u (h : RdB V u (l ++ numB r)) => specPutNum_any u (l ++ numB r) b V h (by have := numB_len r; simp only [List.length_append]; omega) bb.1 bb.2)
  have HP3 := hide (fun V u (h : RdB V u (l ++ numB r ++ numB b)) (hV : Below w.heap.size w V) => specPutNames_any u (.slice a ws.length c) (l ++ numB r ++ numB b) ws V h (hrw.below hV (Nat.le_refl _)) (by have := numB_len r; have := numB_len b; simp only [List.length_append]; omega) (by omega) (by omega))
  have HB1 := hide b1
  clear hr hrw k1 b1
  go_enter Tryz.func77, Tryz.ntmps77
  go_wp2
  clear hw1
  go_region_held_law (fun w' => w'.cell? ⟨w.heap.size, 0, none⟩ = some (.int .i64 r) ∧ w'.cell? ⟨w.heap.size, 1, none⟩ = some (.int .i64 b) ∧ w'.cell? ⟨w.heap.size, 2, none⟩ = some (.slice a ws.length c)) ((refine HS.out _ ?_; repeat (first | with_reducible exact bD | with_reducible exact c3 | with_reducible exact c2 | with_reducible exact c1 | with_reducible exact Below.refl _ _ | refine Below.drew ?_))) ((first
    | (go_at_call 120; refine (HP3.out u2 v2 o2.rd (HB1.out.trans (c2.mono HB1.out.size))).mono ?_; rintro e u3 ⟨v3, rfl, o3, hb3⟩; have c3 := c2.trans (hb3.mono c2.size))
    | (go_at_call 75; refine (HP2.out u1 v1 o1.rd).mono ?_; rintro e u2 ⟨v2, rfl, o2, hb2⟩; have c2 := c1.trans (hb2.mono c1.size))
    | (go_at_call 75; refine HP1.out.mono ?_; rintro e u1 ⟨v1, rfl, o1, hb1⟩; have c1 := bD.trans (hb1.mono bD.size))))
  have HO := hide (OwnB.mono o3 (show w.heap.size ≤ u2.heap.size from Nat.le_trans HB1.out.size c2.size))
  have HB := hide (HB1.out.trans (c3.mono HB1.out.size))
  clear o1 o2 o3 hb1 hb2 hb3 c1 c2 c3
  go_wp2
  go_ret
  exact ⟨_, rfl, HO.out, HB.out⟩
/-- Numbers, one behind the other. -/
def hisP (hs : List Int) : List UInt8 := hs.flatMap numB
theorem hisP_snoc (hs : List Int) (k : Nat) (h : k < hs.length) : hisP (hs.take (k + 1)) = hisP (hs.take k) ++ numB hs[k] := by
  rw [List.take_succ_eq_append_getElem h]; simp only [hisP, List.flatMap_append, List.flatMap_cons, List.flatMap_nil, List.append_nil]
theorem hisP_len : ∀ hs : List Int, (hisP hs).length ≤ 6 * hs.length
  | [] => by simp [hisP]
  | x :: t => by
    have h1 := numB_len x
    have h2 := hisP_len t
    simp only [hisP, List.flatMap_cons, List.length_append, List.length_cons] at h2 ⊢
    omega
set_option maxRecDepth 20000 in
set_option maxHeartbeats 1000000 in
theorem specPutTc9_any (v vw vh : Value) (l : List UInt8) (r : Int) (ws : List ByteArray) (hs : List Int) (w : World) (hr : RdB w v l) (hrw : RdS w vw ws) (hrh : RdI w vh hs) (hl : l.length ≤ 1000000) (hlw : ws.length ≤ 1000) (ht : tot ws ≤ 100000) (hlh : hs.length ≤ 1000)
    (br : -9223372036854775808 ≤ r ∧ r ≤ 9223372036854775807) (bh : ∀ x ∈ hs, -9223372036854775808 ≤ x ∧ x ≤ 9223372036854775807) :
    Calls Tryz.prog 76 #[v, tcV r vw vh] w fun e w' => ∃ v', e = .returned v' ∧ OwnB w.heap.size w' v' (l ++ numB r ++ namesB ws ++ hisP hs) ∧ Below w.heap.size w w' := by
  obtain ⟨a, c, rfl⟩ := hrw.shape
  obtain ⟨ah, ch, rfl⟩ := hrh.shape
  simp only [tcV]
  obtain ⟨w1, hw1⟩ : ∃ x, w.alloc (.cells #[.int .i64 r, .slice a ws.length c, .slice ah hs.length ch] 28) = x := ⟨_, rfl⟩
  have b1 : Below w.heap.size w w1 := by rw [← hw1]; exact (Below.refl _ w).alloc (Nat.le_refl _) _
  have k1 : Blk w1 w.heap.size 28 [.int .i64 r, .slice a ws.length c, .slice ah hs.length ch] := by rw [← hw1]; exact Blk.new w _ _
  have HS : Hid (∀ V, Below w1.heap.size w1 V → (V.cell? ⟨w.heap.size, 0, none⟩ = some (.int .i64 r) ∧ V.cell? ⟨w.heap.size, 1, none⟩ = some (.slice a ws.length c))) := hide (fun V hb => ⟨(k1.below hb k1.lt).cell 0, (k1.below hb k1.lt).cell 1⟩)
  have bD : Below w1.heap.size w1 w1.drew := (Below.refl _ w1).drew
  have HP1 := hide (specPutNum_any v l r w1.drew ((hr.below b1 (Nat.le_refl _)).below bD (Nat.le_refl _)) (by omega) br.1 br.2)
  have HP3 := hide (fun V u (h : RdB V u (l ++ numB r)) (hV : Below w.heap.size w V) => specPutNames_any u (.slice a ws.length c) (l ++ numB r) ws V h (hrw.below hV (Nat.le_refl _)) (by have := numB_len r; simp only [List.length_append]; omega) (by omega) (by omega))
  have hnl := namesB_len ws
  have hrl := numB_len r
  have hz : l ++ numB r ++ namesB ws = l ++ numB r ++ namesB ws ++ hisP (hs.take 0) := by simp [hisP]
  have HB1 := hide b1
  have K1 := hide k1
  have Hh := hide hrh
  have Hbh := hide bh
  clear hr hrw hrh k1 b1 bh
  go_enter Tryz.func76, Tryz.ntmps76
  go_wp2
  clear hw1
  go_region_held_law (fun w' => w'.cell? ⟨w.heap.size, 0, none⟩ = some (.int .i64 r) ∧ w'.cell? ⟨w.heap.size, 1, none⟩ = some (.slice a ws.length c)) ((refine HS.out _ ?_; repeat (first | with_reducible exact bD | with_reducible exact c2 | with_reducible exact c1 | with_reducible exact Below.refl _ _ | refine Below.drew ?_))) ((first
    | (go_at_call 120; refine (HP3.out u1 v1 o1.rd (HB1.out.trans (c1.mono HB1.out.size))).mono ?_; rintro e u2 ⟨v2, rfl, o2, hb2⟩; have c2 := c1.trans (hb2.mono c1.size))
    | (go_at_call 75; refine HP1.out.mono ?_; rintro e u1 ⟨v1, rfl, o1, hb1⟩; have c1 := bD.trans (hb1.mono bD.size))))
  have HO := hide (OwnB.mono o2 (show w.heap.size ≤ u1.heap.size from Nat.le_trans HB1.out.size c1.size))
  have HC := hide c2
  rw [hz] at HO
  clear o1 o2 hb1 hb2 c1 c2 hz
  go_wp2
  go_loopw [0, 5] (fun bv iv wr => ∃ k : Nat, k ≤ hs.length ∧ iv = .int .i64 (k : Int) ∧ OwnB w.heap.size wr bv (l ++ numB r ++ namesB ws ++ hisP (hs.take k)) ∧ Below w1.heap.size w1 wr) (fun _ iv _ => hs.length - (intOf iv).toNat)
  case atStart => exact ⟨0, Nat.zero_le _, rfl, HO.out, HC.out⟩
  case round =>
    obtain ⟨k, hk, rfl, ho, hb⟩ := hrel
    have kr := K1.out.below hb K1.out.lt
    have t2 := kr.cell 2
    simp only [List.getElem?_cons_zero, List.getElem?_cons_succ] at t2
    have HBr := hide (HB1.out.trans (hb.mono HB1.out.size))
    by_cases hlt : k < hs.length
    · obtain ⟨bb, ob, rfl, hc1, hc2, hbb, hcb⟩ := Hh.out.at hlt
      have c0 := (HBr.out.cell (p := ⟨bb, ob + k, none⟩) hbb).trans hcb
      have hli : (k : Int) < (hs.length : Int) := by omega
      have hbx := Hbh.out hs[k] (List.getElem_mem _)
      have Hsn := hide (hisP_snoc hs k hlt)
      have hpl := hisP_len (hs.take k)
      have htk : (hs.take k).length ≤ hs.length := by simp; omega
      generalize hs[k] = x at c0 hcb hbx Hsn
      have HP := hide (specPutNum_any _ (l ++ numB r ++ namesB ws ++ hisP (hs.take k)) x wr ho.rd (by simp only [List.length_append]; omega) hbx.1 hbx.2)
      generalize hisP (hs.take k) = pr at HP Hsn
      have hwr := HBr.out.size
      have Hb := hide hb
      clear ho hb hcb hbx kr
      go_wp2_with fail
      refine HP.out.mono ?_
      rintro e w2 ⟨v2, rfl, o2, hb2⟩
      have HO2 := hide (OwnB.mono o2 hwr)
      have HB2 := hide (Hb.out.trans (hb2.mono Hb.out.size))
      clear o2 hb2 c0 t2
      go_wp2
      go_roundw
      case rel => exact ⟨k + 1, by omega, by go_num, by rw [Hsn.out, ← List.append_assoc]; exact HO2.out, HB2.out⟩
      case measure => simp [intOf]; omega
    · have ek : k = hs.length := by omega
      subst ek
      rw [List.take_length] at ho
      have HO2 := hide ho
      clear ho hb kr
      go_wp2
      go_ret
      exact ⟨_, rfl, HO2.out, HBr.out⟩
end Go.Proofs.YtcmmdkabocfnfaaGreatDoor

namespace Go.Proofs.YtcmmdkabocfnfaaGreatDoor
open Go.RowKit Go.Sort
set_option linter.unusedVariables false

set_option maxRecDepth 20000 in
set_option maxHeartbeats 1000000 in
theorem specL9Qc_any (b : Bk) (v : Bv) (w : World) (hr : RdK w b v) (hf : FewK b) :
    Calls Tryz.prog 60 #[bkV b v] w fun e w' => e = .returned (.bool (q9B b)) ∧ Below w.heap.size w w' := by
  have hlq := hf.q
  have hsq := hf.qs
  have HX : Hid (q9B b = (rootB b.qr b.qb b.qw || (inB b.qr 1 (wrap64 (b.rd - 1)) && (inB b.qb 0 (wrap64 (b.id - 1)) && nmsB b.qw)))) := hide rfl
  generalize q9B b = X at HX ⊢
  obtain ⟨id, ep, rd, mk, qr, qb, qw, tr, tw, th, ts, en, nx, rt⟩ := b
  obtain ⟨vq, vw, vh, vt, vn⟩ := v
  obtain ⟨hq, hw, hh, ht, hn⟩ := hr
  simp only [bkV] at *
  obtain ⟨aq, cq, rfl⟩ := hq.shape
  obtain ⟨aw, cw, rfl⟩ := hw.shape
  obtain ⟨ah, ch, rfl⟩ := hh.shape
  obtain ⟨at_, ct, rfl⟩ := ht.shape
  obtain ⟨an, cn, rfl⟩ := hn.shape
  clear hw hh ht hn hf
  obtain ⟨w1, hw1⟩ : ∃ x, w.alloc (.cells #[.int .i64 id, .int .i64 ep, .int .i64 rd, .string mk, .int .i64 qr, .int .i64 qb, .slice aq qw.length cq, .int .i64 tr, .slice aw tw.length cw, .slice ah th.length ch, .slice at_ ts.length ct, .bool en, .slice an nx.length cn, .string rt] 32) = x := ⟨_, rfl⟩
  have b1 : Below w.heap.size w w1 := by rw [← hw1]; exact (Below.refl _ w).alloc (Nat.le_refl _) _
  have k1 : Blk w1 w.heap.size 32 [.int .i64 id, .int .i64 ep, .int .i64 rd, .string mk, .int .i64 qr, .int .i64 qb, .slice aq qw.length cq, .int .i64 tr, .slice aw tw.length cw, .slice ah th.length ch, .slice at_ ts.length ct, .bool en, .slice an nx.length cn, .string rt] := by rw [← hw1]; exact Blk.new w _ _
  have s1 : w1.heap.size = w.heap.size + 1 := by rw [← hw1]; simp
  obtain ⟨w2, hw2⟩ : ∃ x, w1.alloc (.cells #[.int .i64 qr, .int .i64 qb, .slice aq qw.length cq] 25) = x := ⟨_, rfl⟩
  have b2 : Below w1.heap.size w1 w2 := by rw [← hw2]; exact (Below.refl _ w1).alloc (Nat.le_refl _) _
  have k2 : Blk w2 (w.heap.size + 1) 25 [.int .i64 qr, .int .i64 qb, .slice aq qw.length cq] := by rw [← hw2, ← s1]; exact Blk.new w1 _ _
  have hb2 : Below w.heap.size w w2 := b1.trans (b2.mono b1.size)
  have HR := hide (specL8Root_any qr qb (.slice aq qw.length cq) qw w2 (hq.below hb2 (Nat.le_refl _)) hlq)
  have HN := hide (fun V (hV : Below w.heap.size w V) => specNamesOk_any (.slice aq qw.length cq) qw V (hq.below hV (Nat.le_refl _)) hlq hsq)
  generalize rootB qr qb qw = R0 at HX HR
  generalize nmsB qw = N0 at HX HN
  have e1 : IntKind.i64.wrap (rd - 1) = wrap64 (rd - 1) := by rw [IntKind.wrap_i64]; unfold wrap64; omega
  have e2 : IntKind.i64.wrap (id - 1) = wrap64 (id - 1) := by rw [IntKind.wrap_i64]; unfold wrap64; omega
  generalize wrap64 (rd - 1) = D1 at HX e1
  generalize wrap64 (id - 1) = D2 at HX e2
  simp only [qcV] at HR
  have x4 := k1.cell 4
  have x5 := k1.cell 5
  have x6 := k1.cell 6
  have y0 := k2.cell 0
  have y1 := k2.cell 1
  have y2 := k2.cell 2
  simp only [List.getElem?_cons_zero, List.getElem?_cons_succ] at x4 x5 x6 y0 y1 y2
  have K1 := hide (k1.below b2 (by omega))
  have K2 := hide k2
  have HB2 := hide hb2
  clear hq hsq k1 k2 b1 b2 hb2
  go_enter Tryz.func60, Tryz.ntmps60
  go_wp2_with fail
  refine HR.out.mono ?_
  rintro e w3 ⟨rfl, hb3⟩
  have hB3 := HB2.out.trans (hb3.mono HB2.out.size)
  have k13 := K1.out.below hb3 K1.out.lt
  have k23 := K2.out.below hb3 K2.out.lt
  have HN3 := hide (HN.out w3 hB3)
  clear x4 x5 x6 y0 y1 y2 hw1 hw2 HN hb3
  have x0 := k13.cell 0
  have x2 := k13.cell 2
  have y0 := k23.cell 0
  have y1 := k23.cell 1
  have y2 := k23.cell 2
  simp only [List.getElem?_cons_zero, List.getElem?_cons_succ] at x0 x2 y0 y1 y2
  clear k13 k23 K1 K2 s1
  cases R0
  · rw [Bool.false_or] at HX
    cases h1 : inB qr 1 D1
    · rw [h1, Bool.false_and] at HX
      go_wp2_with (go_at_call 58; refine (l1In_any _ _ _ _).mono ?_; rintro e w4 ⟨rfl, rfl⟩)
      go_ret
      exact ⟨ret_bool HX.out.symm, hB3⟩
    · rw [h1, Bool.true_and] at HX
      cases h2 : inB qb 0 D2
      · rw [h2, Bool.false_and] at HX
        go_wp2_with (go_at_call 58; refine (l1In_any _ _ _ _).mono ?_; rintro e w4 ⟨rfl, rfl⟩)
        go_ret
        exact ⟨ret_bool HX.out.symm, hB3⟩
      · rw [h2, Bool.true_and] at HX
        go_wp2_with (first
          | (go_at_call 58; refine (l1In_any _ _ _ _).mono ?_; rintro e w4 ⟨rfl, rfl⟩)
          | (go_at_call 115; refine HN3.out.mono ?_; rintro e w5 ⟨rfl, hb5⟩))
        go_ret
        exact ⟨ret_bool HX.out.symm, hB3.trans (hb5 _)⟩
  · rw [Bool.true_or] at HX
    go_wp2
    go_ret
    exact ⟨ret_bool HX.out.symm, hB3⟩
set_option maxRecDepth 20000 in
set_option maxHeartbeats 2000000 in
theorem specL9Tc_any (b : Bk) (v : Bv) (w : World) (hr : RdK w b v) (hf : FewK b) (hbd : -9223372036854775808 ≤ b.tr ∧ b.tr ≤ 9223372036854775807) :
    Calls Tryz.prog 61 #[bkV b v] w fun e w' => e = .returned (.bool (t9B b)) ∧ Below w.heap.size w w' := by
  have hlw := hf.w
  have hlh := hf.h
  have hsw := hf.ws
  have HX : Hid (t9B b = (noneB b.tr b.tw b.th || (inB b.tr 1 (wrap64 (b.rd - 1)) && (nmsB b.tw && (decide (b.th.length = b.tw.length) && hisB b.tr b.th))))) := hide rfl
  generalize t9B b = X at HX ⊢
  obtain ⟨id, ep, rd, mk, qr, qb, qw, tr, tw, th, ts, en, nx, rt⟩ := b
  obtain ⟨vq, vw, vh, vt, vn⟩ := v
  obtain ⟨hq, hw, hh, ht, hn⟩ := hr
  simp only [bkV] at *
  obtain ⟨aq, cq, rfl⟩ := hq.shape
  obtain ⟨aw, cw, rfl⟩ := hw.shape
  obtain ⟨ah, ch, rfl⟩ := hh.shape
  obtain ⟨at_, ct, rfl⟩ := ht.shape
  obtain ⟨an, cn, rfl⟩ := hn.shape
  clear hq ht hn hf
  obtain ⟨w1, hw1⟩ : ∃ x, w.alloc (.cells #[.int .i64 id, .int .i64 ep, .int .i64 rd, .string mk, .int .i64 qr, .int .i64 qb, .slice aq qw.length cq, .int .i64 tr, .slice aw tw.length cw, .slice ah th.length ch, .slice at_ ts.length ct, .bool en, .slice an nx.length cn, .string rt] 32) = x := ⟨_, rfl⟩
  have b1 : Below w.heap.size w w1 := by rw [← hw1]; exact (Below.refl _ w).alloc (Nat.le_refl _) _
  have k1 : Blk w1 w.heap.size 32 [.int .i64 id, .int .i64 ep, .int .i64 rd, .string mk, .int .i64 qr, .int .i64 qb, .slice aq qw.length cq, .int .i64 tr, .slice aw tw.length cw, .slice ah th.length ch, .slice at_ ts.length ct, .bool en, .slice an nx.length cn, .string rt] := by rw [← hw1]; exact Blk.new w _ _
  have s1 : w1.heap.size = w.heap.size + 1 := by rw [← hw1]; simp
  obtain ⟨w2, hw2⟩ : ∃ x, w1.alloc (.cells #[.int .i64 tr, .slice aw tw.length cw, .slice ah th.length ch] 28) = x := ⟨_, rfl⟩
  have b2 : Below w1.heap.size w1 w2 := by rw [← hw2]; exact (Below.refl _ w1).alloc (Nat.le_refl _) _
  have k2 : Blk w2 (w.heap.size + 1) 28 [.int .i64 tr, .slice aw tw.length cw, .slice ah th.length ch] := by rw [← hw2, ← s1]; exact Blk.new w1 _ _
  have hb2 : Below w.heap.size w w2 := b1.trans (b2.mono b1.size)
  have HR := hide (specL8None_any tr (.slice aw tw.length cw) (.slice ah th.length ch) tw th w2 (hw.below hb2 (Nat.le_refl _)) (hh.below hb2 (Nat.le_refl _)) hlw hlh)
  have HN := hide (fun V (hV : Below w.heap.size w V) => specNamesOk_any (.slice aw tw.length cw) tw V (hw.below hV (Nat.le_refl _)) hlw hsw)
  generalize noneB tr tw th = R0 at HX HR
  generalize nmsB tw = N0 at HX HN
  have e1 : IntKind.i64.wrap (rd - 1) = wrap64 (rd - 1) := by rw [IntKind.wrap_i64]; unfold wrap64; omega
  generalize wrap64 (rd - 1) = D1 at HX e1
  simp only [tcV] at HR
  have x4 := k1.cell 7
  have x5 := k1.cell 8
  have x6 := k1.cell 9
  have y0 := k2.cell 0
  have y1 := k2.cell 1
  have y2 := k2.cell 2
  simp only [List.getElem?_cons_zero, List.getElem?_cons_succ] at x4 x5 x6 y0 y1 y2
  have K1 := hide (k1.below b2 (by omega))
  have K2 := hide k2
  have HB2 := hide hb2
  have Hh := hide hh
  clear hw hh hsw k1 k2 b1 b2 hb2
  go_enter Tryz.func61, Tryz.ntmps61
  go_wp2_with fail
  refine HR.out.mono ?_
  rintro e w3 ⟨rfl, hb3⟩
  have hB3 := HB2.out.trans (hb3.mono HB2.out.size)
  have k13 := K1.out.below hb3 K1.out.lt
  have k23 := K2.out.below hb3 K2.out.lt
  have HN3 := hide (HN.out w3 hB3)
  clear x4 x5 x6 y0 y1 y2 hw1 hw2 HN hb3
  have x2 := k13.cell 2
  have y0 := k23.cell 0
  have y1 := k23.cell 1
  have y2 := k23.cell 2
  simp only [List.getElem?_cons_zero, List.getElem?_cons_succ] at x2 y0 y1 y2
  have K23 := hide k23
  clear k13 k23 K1 K2 s1
  cases R0
  · rw [Bool.false_or] at HX
    cases h1 : inB tr 1 D1
    · rw [h1, Bool.false_and] at HX
      go_wp2_with (go_at_call 58; refine (l1In_any _ _ _ _).mono ?_; rintro e w4 ⟨rfl, rfl⟩)
      go_ret
      exact ⟨ret_bool HX.out.symm, hB3⟩
    · rw [h1, Bool.true_and] at HX
      have Hr1 : Hid (1 ≤ tr) := hide (by unfold inB at h1; simp at h1; exact h1.1)
      cases N0
      · rw [Bool.false_and] at HX
        go_wp2_with (first
          | (go_at_call 58; refine (l1In_any _ _ _ _).mono ?_; rintro e w4 ⟨rfl, rfl⟩)
          | (go_at_call 115; refine HN3.out.mono ?_; rintro e w5 ⟨rfl, hb5⟩))
        go_ret
        exact ⟨ret_bool HX.out.symm, hB3.trans (hb5 _)⟩
      · rw [Bool.true_and] at HX
        by_cases hlen : th.length = tw.length
        · rw [decide_eq_true hlen, Bool.true_and] at HX
          have hli : ((th.length : Int) != (tw.length : Int)) = false := by rw [hlen]; simp
          clear hlen
          go_wp2_with (first
            | (go_at_call 58; refine (l1In_any _ _ _ _).mono ?_; rintro e w4 ⟨rfl, rfl⟩)
            | (go_at_call 115; refine HN3.out.mono ?_; rintro e w5 ⟨rfl, hb5⟩; have hB5 := hB3.trans (hb5 _); have k5 := K23.out.below (hb5 _) K23.out.lt; have t1 := k5.cell 1; have t2 := k5.cell 2; simp only [List.getElem?_cons_zero, List.getElem?_cons_succ] at t1 t2))
          have K5 := hide k5
          have HB5 := hide hB5
          clear k5 x2 y0 y1 y2 t1 t2 hb5 hB5 hB3 hli h1
          go_loopw [4] (fun iv wr => ∃ i : Nat, i ≤ th.length ∧ iv = .int .i64 (i : Int) ∧ (∀ j (hj : j < th.length), j < i → inB th[j] 0 (tr - 1) = true) ∧ Below w5.heap.size w5 wr) (fun iv _ => th.length - (intOf iv).toNat)
          case atStart => exact ⟨0, Nat.zero_le _, rfl, fun j _ hj => by omega, Below.refl _ _⟩
          case round =>
            obtain ⟨i, hi, rfl, hok, hb⟩ := hrel
            have kr := K5.out.below hb K5.out.lt
            have t0 := kr.cell 0
            have t2 := kr.cell 2
            simp only [List.getElem?_cons_zero, List.getElem?_cons_succ] at t0 t2
            have Hok := hide hok
            have HBr := hide (HB5.out.trans (hb.mono HB5.out.size))
            clear hok kr
            by_cases hlt : i < th.length
            · obtain ⟨bh, oh, rfl, hc1, hc2, hbh, hch⟩ := Hh.out.at hlt
              have c0 := (HBr.out.cell (p := ⟨bh, oh + i, none⟩) hbh).trans hch
              have hli : (i : Int) < (th.length : Int) := by omega
              have Hno := hide (his_no tr th i hlt)
              have Hnx : Hid (inB th[i] 0 (tr - 1) = true → ∀ j (hj : j < th.length), j < i + 1 → inB th[j] 0 (tr - 1) = true) := hide (fun h j hj hji => by
                by_cases e : j = i
                · subst e; exact h
                · exact Hok.out j hj (by omega))
              generalize th[i] = x at c0 hch Hno Hnx
              have hr1 := Hr1.out
              have hwr : IntKind.i64.wrap (tr - 1) = tr - 1 := by rw [IntKind.wrap_i64]; omega
              have Hb := hide hb
              have g0 := cell_regrown c0
              have g1 := cell_regrown t0
              have g2 := cell_regrown t2
              clear hb hch hr1 c0
              cases hx : inB x 0 (tr - 1)
              · have Hf := hide (HX.out.trans (Hno.out hx))
                have HI := hide (fun (d : Nat) (os : Array Obj) => sameC_regrown (l1In_any x 0 (tr - 1) (grow (redrawn wr d) os)))
                rw [hx] at HI
                clear hx Hnx
                go_wp2
                refine wp_region_quiet_below (by kernel_rfl) (by kernel_rfl) ?_
                repeat (go_big_quiet_step ((go_at_call 58; exact HI.out _ _)))
                refine wpQuiet_nil ?_
                intro _ hw'
                obtain ⟨⟨dq, osq⟩, hw''⟩ := hw'
                subst hw''
                go_wp2
                go_ret
                exact ⟨ret_bool Hf.out.symm, HBr.out.trans ((below_regrown wr dq osq).mono HBr.out.size)⟩
              · have Hnx := hide (Hnx.out hx)
                have HI := hide (fun (d : Nat) (os : Array Obj) => sameC_regrown (l1In_any x 0 (tr - 1) (grow (redrawn wr d) os)))
                rw [hx] at HI
                clear hx Hno
                go_wp2
                refine wp_region_quiet_below (by kernel_rfl) (by kernel_rfl) ?_
                repeat (go_big_quiet_step ((go_at_call 58; exact HI.out _ _)))
                refine wpQuiet_nil ?_
                intro _ hw'
                obtain ⟨⟨dq, osq⟩, hw''⟩ := hw'
                subst hw''
                go_wp2
                go_roundw
                case rel => exact ⟨i + 1, by omega, by go_num, Hnx.out, Hb.out.trans ((below_regrown wr dq osq).mono Hb.out.size)⟩
                case measure => simp [intOf]; omega
            · have Hf := hide (HX.out.trans (his_yes tr th (fun j hj => Hok.out j hj (by omega))))
              clear hb
              go_wp2
              go_ret
              exact ⟨ret_bool Hf.out.symm, HBr.out⟩
        · rw [decide_eq_false hlen, Bool.false_and] at HX
          have hli : ((th.length : Int) != (tw.length : Int)) = true := by rw [bne_iff_ne]; omega
          clear hlen
          go_wp2_with (first
            | (go_at_call 58; refine (l1In_any _ _ _ _).mono ?_; rintro e w4 ⟨rfl, rfl⟩)
            | (go_at_call 115; refine HN3.out.mono ?_; rintro e w5 ⟨rfl, hb5⟩; have hB5 := hB3.trans (hb5 _); have k5 := K23.out.below (hb5 _) K23.out.lt; have t1 := k5.cell 1; have t2 := k5.cell 2; simp only [List.getElem?_cons_zero, List.getElem?_cons_succ] at t1 t2))
          go_ret
          exact ⟨ret_bool HX.out.symm, hB5⟩
  · rw [Bool.true_or] at HX
    go_wp2
    go_ret
    exact ⟨ret_bool HX.out.symm, hB3⟩
end Go.Proofs.YtcmmdkabocfnfaaGreatDoor
