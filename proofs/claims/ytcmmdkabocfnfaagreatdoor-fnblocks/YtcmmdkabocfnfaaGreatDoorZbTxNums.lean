/- The bytes of a block's certificates, by the model. The bytes of a block, by the model. Numbers put one behind the other; texts in memory, from one block on. -/
import Derived.Test.YtcmmdkabocfnfaaGreatDoorZbTxMarkC
import Derived.Test.YtcmmdkabocfnfaaGreatDoorZbPutNames
import Derived.Test.YtcmmdkabocfnfaaGreatDoorZbTxPut
import Derived.Deep.RegionHeldLaw
import Derived.Test.YtcmmdkabocfnfaaGreatDoorZbBkOk
namespace Go.Proofs.YtcmmdkabocfnfaaGreatDoor
open Go.RowKit
set_option linter.unusedVariables false

set_option maxRecDepth 20000 in
set_option maxHeartbeats 1000000 in
theorem specPutQc9_any (v vw : Value) (l : List UInt8) (r b : Int) (ws : List ByteArray) (w : World) (hr : RdB w v l) (hrw : RdS w vw ws) (hl : l.length ≤ 1000000) (hlw : ws.length ≤ 1000) (ht : tot ws ≤ 100000)
    (br : -9223372036854775808 ≤ r ∧ r ≤ 9223372036854775807) (bb : -9223372036854775808 ≤ b ∧ b ≤ 9223372036854775807) :
    Calls Tryz.prog 77 #[v, qcV r b vw] w fun e w' => ∃ v', e = .returned v' ∧ OwnB w.heap.size w' v' (l ++ numB r ++ numB b ++ namesB ws) ∧ Below w.heap.size w w' := by
  obtain ⟨a, c, rfl⟩ := hrw.shape
  simp only [qcV]
  obtain ⟨w1, hw1⟩ : ∃ x, w.alloc (.cells #[.int .i64 r, .int .i64 b, .slice a ws.length c] 25) = x := ⟨_, rfl⟩
  have b1 : Below w.heap.size w w1 := by rw [← hw1]; exact (Below.refl _ w).alloc (Nat.le_refl _) _
  have k1 : Blk w1 w.heap.size 25 [.int .i64 r, .int .i64 b, .slice a ws.length c] := by rw [← hw1]; exact Blk.new w _ _
  have HS : Hid (∀ V, Below w1.heap.size w1 V → (V.cell? ⟨w.heap.size, 0, none⟩ = some (.int .i64 r) ∧ V.cell? ⟨w.heap.size, 1, none⟩ = some (.int .i64 b) ∧ V.cell? ⟨w.heap.size, 2, none⟩ = some (.slice a ws.length c))) := hide (fun V hb => ⟨(k1.below hb k1.lt).cell 0, (k1.below hb k1.lt).cell 1, (k1.below hb k1.lt).cell 2⟩)
  have bD : Below w1.heap.size w1 w1.drew := (Below.refl _ w1).drew
  have HP1 := hide (specPutNum_any v l r w1.drew ((hr.below b1 (Nat.le_refl _)).below bD (Nat.le_refl _)) (by omega) br.1 br.2)
  have HP2 := hide (fun V u (h : RdB V u (l ++ numB r)) => specPutNum_any u (l ++ numB r) b V h (by have := numB_len r; simp only [List.length_append]; omega) bb.1 bb.2)
  have HP3 := hide (fun V u (h : RdB V u (l ++ numB r ++ numB b)) (hV : Below w.heap.size w V) => specPutNames_any u (.slice a ws.length c) (l ++ numB r ++ numB b) ws V h (hrw.below hV (Nat.le_refl _)) (by have := numB_len r; have := numB_len b; simp only [List.length_append]; omega) (by omega) (by omega))
  have HB1 := hide b1
  clear hr hrw k1 b1
  go_enter Tryz.func77, Tryz.ntmps77
  go_wp2
  clear hw1
  go_region_held_law (fun w' => w'.cell? ⟨w.heap.size, 0, none⟩ = some (.int .i64 r) ∧ w'.cell? ⟨w.heap.size, 1, none⟩ = some (.int .i64 b) ∧ w'.cell? ⟨w.heap.size, 2, none⟩ = some (.slice a ws.length c)) ((refine HS.out _ ?_; repeat (first | with_reducible exact bD | with_reducible exact c3 | with_reducible exact c2 | with_reducible exact c1 | with_reducible exact Below.refl _ _ | refine Below.drew ?_))) ((first
    | (go_at_call 120; refine (HP3.out u2 v2 o2.rd (HB1.out.trans (c2.mono HB1.out.size))).mono ?_; rintro e u3 ⟨v3, rfl, o3, hb3⟩; have c3 := c2.trans (hb3.mono c2.size))
    | (go_at_call 75; refine (HP2.out u1 v1 o1.rd).mono ?_; rintro e u2 ⟨v2, rfl, o2, hb2⟩; have c2 := c1.trans (hb2.mono c1.size))
    | (go_at_call 75; refine HP1.out.mono ?_; rintro e u1 ⟨v1, rfl, o1, hb1⟩; have c1 := bD.trans (hb1.mono bD.size))))
  have HO := hide (OwnB.mono o3 (show w.heap.size ≤ u2.heap.size from Nat.le_trans HB1.out.size c2.size))
  have HB := hide (HB1.out.trans (c3.mono HB1.out.size))
  clear o1 o2 o3 hb1 hb2 hb3 c1 c2 c3
  go_wp2
  go_ret
  exact ⟨_, rfl, HO.out, HB.out⟩
/-- Numbers, one behind the other. -/
def hisP (hs : List Int) : List UInt8 := hs.flatMap numB
theorem hisP_snoc (hs : List Int) (k : Nat) (h : k < hs.length) : hisP (hs.take (k + 1)) = hisP (hs.take k) ++ numB hs[k] := by
  rw [List.take_succ_eq_append_getElem h]; simp only [hisP, List.flatMap_append, List.flatMap_cons, List.flatMap_nil, List.append_nil]
theorem hisP_len : ∀ hs : List Int, (hisP hs).length ≤ 6 * hs.length
  | [] => by simp [hisP]
  | x :: t => by
    have h1 := numB_len x
    have h2 := hisP_len t
    simp only [hisP, List.flatMap_cons, List.length_append, List.length_cons] at h2 ⊢
    omega
set_option maxRecDepth 20000 in
set_option maxHeartbeats 1000000 in
theorem specPutTc9_any (v vw vh : Value) (l : List UInt8) (r : Int) (ws : List ByteArray) (hs : List Int) (w : World) (hr : RdB w v l) (hrw : RdS w vw ws) (hrh : RdI w vh hs) (hl : l.length ≤ 1000000) (hlw : ws.length ≤ 1000) (ht : tot ws ≤ 100000) (hlh : hs.length ≤ 1000)
    (br : -9223372036854775808 ≤ r ∧ r ≤ 9223372036854775807) (bh : ∀ x ∈ hs, -9223372036854775808 ≤ x ∧ x ≤ 9223372036854775807) :
    Calls Tryz.prog 76 #[v, tcV r vw vh] w fun e w' => ∃ v', e = .returned v' ∧ OwnB w.heap.size w' v' (l ++ numB r ++ namesB ws ++ hisP hs) ∧ Below w.heap.size w w' := by
  obtain ⟨a, c, rfl⟩ := hrw.shape
  obtain ⟨ah, ch, rfl⟩ := hrh.shape
  simp only [tcV]
  obtain ⟨w1, hw1⟩ : ∃ x, w.alloc (.cells #[.int .i64 r, .slice a ws.length c, .slice ah hs.length ch] 28) = x := ⟨_, rfl⟩
  have b1 : Below w.heap.size w w1 := by rw [← hw1]; exact (Below.refl _ w).alloc (Nat.le_refl _) _
  have k1 : Blk w1 w.heap.size 28 [.int .i64 r, .slice a ws.length c, .slice ah hs.length ch] := by rw [← hw1]; exact Blk.new w _ _
  have HS : Hid (∀ V, Below w1.heap.size w1 V → (V.cell? ⟨w.heap.size, 0, none⟩ = some (.int .i64 r) ∧ V.cell? ⟨w.heap.size, 1, none⟩ = some (.slice a ws.length c))) := hide (fun V hb => ⟨(k1.below hb k1.lt).cell 0, (k1.below hb k1.lt).cell 1⟩)
  have bD : Below w1.heap.size w1 w1.drew := (Below.refl _ w1).drew
  have HP1 := hide (specPutNum_any v l r w1.drew ((hr.below b1 (Nat.le_refl _)).below bD (Nat.le_refl _)) (by omega) br.1 br.2)
  have HP3 := hide (fun V u (h : RdB V u (l ++ numB r)) (hV : Below w.heap.size w V) => specPutNames_any u (.slice a ws.length c) (l ++ numB r) ws V h (hrw.below hV (Nat.le_refl _)) (by have := numB_len r; simp only [List.length_append]; omega) (by omega) (by omega))
  have hnl := namesB_len ws
  have hrl := numB_len r
  have hz : l ++ numB r ++ namesB ws = l ++ numB r ++ namesB ws ++ hisP (hs.take 0) := by simp [hisP]
  have HB1 := hide b1
  have K1 := hide k1
  have Hh := hide hrh
  have Hbh := hide bh
  clear hr hrw hrh k1 b1 bh
  go_enter Tryz.func76, Tryz.ntmps76
  go_wp2
  clear hw1
  go_region_held_law (fun w' => w'.cell? ⟨w.heap.size, 0, none⟩ = some (.int .i64 r) ∧ w'.cell? ⟨w.heap.size, 1, none⟩ = some (.slice a ws.length c)) ((refine HS.out _ ?_; repeat (first | with_reducible exact bD | with_reducible exact c2 | with_reducible exact c1 | with_reducible exact Below.refl _ _ | refine Below.drew ?_))) ((first
    | (go_at_call 120; refine (HP3.out u1 v1 o1.rd (HB1.out.trans (c1.mono HB1.out.size))).mono ?_; rintro e u2 ⟨v2, rfl, o2, hb2⟩; have c2 := c1.trans (hb2.mono c1.size))
    | (go_at_call 75; refine HP1.out.mono ?_; rintro e u1 ⟨v1, rfl, o1, hb1⟩; have c1 := bD.trans (hb1.mono bD.size))))
  have HO := hide (OwnB.mono o2 (show w.heap.size ≤ u1.heap.size from Nat.le_trans HB1.out.size c1.size))
  have HC := hide c2
  rw [hz] at HO
  clear o1 o2 hb1 hb2 c1 c2 hz
  go_wp2
  go_loopw [0, 5] (fun bv iv wr => ∃ k : Nat, k ≤ hs.length ∧ iv = .int .i64 (k : Int) ∧ OwnB w.heap.size wr bv (l ++ numB r ++ namesB ws ++ hisP (hs.take k)) ∧ Below w1.heap.size w1 wr) (fun _ iv _ => hs.length - (intOf iv).toNat)
  case atStart => exact ⟨0, Nat.zero_le _, rfl, HO.out, HC.out⟩
  case round =>
    obtain ⟨k, hk, rfl, ho, hb⟩ := hrel
    have kr := K1.out.below hb K1.out.lt
    have t2 := kr.cell 2
    simp only [List.getElem?_cons_zero, List.getElem?_cons_succ] at t2
    have HBr := hide (HB1.out.trans (hb.mono HB1.out.size))
    by_cases hlt : k < hs.length
    · obtain ⟨bb, ob, rfl, hc1, hc2, hbb, hcb⟩ := Hh.out.at hlt
      have c0 := (HBr.out.cell (p := ⟨bb, ob + k, none⟩) hbb).trans hcb
      have hli : (k : Int) < (hs.length : Int) := by omega
      have hbx := Hbh.out hs[k] (List.getElem_mem _)
      have Hsn := hide (hisP_snoc hs k hlt)
      have hpl := hisP_len (hs.take k)
      have htk : (hs.take k).length ≤ hs.length := by simp; omega
      generalize hs[k] = x at c0 hcb hbx Hsn
      have HP := hide (specPutNum_any _ (l ++ numB r ++ namesB ws ++ hisP (hs.take k)) x wr ho.rd (by simp only [List.length_append]; omega) hbx.1 hbx.2)
      generalize hisP (hs.take k) = pr at HP Hsn
      have hwr := HBr.out.size
      have Hb := hide hb
      clear ho hb hcb hbx kr
      go_wp2_with fail
      refine HP.out.mono ?_
      rintro e w2 ⟨v2, rfl, o2, hb2⟩
      have HO2 := hide (OwnB.mono o2 hwr)
      have HB2 := hide (Hb.out.trans (hb2.mono Hb.out.size))
      clear o2 hb2 c0 t2
      go_wp2
      go_roundw
      case rel => exact ⟨k + 1, by omega, by go_num, by rw [Hsn.out, ← List.append_assoc]; exact HO2.out, HB2.out⟩
      case measure => simp [intOf]; omega
    · have ek : k = hs.length := by omega
      subst ek
      rw [List.take_length] at ho
      have HO2 := hide ho
      clear ho hb kr
      go_wp2
      go_ret
      exact ⟨_, rfl, HO2.out, HBr.out⟩
end Go.Proofs.YtcmmdkabocfnfaaGreatDoor

namespace Go.Proofs.YtcmmdkabocfnfaaGreatDoor
open Go.RowKit
set_option linter.unusedVariables false

/-- A block's bytes, part behind part. -/
def h9P (b : Bk) : List UInt8 := [] ++ numB b.id ++ numB b.ep ++ numB b.rd ++ textB b.md
def q9P (b : Bk) : List UInt8 := h9P b ++ numB b.qr ++ numB b.qb ++ namesB b.qw
def t9P (b : Bk) : List UInt8 := q9P b ++ numB b.tr ++ namesB b.tw ++ hisP b.th
def x9P (b : Bk) (k : Nat) : List UInt8 := t9P b ++ numB (b.ts.length : Int) ++ (b.ts.take k).flatMap txP
def e9P (b : Bk) : List UInt8 := x9P b b.ts.length ++ numB (if b.en = true then 1 else 0) ++ numB (b.nx.length : Int)
def n9P (b : Bk) (k : Nat) : List UInt8 := e9P b ++ (b.nx.take k).flatMap (fun p => textB p.1 ++ numB p.2)
/-- What PutBlock answers. -/
def blP (b : Bk) : List UInt8 := if blB b = true then n9P b b.nx.length ++ textB b.rt else []
theorem x9P_zero (b : Bk) : t9P b ++ numB (b.ts.length : Int) = x9P b 0 := by simp [x9P]
theorem x9P_snoc (b : Bk) (k : Nat) (h : k < b.ts.length) : x9P b (k + 1) = x9P b k ++ txP b.ts[k] := by
  unfold x9P; rw [List.take_succ_eq_append_getElem h]; simp only [List.flatMap_append, List.flatMap_cons, List.flatMap_nil, List.append_nil, List.append_assoc]
theorem n9P_zero (b : Bk) : e9P b = n9P b 0 := by simp [n9P]
theorem n9P_snoc (b : Bk) (k : Nat) (h : k < b.nx.length) : n9P b (k + 1) = n9P b k ++ textB b.nx[k].1 ++ numB b.nx[k].2 := by
  unfold n9P; rw [List.take_succ_eq_append_getElem h]; simp only [List.flatMap_append, List.flatMap_cons, List.flatMap_nil, List.append_nil, List.append_assoc]
theorem nm_le9 {s : ByteArray} (h : nmB s = true) : s.size ≤ 8 := by
  unfold nmB inB at h
  simp only [Bool.and_eq_true, decide_eq_true_eq] at h
  omega
theorem tot_le9 : ∀ ls : List ByteArray, (∀ s ∈ ls, s.size ≤ 8) → tot ls ≤ 8 * ls.length
  | [], _ => by simp [tot]
  | s :: t, h => by
    have h1 := h s List.mem_cons_self
    have h2 := tot_le9 t (fun x hx => h x (List.mem_cons_of_mem _ hx))
    simp only [tot, List.map_cons, List.sum_cons, List.length_cons] at h2 ⊢
    omega
theorem nms_small {ls : List ByteArray} (h : nmsB ls = true) : ls.length ≤ 20 ∧ tot ls ≤ 160 := by
  unfold nmsB at h
  simp only [Bool.and_eq_true, decide_eq_true_eq, List.all_eq_true, List.mem_range] at h
  have h8 : ∀ s ∈ ls, s.size ≤ 8 := fun s hs => by
    obtain ⟨j, hj, rfl⟩ := List.mem_iff_getElem.1 hs
    have := h.1 j hj
    unfold okAt at this
    simp only [Bool.and_eq_true] at this
    have h1 := this.1
    rw [List.getD_eq_getElem?_getD, List.getElem?_eq_getElem hj] at h1
    exact nm_le9 h1
  have := tot_le9 ls h8
  omega
/-- What a block that is right keeps to. -/
structure PutK (b : Bk) : Prop where
  id : 0 ≤ b.id ∧ b.id ≤ 100000
  ep : 0 ≤ b.ep ∧ b.ep ≤ 900
  rd : 1 ≤ b.rd ∧ b.rd ≤ 10000
  md : b.md.size ≤ 8
  qr : 0 ≤ b.qr ∧ b.qr ≤ 10000
  qb : -1 ≤ b.qb ∧ b.qb ≤ 100000
  qw : b.qw.length ≤ 20 ∧ tot b.qw ≤ 160
  tr : 0 ≤ b.tr ∧ b.tr ≤ 10000
  tw : b.tw.length ≤ 20 ∧ tot b.tw ≤ 160
  th : b.th.length ≤ 20
  hb : ∀ x ∈ b.th, 0 ≤ x ∧ x ≤ 10000
  ts : b.ts.length ≤ 4
  tb : ∀ t ∈ b.ts, t.2.1.size ≤ 8 ∧ t.2.2.1.size ≤ 8 ∧ (1 ≤ t.1 ∧ t.1 ≤ 3) ∧ (1 ≤ t.2.2.2.1 ∧ t.2.2.2.1 ≤ 1000000) ∧ (0 ≤ t.2.2.2.2 ∧ t.2.2.2.2 ≤ 10000)
  nx : b.nx.length ≤ 12
  nb : ∀ p ∈ b.nx, p.1.size ≤ 8 ∧ (1 ≤ p.2 ∧ p.2 ≤ 1000000)
  rt : b.rt.size ≤ 32
theorem tx_small {t : Tx5} (h : txB t = true) : t.2.1.size ≤ 8 ∧ t.2.2.1.size ≤ 8 ∧ (1 ≤ t.1 ∧ t.1 ≤ 3) ∧ (1 ≤ t.2.2.2.1 ∧ t.2.2.2.1 ≤ 1000000) ∧ (0 ≤ t.2.2.2.2 ∧ t.2.2.2.2 ≤ 10000) := by
  unfold txB inB at h
  simp only [Bool.and_eq_true, decide_eq_true_eq] at h
  obtain ⟨h1, h2, h3, h4⟩ := h
  have h1 := nm_le9 h1
  split at h4
  · have h5 := nm_le9 h4
    exact ⟨h1, h5, by omega, h2, h3⟩
  · simp only [Bool.and_eq_true, decide_eq_true_eq] at h4
    refine ⟨h1, ?_, by omega, h2, h3⟩
    rw [h4.2]
    show 0 ≤ 8
    omega
theorem set_small {l : List Vl} (h : setB l = true) : l.length ≤ 12 ∧ ∀ p ∈ l, p.1.size ≤ 8 ∧ (1 ≤ p.2 ∧ p.2 ≤ 1000000) := by
  unfold setB inB at h
  simp only [Bool.and_eq_true, decide_eq_true_eq, List.all_eq_true, List.mem_range] at h
  refine ⟨by omega, fun p hp => ?_⟩
  obtain ⟨j, hj, rfl⟩ := List.mem_iff_getElem.1 hp
  have h1 := h.1 j hj
  unfold vlAt valB inB at h1
  simp only [Bool.and_eq_true, decide_eq_true_eq] at h1
  rw [List.getD_eq_getElem?_getD, List.getElem?_eq_getElem hj] at h1
  exact ⟨nm_le9 h1.1.1, h1.1.2⟩
theorem bl_put {b : Bk} (h : blB b = true) : PutK b := by
  unfold blB at h
  simp only [Bool.and_eq_true, decide_eq_true_eq] at h
  obtain ⟨h1, h2, h3, h4, h5, h6, h7, h8, h9⟩ := h
  unfold inB at h1 h2 h3
  simp only [decide_eq_true_eq] at h1 h2 h3
  have w1 : wrap64 (b.rd - 1) = b.rd - 1 := by unfold wrap64; omega
  have w2 : wrap64 (b.id - 1) = b.id - 1 := by unfold wrap64; omega
  have hq : (0 ≤ b.qr ∧ b.qr ≤ 10000) ∧ (-1 ≤ b.qb ∧ b.qb ≤ 100000) ∧ b.qw.length ≤ 20 ∧ tot b.qw ≤ 160 := by
    unfold q9B at h5
    rw [w1, w2] at h5
    simp only [Bool.or_eq_true, Bool.and_eq_true] at h5
    rcases h5 with h5 | h5
    · unfold rootB at h5
      simp only [Bool.and_eq_true, decide_eq_true_eq] at h5
      have e : b.qw = [] := List.length_eq_zero_iff.1 h5.2.2
      rw [e]
      exact ⟨by omega, by omega, by simp, by simp [tot]⟩
    · unfold inB at h5
      simp only [decide_eq_true_eq] at h5
      have := nms_small h5.2.2
      exact ⟨by omega, by omega, this⟩
  have ht : (0 ≤ b.tr ∧ b.tr ≤ 10000) ∧ (b.tw.length ≤ 20 ∧ tot b.tw ≤ 160) ∧ b.th.length ≤ 20 ∧ ∀ x ∈ b.th, 0 ≤ x ∧ x ≤ 10000 := by
    unfold t9B at h6
    rw [w1] at h6
    simp only [Bool.or_eq_true, Bool.and_eq_true] at h6
    rcases h6 with h6 | h6
    · unfold noneB at h6
      simp only [Bool.and_eq_true, decide_eq_true_eq] at h6
      have e : b.tw = [] := List.length_eq_zero_iff.1 h6.2.1
      have e2 : b.th = [] := List.length_eq_zero_iff.1 h6.2.2
      rw [e, e2]
      exact ⟨by omega, ⟨by simp, by simp [tot]⟩, by simp, by simp⟩
    · unfold inB hisB inB at h6
      simp only [decide_eq_true_eq, List.all_eq_true] at h6
      have hn := nms_small h6.2.1
      exact ⟨by omega, hn, by have := h6.2.2.1; omega, fun x hx => by have := h6.2.2.2 x hx; omega⟩
  have he : (b.nx.length ≤ 12 ∧ ∀ p ∈ b.nx, p.1.size ≤ 8 ∧ (1 ≤ p.2 ∧ p.2 ≤ 1000000)) ∧ b.rt.size ≤ 32 := by
    unfold e9B at h9
    split at h9
    · simp only [Bool.and_eq_true, decide_eq_true_eq] at h9
      exact ⟨set_small h9.1, by omega⟩
    · simp only [Bool.and_eq_true, decide_eq_true_eq] at h9
      have e : b.nx = [] := List.length_eq_zero_iff.1 h9.1
      rw [e, h9.2]
      exact ⟨⟨by simp, by simp⟩, by show 0 ≤ 32; omega⟩
  exact ⟨h1, h2, h3, nm_le9 h4, hq.1, hq.2.1, hq.2.2, ht.1, ht.2.1, ht.2.2.1, ht.2.2.2, h7, fun t htm => tx_small (by rw [List.all_eq_true] at h8; exact h8 t htm), he.1.1, he.1.2, he.2⟩
end Go.Proofs.YtcmmdkabocfnfaaGreatDoor

namespace Go.Proofs.YtcmmdkabocfnfaaGreatDoor
open Go.RowKit
set_option linter.unusedVariables false

def numsB (ns : List Int) : List UInt8 := ns.flatMap numB
theorem numsB_len : ∀ ns : List Int, (numsB ns).length ≤ 6 * ns.length := by
  intro ns
  induction ns with
  | nil => simp [numsB]
  | cons n t ih =>
    have := numB_len n
    simp only [numsB, List.flatMap_cons, List.length_append, List.length_cons] at ih ⊢
    omega
theorem numsB_take_len (ns : List Int) (k : Nat) : (numsB (ns.take k)).length ≤ 6 * ns.length := by
  have h := numsB_len (ns.take k)
  have h3 : (ns.take k).length ≤ ns.length := by simp; omega
  omega
theorem numsB_snoc (ns : List Int) (k : Nat) (h : k < ns.length) : numsB (ns.take (k + 1)) = numsB (ns.take k) ++ numB ns[k] := by
  rw [List.take_succ_eq_append_getElem h]; simp only [numsB, List.flatMap_append, List.flatMap_cons, List.flatMap_nil, List.append_nil]

set_option maxRecDepth 20000 in
set_option maxHeartbeats 1000000 in
theorem putNumsL_any (v : Value) (l : List UInt8) (ns : List Int) (g off cap : Nat) (w : World) (hr : RdB w v l) (hl : l.length ≤ 20000000) (hn : ns.length ≤ 1000) (hg : g < w.heap.size) (hc : ∀ i (h : i < ns.length), w.cell? ⟨g, off + i, none⟩ = some (.int .i64 ns[i])) (hbd : ∀ x ∈ ns, -9223372036854775808 ≤ x ∧ x ≤ 9223372036854775807) :
    Calls Tryz.prog 103 #[v, .slice (some ⟨g, off, none⟩) ns.length cap] w fun e w' => ∃ v', e = .returned v' ∧ OwnB w.heap.size w' v' (l ++ numsB ns) ∧ Below w.heap.size w w' := by
  have Hc := hide (copied_any v l w hr (by omega))
  have HC := hide hc
  clear hr hc
  go_enter Tryz.func103, Tryz.ntmps103
  go_wp2_with (go_at_call 131; refine Hc.out.mono ?_; rintro e w1 ⟨v1, rfl, ho1, hb1⟩)
  go_loopw [5, 12] (fun bv iv wr => ∃ k : Nat, k ≤ ns.length ∧ iv = .int .i64 (k : Int) ∧ OwnB w.heap.size wr bv (l ++ numsB (ns.take k)) ∧ Below w.heap.size w wr) (fun _ iv _ => ns.length - (intOf iv).toNat)
  case atStart => exact ⟨0, by omega, rfl, by simpa [numsB] using ho1, hb1⟩
  case round =>
    obtain ⟨k, hk, rfl, ho, hb⟩ := hrel
    clear ho1 hb1
    by_cases hlt : k < ns.length
    · have hcr : wr.cell? ⟨g, off + k, none⟩ = some (.int .i64 ns[k]) := (hb.cell (p := ⟨g, off + k, none⟩) hg).trans (HC.out k hlt)
      have hsn := hide (numsB_snoc ns k hlt)
      have hbx := hbd ns[k] (List.getElem_mem hlt)
      have hTl := numsB_take_len ns k
      have hbs := hb.size
      generalize ns[k] = x at hcr hsn hbx
      generalize numsB (ns.take k) = pre at ho hsn hTl
      have Ha := hide (appendNum_any _ (l ++ pre) x w.heap.size wr ho hbs (by simp; omega) hbx.1 hbx.2)
      have Hb := hide hb
      clear ho hb hbx hbd
      go_wp2_with fail
      refine Ha.out.mono ?_
      rintro e w2 ⟨v2, rfl, ho2, hb2⟩
      go_wp2
      go_roundw
      case rel => exact ⟨k + 1, by omega, by go_num, by rw [hsn.out, ← List.append_assoc]; exact ho2, Hb.out.trans hb2⟩
      case measure => simp [intOf]; omega
    · have e : ns.take k = ns := List.take_of_length_le (by omega)
      rw [e] at ho
      clear e
      go_wp2
      go_ret
      exact ⟨_, rfl, ho, hb⟩
/-- Two texts from a block's head on. -/
theorem rd_two_str (w : World) (g : Nat) (a b : ByteArray) (hg : g < w.heap.size) (h0 : w.cell? ⟨g, 0, none⟩ = some (.string a)) (h1 : w.cell? ⟨g, 1, none⟩ = some (.string b)) : RdS w (.slice (some ⟨g, 0, none⟩) 2 2) [a, b] := by
  refine .inr ⟨g, 0, 2, by simp, rfl, by simp, by unfold maxLen; omega, hg, ?_⟩
  intro i hi
  simp only [List.length_cons, List.length_nil] at hi
  rcases (show i = 0 ∨ i = 1 from by omega) with rfl | rfl
  · exact h0
  · exact h1
theorem cells_two {w : World} {g : Nat} {a b : Int} (h0 : w.cell? ⟨g, 0, none⟩ = some (.int .i64 a)) (h1 : w.cell? ⟨g, 1, none⟩ = some (.int .i64 b)) : ∀ i (h : i < [a, b].length), w.cell? ⟨g, 0 + i, none⟩ = some (.int .i64 [a, b][i]) := by
  intro i hi
  simp only [List.length_cons, List.length_nil] at hi
  rcases (show i = 0 ∨ i = 1 from by omega) with rfl | rfl
  · exact h0
  · exact h1
theorem cells_one {w : World} {g : Nat} {a : Int} (h0 : w.cell? ⟨g, 0, none⟩ = some (.int .i64 a)) : ∀ i (h : i < [a].length), w.cell? ⟨g, 0 + i, none⟩ = some (.int .i64 [a][i]) := by
  intro i hi
  simp only [List.length_cons, List.length_nil] at hi
  have : i = 0 := by omega
  subst this
  exact h0
end Go.Proofs.YtcmmdkabocfnfaaGreatDoor
