/- The bytes of a block's certificates, by the model. The bytes of a block, by the model. Blocks read out of bytes, plainly: by the landed code's reader and by the model's; what was put comes back of both, so both answer alike. What is read is no longer than the bytes; bytes.Equal. -/
import Derived.Test.YtkjlmnhdmlolmaaGreatDoorJoin15
import Derived.Test.YtkjlmnhdmlolmaaGreatDoorJoin10
import Derived.Test.YtkjlmnhdmlolmaaGreatDoorTxPut
import Derived.Deep.RegionHeldLaw
import Derived.Test.YtkjlmnhdmlolmaaGreatDoorRoundText
import Derived.Test.YtkjlmnhdmlolmaaGreatDoorJoin13
import Derived.Test.YtkjlmnhdmlolmaaGreatDoorJoin1
import Derived.Laws.IdiomStrings
namespace Go.Proofs.YtkjlmnhdmlolmaaGreatDoor
open Go.RowKit
set_option linter.unusedVariables false

set_option maxRecDepth 20000 in
set_option maxHeartbeats 1000000 in
theorem specPutQc9_any (v vw : Value) (l : List UInt8) (r b : Int) (ws : List ByteArray) (w : World) (hr : RdB w v l) (hrw : RdS w vw ws) (hl : l.length ≤ 1000000) (hlw : ws.length ≤ 1000) (ht : tot ws ≤ 100000)
    (br : -9223372036854775808 ≤ r ∧ r ≤ 9223372036854775807) (bb : -9223372036854775808 ≤ b ∧ b ≤ 9223372036854775807) :
    Calls Tryz.prog 134 #[v, qcV r b vw] w fun e w' => ∃ v', e = .returned v' ∧ OwnB w.heap.size w' v' (l ++ numB r ++ numB b ++ namesB ws) ∧ Below w.heap.size w w' := by
  obtain ⟨a, c, rfl⟩ := hrw.shape
  simp only [qcV]
  obtain ⟨w1, hw1⟩ : ∃ x, w.alloc (.cells #[.int .i64 r, .int .i64 b, .slice a ws.length c] 41) = x := ⟨_, rfl⟩
  have b1 : Below w.heap.size w w1 := by rw [← hw1]; exact (Below.refl _ w).alloc (Nat.le_refl _) _
  have k1 : Blk w1 w.heap.size 41 [.int .i64 r, .int .i64 b, .slice a ws.length c] := by rw [← hw1]; exact Blk.new w _ _
  have HS : Hid (∀ V, Below w1.heap.size w1 V → (V.cell? ⟨w.heap.size, 0, none⟩ = some (.int .i64 r) ∧ V.cell? ⟨w.heap.size, 1, none⟩ = some (.int .i64 b) ∧ V.cell? ⟨w.heap.size, 2, none⟩ = some (.slice a ws.length c))) := hide (fun V hb => ⟨(k1.below hb k1.lt).cell 0, (k1.below hb k1.lt).cell 1, (k1.below hb k1.lt).cell 2⟩)
  have bD : Below w1.heap.size w1 w1.drew := (Below.refl _ w1).drew
  have HP1 := hide (specPutNum_any v l r w1.drew ((hr.below b1 (Nat.le_refl _)).below bD (Nat.le_refl _)) (by omega) br.1 br.2)
  have HP2 := hide (fun V u (h : RdB V u (l ++ numB r)) => specPutNum_any u (l ++ numB r) b V h (by have := numB_len r; simp only [List.length_append]; omega) bb.1 bb.2)
  have HP3 := hide (fun V u (h : RdB V u (l ++ numB r ++ numB b)) (hV : Below w.heap.size w V) => specPutNames_any u (.slice a ws.length c) (l ++ numB r ++ numB b) ws V h (hrw.below hV (Nat.le_refl _)) (by have := numB_len r; have := numB_len b; simp only [List.length_append]; omega) (by omega) (by omega))
  have HB1 := hide b1
  clear hr hrw k1 b1
  go_enter Tryz.func134, Tryz.ntmps134
  go_wp2
  clear hw1
  go_region_held_law (fun w' => w'.cell? ⟨w.heap.size, 0, none⟩ = some (.int .i64 r) ∧ w'.cell? ⟨w.heap.size, 1, none⟩ = some (.int .i64 b) ∧ w'.cell? ⟨w.heap.size, 2, none⟩ = some (.slice a ws.length c)) ((refine HS.out _ ?_; repeat (first | with_reducible exact bD | with_reducible exact c3 | with_reducible exact c2 | with_reducible exact c1 | with_reducible exact Below.refl _ _ | refine Below.drew ?_))) ((first
    | (go_at_call 188; refine (HP3.out u2 v2 o2.rd (HB1.out.trans (c2.mono HB1.out.size))).mono ?_; rintro e u3 ⟨v3, rfl, o3, hb3⟩; have c3 := c2.trans (hb3.mono c2.size))
    | (go_at_call 132; refine (HP2.out u1 v1 o1.rd).mono ?_; rintro e u2 ⟨v2, rfl, o2, hb2⟩; have c2 := c1.trans (hb2.mono c1.size))
    | (go_at_call 132; refine HP1.out.mono ?_; rintro e u1 ⟨v1, rfl, o1, hb1⟩; have c1 := bD.trans (hb1.mono bD.size))))
  have HO := hide (OwnB.mono o3 (show w.heap.size ≤ u2.heap.size from Nat.le_trans HB1.out.size c2.size))
  have HB := hide (HB1.out.trans (c3.mono HB1.out.size))
  clear o1 o2 o3 hb1 hb2 hb3 c1 c2 c3
  go_wp2
  go_ret
  exact ⟨_, rfl, HO.out, HB.out⟩
/-- Numbers, one behind the other. -/
def hisP (hs : List Int) : List UInt8 := hs.flatMap numB
theorem hisP_snoc (hs : List Int) (k : Nat) (h : k < hs.length) : hisP (hs.take (k + 1)) = hisP (hs.take k) ++ numB hs[k] := by
  rw [List.take_succ_eq_append_getElem h]; simp only [hisP, List.flatMap_append, List.flatMap_cons, List.flatMap_nil, List.append_nil]
theorem hisP_len : ∀ hs : List Int, (hisP hs).length ≤ 6 * hs.length
  | [] => by simp [hisP]
  | x :: t => by
    have h1 := numB_len x
    have h2 := hisP_len t
    simp only [hisP, List.flatMap_cons, List.length_append, List.length_cons] at h2 ⊢
    omega
set_option maxRecDepth 20000 in
set_option maxHeartbeats 1000000 in
theorem specPutTc9_any (v vw vh : Value) (l : List UInt8) (r : Int) (ws : List ByteArray) (hs : List Int) (w : World) (hr : RdB w v l) (hrw : RdS w vw ws) (hrh : RdI w vh hs) (hl : l.length ≤ 1000000) (hlw : ws.length ≤ 1000) (ht : tot ws ≤ 100000) (hlh : hs.length ≤ 1000)
    (br : -9223372036854775808 ≤ r ∧ r ≤ 9223372036854775807) (bh : ∀ x ∈ hs, -9223372036854775808 ≤ x ∧ x ≤ 9223372036854775807) :
    Calls Tryz.prog 133 #[v, tcV r vw vh] w fun e w' => ∃ v', e = .returned v' ∧ OwnB w.heap.size w' v' (l ++ numB r ++ namesB ws ++ hisP hs) ∧ Below w.heap.size w w' := by
  obtain ⟨a, c, rfl⟩ := hrw.shape
  obtain ⟨ah, ch, rfl⟩ := hrh.shape
  simp only [tcV]
  obtain ⟨w1, hw1⟩ : ∃ x, w.alloc (.cells #[.int .i64 r, .slice a ws.length c, .slice ah hs.length ch] 44) = x := ⟨_, rfl⟩
  have b1 : Below w.heap.size w w1 := by rw [← hw1]; exact (Below.refl _ w).alloc (Nat.le_refl _) _
  have k1 : Blk w1 w.heap.size 44 [.int .i64 r, .slice a ws.length c, .slice ah hs.length ch] := by rw [← hw1]; exact Blk.new w _ _
  have HS : Hid (∀ V, Below w1.heap.size w1 V → (V.cell? ⟨w.heap.size, 0, none⟩ = some (.int .i64 r) ∧ V.cell? ⟨w.heap.size, 1, none⟩ = some (.slice a ws.length c))) := hide (fun V hb => ⟨(k1.below hb k1.lt).cell 0, (k1.below hb k1.lt).cell 1⟩)
  have bD : Below w1.heap.size w1 w1.drew := (Below.refl _ w1).drew
  have HP1 := hide (specPutNum_any v l r w1.drew ((hr.below b1 (Nat.le_refl _)).below bD (Nat.le_refl _)) (by omega) br.1 br.2)
  have HP3 := hide (fun V u (h : RdB V u (l ++ numB r)) (hV : Below w.heap.size w V) => specPutNames_any u (.slice a ws.length c) (l ++ numB r) ws V h (hrw.below hV (Nat.le_refl _)) (by have := numB_len r; simp only [List.length_append]; omega) (by omega) (by omega))
  have hnl := namesB_len ws
  have hrl := numB_len r
  have hz : l ++ numB r ++ namesB ws = l ++ numB r ++ namesB ws ++ hisP (hs.take 0) := by simp [hisP]
  have HB1 := hide b1
  have K1 := hide k1
  have Hh := hide hrh
  have Hbh := hide bh
  clear hr hrw hrh k1 b1 bh
  go_enter Tryz.func133, Tryz.ntmps133
  go_wp2
  clear hw1
  go_region_held_law (fun w' => w'.cell? ⟨w.heap.size, 0, none⟩ = some (.int .i64 r) ∧ w'.cell? ⟨w.heap.size, 1, none⟩ = some (.slice a ws.length c)) ((refine HS.out _ ?_; repeat (first | with_reducible exact bD | with_reducible exact c2 | with_reducible exact c1 | with_reducible exact Below.refl _ _ | refine Below.drew ?_))) ((first
    | (go_at_call 188; refine (HP3.out u1 v1 o1.rd (HB1.out.trans (c1.mono HB1.out.size))).mono ?_; rintro e u2 ⟨v2, rfl, o2, hb2⟩; have c2 := c1.trans (hb2.mono c1.size))
    | (go_at_call 132; refine HP1.out.mono ?_; rintro e u1 ⟨v1, rfl, o1, hb1⟩; have c1 := bD.trans (hb1.mono bD.size))))
  have HO := hide (OwnB.mono o2 (show w.heap.size ≤ u1.heap.size from Nat.le_trans HB1.out.size c1.size))
  have HC := hide c2
  rw [hz] at HO
  clear o1 o2 hb1 hb2 c1 c2 hz
  go_wp2
  go_loopw [0, 5] (fun bv iv wr => ∃ k : Nat, k ≤ hs.length ∧ iv = .int .i64 (k : Int) ∧ OwnB w.heap.size wr bv (l ++ numB r ++ namesB ws ++ hisP (hs.take k)) ∧ Below w1.heap.size w1 wr) (fun _ iv _ => hs.length - (intOf iv).toNat)
  case atStart => exact ⟨0, Nat.zero_le _, rfl, HO.out, HC.out⟩
  case round =>
    obtain ⟨k, hk, rfl, ho, hb⟩ := hrel
    have kr := K1.out.below hb K1.out.lt
    have t2 := kr.cell 2
    simp only [List.getElem?_cons_zero, List.getElem?_cons_succ] at t2
    have HBr := hide (HB1.out.trans (hb.mono HB1.out.size))
    by_cases hlt : k < hs.length
    · obtain ⟨bb, ob, rfl, hc1, hc2, hbb, hcb⟩ := Hh.out.at hlt
      have c0 := (HBr.out.cell (p := ⟨bb, ob + k, none⟩) hbb).trans hcb
      have hli : (k : Int) < (hs.length : Int) := by omega
      have hbx := Hbh.out hs[k] (List.getElem_mem _)
      have Hsn := hide (hisP_snoc hs k hlt)
      have hpl := hisP_len (hs.take k)
      have htk : (hs.take k).length ≤ hs.length := by simp; omega
      generalize hs[k] = x at c0 hcb hbx Hsn
      have HP := hide (specPutNum_any _ (l ++ numB r ++ namesB ws ++ hisP (hs.take k)) x wr ho.rd (by simp only [List.length_append]; omega) hbx.1 hbx.2)
      generalize hisP (hs.take k) = pr at HP Hsn
      have hwr := HBr.out.size
      have Hb := hide hb
      clear ho hb hcb hbx kr
      go_wp2_with fail
      refine HP.out.mono ?_
      rintro e w2 ⟨v2, rfl, o2, hb2⟩
      have HO2 := hide (OwnB.mono o2 hwr)
      have HB2 := hide (Hb.out.trans (hb2.mono Hb.out.size))
      clear o2 hb2 c0 t2
      go_wp2
      go_roundw
      case rel => exact ⟨k + 1, by omega, by go_num, by rw [Hsn.out, ← List.append_assoc]; exact HO2.out, HB2.out⟩
      case measure => simp [intOf]; omega
    · have ek : k = hs.length := by omega
      subst ek
      rw [List.take_length] at ho
      have HO2 := hide ho
      clear ho hb kr
      go_wp2
      go_ret
      exact ⟨_, rfl, HO2.out, HBr.out⟩
end Go.Proofs.YtkjlmnhdmlolmaaGreatDoor

namespace Go.Proofs.YtkjlmnhdmlolmaaGreatDoor
open Go.RowKit
set_option linter.unusedVariables false

/-- A block's bytes, part behind part. -/
def h9P (b : Bk) : List UInt8 := [] ++ numB b.id ++ numB b.ep ++ numB b.rd ++ textB b.md
def q9P (b : Bk) : List UInt8 := h9P b ++ numB b.qr ++ numB b.qb ++ namesB b.qw
def t9P (b : Bk) : List UInt8 := q9P b ++ numB b.tr ++ namesB b.tw ++ hisP b.th
def x9P (b : Bk) (k : Nat) : List UInt8 := t9P b ++ numB (b.ts.length : Int) ++ (b.ts.take k).flatMap txP
def e9P (b : Bk) : List UInt8 := x9P b b.ts.length ++ numB (if b.en = true then 1 else 0) ++ numB (b.nx.length : Int)
def n9P (b : Bk) (k : Nat) : List UInt8 := e9P b ++ (b.nx.take k).flatMap (fun p => textB p.1 ++ numB p.2)
/-- What PutBlock answers. -/
def blP (b : Bk) : List UInt8 := if blB b = true then n9P b b.nx.length ++ textB b.rt else []
theorem x9P_zero (b : Bk) : t9P b ++ numB (b.ts.length : Int) = x9P b 0 := by simp [x9P]
theorem x9P_snoc (b : Bk) (k : Nat) (h : k < b.ts.length) : x9P b (k + 1) = x9P b k ++ txP b.ts[k] := by
  unfold x9P; rw [List.take_succ_eq_append_getElem h]; simp only [List.flatMap_append, List.flatMap_cons, List.flatMap_nil, List.append_nil, List.append_assoc]
theorem n9P_zero (b : Bk) : e9P b = n9P b 0 := by simp [n9P]
theorem n9P_snoc (b : Bk) (k : Nat) (h : k < b.nx.length) : n9P b (k + 1) = n9P b k ++ textB b.nx[k].1 ++ numB b.nx[k].2 := by
  unfold n9P; rw [List.take_succ_eq_append_getElem h]; simp only [List.flatMap_append, List.flatMap_cons, List.flatMap_nil, List.append_nil, List.append_assoc]
theorem nm_le9 {s : ByteArray} (h : nmB s = true) : s.size ≤ 8 := by
  unfold nmB inB at h
  simp only [Bool.and_eq_true, decide_eq_true_eq] at h
  omega
theorem tot_le9 : ∀ ls : List ByteArray, (∀ s ∈ ls, s.size ≤ 8) → tot ls ≤ 8 * ls.length
  | [], _ => by simp [tot]
  | s :: t, h => by
    have h1 := h s List.mem_cons_self
    have h2 := tot_le9 t (fun x hx => h x (List.mem_cons_of_mem _ hx))
    simp only [tot, List.map_cons, List.sum_cons, List.length_cons] at h2 ⊢
    omega
theorem nms_small {ls : List ByteArray} (h : nmsB ls = true) : ls.length ≤ 20 ∧ tot ls ≤ 160 := by
  unfold nmsB at h
  simp only [Bool.and_eq_true, decide_eq_true_eq, List.all_eq_true, List.mem_range] at h
  have h8 : ∀ s ∈ ls, s.size ≤ 8 := fun s hs => by
    obtain ⟨j, hj, rfl⟩ := List.mem_iff_getElem.1 hs
    have := h.1 j hj
    unfold okAt at this
    simp only [Bool.and_eq_true] at this
    have h1 := this.1
    rw [List.getD_eq_getElem?_getD, List.getElem?_eq_getElem hj] at h1
    exact nm_le9 h1
  have := tot_le9 ls h8
  omega
/-- What a block that is right keeps to. -/
structure PutK (b : Bk) : Prop where
  id : 0 ≤ b.id ∧ b.id ≤ 100000
  ep : 0 ≤ b.ep ∧ b.ep ≤ 900
  rd : 1 ≤ b.rd ∧ b.rd ≤ 10000
  md : b.md.size ≤ 8
  qr : 0 ≤ b.qr ∧ b.qr ≤ 10000
  qb : -1 ≤ b.qb ∧ b.qb ≤ 100000
  qw : b.qw.length ≤ 20 ∧ tot b.qw ≤ 160
  tr : 0 ≤ b.tr ∧ b.tr ≤ 10000
  tw : b.tw.length ≤ 20 ∧ tot b.tw ≤ 160
  th : b.th.length ≤ 20
  hb : ∀ x ∈ b.th, 0 ≤ x ∧ x ≤ 10000
  ts : b.ts.length ≤ 4
  tb : ∀ t ∈ b.ts, t.2.1.size ≤ 8 ∧ t.2.2.1.size ≤ 8 ∧ (1 ≤ t.1 ∧ t.1 ≤ 3) ∧ (1 ≤ t.2.2.2.1 ∧ t.2.2.2.1 ≤ 1000000) ∧ (0 ≤ t.2.2.2.2 ∧ t.2.2.2.2 ≤ 10000)
  nx : b.nx.length ≤ 12
  nb : ∀ p ∈ b.nx, p.1.size ≤ 8 ∧ (1 ≤ p.2 ∧ p.2 ≤ 1000000)
  rt : b.rt.size ≤ 32
theorem tx_small {t : Tx5} (h : txB t = true) : t.2.1.size ≤ 8 ∧ t.2.2.1.size ≤ 8 ∧ (1 ≤ t.1 ∧ t.1 ≤ 3) ∧ (1 ≤ t.2.2.2.1 ∧ t.2.2.2.1 ≤ 1000000) ∧ (0 ≤ t.2.2.2.2 ∧ t.2.2.2.2 ≤ 10000) := by
  unfold txB inB at h
  simp only [Bool.and_eq_true, decide_eq_true_eq] at h
  obtain ⟨h1, h2, h3, h4⟩ := h
  have h1 := nm_le9 h1
  split at h4
  · have h5 := nm_le9 h4
    exact ⟨h1, h5, by omega, h2, h3⟩
  · simp only [Bool.and_eq_true, decide_eq_true_eq] at h4
    refine ⟨h1, ?_, by omega, h2, h3⟩
    rw [h4.2]
    show 0 ≤ 8
    omega
theorem set_small {l : List Vl} (h : setB l = true) : l.length ≤ 12 ∧ ∀ p ∈ l, p.1.size ≤ 8 ∧ (1 ≤ p.2 ∧ p.2 ≤ 1000000) := by
  unfold setB inB at h
  simp only [Bool.and_eq_true, decide_eq_true_eq, List.all_eq_true, List.mem_range] at h
  refine ⟨by omega, fun p hp => ?_⟩
  obtain ⟨j, hj, rfl⟩ := List.mem_iff_getElem.1 hp
  have h1 := h.1 j hj
  unfold vlAt valB inB at h1
  simp only [Bool.and_eq_true, decide_eq_true_eq] at h1
  rw [List.getD_eq_getElem?_getD, List.getElem?_eq_getElem hj] at h1
  exact ⟨nm_le9 h1.1.1, h1.1.2⟩
theorem bl_put {b : Bk} (h : blB b = true) : PutK b := by
  unfold blB at h
  simp only [Bool.and_eq_true, decide_eq_true_eq] at h
  obtain ⟨h1, h2, h3, h4, h5, h6, h7, h8, h9⟩ := h
  unfold inB at h1 h2 h3
  simp only [decide_eq_true_eq] at h1 h2 h3
  have w1 : wrap64 (b.rd - 1) = b.rd - 1 := by unfold wrap64; omega
  have w2 : wrap64 (b.id - 1) = b.id - 1 := by unfold wrap64; omega
  have hq : (0 ≤ b.qr ∧ b.qr ≤ 10000) ∧ (-1 ≤ b.qb ∧ b.qb ≤ 100000) ∧ b.qw.length ≤ 20 ∧ tot b.qw ≤ 160 := by
    unfold q9B at h5
    rw [w1, w2] at h5
    simp only [Bool.or_eq_true, Bool.and_eq_true] at h5
    rcases h5 with h5 | h5
    · unfold rootB at h5
      simp only [Bool.and_eq_true, decide_eq_true_eq] at h5
      have e : b.qw = [] := List.length_eq_zero_iff.1 h5.2.2
      rw [e]
      exact ⟨by omega, by omega, by simp, by simp [tot]⟩
    · unfold inB at h5
      simp only [decide_eq_true_eq] at h5
      have := nms_small h5.2.2
      exact ⟨by omega, by omega, this⟩
  have ht : (0 ≤ b.tr ∧ b.tr ≤ 10000) ∧ (b.tw.length ≤ 20 ∧ tot b.tw ≤ 160) ∧ b.th.length ≤ 20 ∧ ∀ x ∈ b.th, 0 ≤ x ∧ x ≤ 10000 := by
    unfold t9B at h6
    rw [w1] at h6
    simp only [Bool.or_eq_true, Bool.and_eq_true] at h6
    rcases h6 with h6 | h6
    · unfold noneB at h6
      simp only [Bool.and_eq_true, decide_eq_true_eq] at h6
      have e : b.tw = [] := List.length_eq_zero_iff.1 h6.2.1
      have e2 : b.th = [] := List.length_eq_zero_iff.1 h6.2.2
      rw [e, e2]
      exact ⟨by omega, ⟨by simp, by simp [tot]⟩, by simp, by simp⟩
    · unfold inB hisB inB at h6
      simp only [decide_eq_true_eq, List.all_eq_true] at h6
      have hn := nms_small h6.2.1
      exact ⟨by omega, hn, by have := h6.2.2.1; omega, fun x hx => by have := h6.2.2.2 x hx; omega⟩
  have he : (b.nx.length ≤ 12 ∧ ∀ p ∈ b.nx, p.1.size ≤ 8 ∧ (1 ≤ p.2 ∧ p.2 ≤ 1000000)) ∧ b.rt.size ≤ 32 := by
    unfold e9B at h9
    split at h9
    · simp only [Bool.and_eq_true, decide_eq_true_eq] at h9
      exact ⟨set_small h9.1, by omega⟩
    · simp only [Bool.and_eq_true, decide_eq_true_eq] at h9
      have e : b.nx = [] := List.length_eq_zero_iff.1 h9.1
      rw [e, h9.2]
      exact ⟨⟨by simp, by simp⟩, by show 0 ≤ 32; omega⟩
  exact ⟨h1, h2, h3, nm_le9 h4, hq.1, hq.2.1, hq.2.2, ht.1, ht.2.1, ht.2.2.1, ht.2.2.2, h7, fun t htm => tx_small (by rw [List.all_eq_true] at h8; exact h8 t htm), he.1.1, he.1.2, he.2⟩
end Go.Proofs.YtkjlmnhdmlolmaaGreatDoor

namespace Go.Proofs.YtkjlmnhdmlolmaaGreatDoor
open Go.RowKit
set_option linter.unusedVariables false

/-- Where a reader is; none: a part was not there. -/
abbrev St := Option Int
def rN (l : List UInt8) : St → Int
  | none => 0
  | some p => (getN l p).1
def sN (l : List UInt8) : St → St
  | none => none
  | some p => if (getN l p).2.2 = true then some (getN l p).2.1 else none
def rT (l : List UInt8) : St → ByteArray
  | none => ⟨#[]⟩
  | some p => ⟨(getT l p).1.toArray⟩
def sT (l : List UInt8) : St → St
  | none => none
  | some p => if (getT l p).2.2 = true then some (getT l p).2.1 else none
def rS (l : List UInt8) : St → List ByteArray
  | none => []
  | some p => (getNs l p).1
def sS (l : List UInt8) : St → St
  | none => none
  | some p => if (getNs l p).2.2 = true then some (getNs l p).2.1 else none
def rX (l : List UInt8) : St → Tx5
  | none => tx0
  | some p => (getX l p).1
def sX (l : List UInt8) : St → St
  | none => none
  | some p => if (getX l p).2.2 = true then some (getX l p).2.1 else none
def rV (l : List UInt8) (s : St) : Vl := (rT l s, rN l (sT l s))
def sV (l : List UInt8) (s : St) : St := sN l (sT l s)
/-- So many parts, one behind the other. -/
def sL (n : St → St) : Nat → St → St
  | 0, s => s
  | k + 1, s => n (sL n k s)
def rL {α : Type} (r : St → α) (n : St → St) : Nat → St → List α
  | 0, _ => []
  | k + 1, s => rL r n k s ++ [r (sL n k s)]
theorem rL_len {α : Type} (r : St → α) (n : St → St) (s : St) : ∀ k, (rL r n k s).length = k
  | 0 => rfl
  | k + 1 => by simp [rL, rL_len r n s k]
theorem sL_none (n : St → St) (hn : n none = none) : ∀ k, sL n k none = none
  | 0 => rfl
  | k + 1 => by simp [sL, sL_none n hn k, hn]
theorem sL_more (n : St → St) (hn : n none = none) (s : St) (k : Nat) (h : sL n k s = none) : ∀ m, k ≤ m → sL n m s = none
  | 0, hm => by have : k = 0 := by omega
                subst this; exact h
  | m + 1, hm => by
    by_cases e : k = m + 1
    · subst e; exact h
    · simp [sL, sL_more n hn s k h m (by omega), hn]
/-- A count of parts that the landed code takes. -/
def cI (l : List UInt8) (most : Int) (s : St) : Int := if inB (rN l s) 0 most = true then rN l s else 0
def sC (l : List UInt8) (most : Int) (s : St) : St := if inB (rN l s) 0 most = true then sN l s else none
def y1 (l : List UInt8) : St := sN l (some 0)
def y2 (l : List UInt8) : St := sN l (y1 l)
def y3 (l : List UInt8) : St := sN l (y2 l)
def y4 (l : List UInt8) : St := sT l (y3 l)
def y5 (l : List UInt8) : St := sN l (y4 l)
def y6 (l : List UInt8) : St := sN l (y5 l)
def y7 (l : List UInt8) : St := sS l (y6 l)
def y8 (l : List UInt8) : St := sN l (y7 l)
def y9 (l : List UInt8) : St := sS l (y8 l)
def y10 (l : List UInt8) : St := sL (sN l) (rS l (y8 l)).length (y9 l)
def i11 (l : List UInt8) : St := sC l 4 (y10 l)
def i12 (l : List UInt8) : St := sL (sX l) (cI l 4 (y10 l)).toNat (i11 l)
def i13 (l : List UInt8) : St := sN l (i12 l)
def i14 (l : List UInt8) : St := sC l 12 (i13 l)
def i15 (l : List UInt8) : St := sL (sV l) (cI l 12 (i13 l)).toNat (i14 l)
def i16 (l : List UInt8) : St := sT l (i15 l)
/-- What the landed code reads. -/
def bI (l : List UInt8) : Bk := ⟨rN l (some 0), rN l (y1 l), rN l (y2 l), rT l (y3 l), rN l (y4 l), rN l (y5 l), rS l (y6 l), rN l (y7 l), rS l (y8 l), rL (rN l) (sN l) (rS l (y8 l)).length (y9 l), rL (rX l) (sX l) (cI l 4 (y10 l)).toNat (i11 l), decide (rN l (i12 l) = 1), rL (rV l) (sV l) (cI l 12 (i13 l)).toNat (i14 l), rT l (i15 l)⟩
def bk0 : Bk := ⟨0, 0, 0, ⟨#[]⟩, 0, 0, [], 0, [], [], [], false, [], ⟨#[]⟩⟩
def gI (l : List UInt8) : Bk × Bool := if ((i16 l).isSome && decide (blP (bI l) = l)) = true then (bI l, true) else (bk0, false)
/-- How many rounds the model's loops go at most. -/
def few (n : Int) (c : Nat) : Nat := min n.toNat c
def j11 (l : List UInt8) : St := sN l (y10 l)
def j12 (l : List UInt8) : St := sL (sX l) (few (rN l (y10 l)) 5) (j11 l)
def j13 (l : List UInt8) : St := sN l (j12 l)
def j14 (l : List UInt8) : St := sN l (j13 l)
def j15 (l : List UInt8) : St := sL (sV l) (few (rN l (j13 l)) 13) (j14 l)
def j16 (l : List UInt8) : St := sT l (j15 l)
/-- What the model reads. -/
def bS (l : List UInt8) : Bk := ⟨rN l (some 0), rN l (y1 l), rN l (y2 l), rT l (y3 l), rN l (y4 l), rN l (y5 l), rS l (y6 l), rN l (y7 l), rS l (y8 l), rL (rN l) (sN l) (rS l (y8 l)).length (y9 l), rL (rX l) (sX l) (few (rN l (y10 l)) 5) (j11 l), decide (rN l (j12 l) = 1), rL (rV l) (sV l) (few (rN l (j13 l)) 13) (j14 l), rT l (j15 l)⟩
def gS (l : List UInt8) : Bk × Bool := if ((j16 l).isSome && (blB (bS l) && decide (blP (bS l) = l))) = true then (bS l, true) else (bk0, false)

/-- A reader stands ahead of t. -/
def AtS (l : List UInt8) (s : St) (t : List UInt8) : Prop := ∃ pre, l = pre ++ t ∧ s = some (pre.length : Int)
theorem rt_num {l : List UInt8} {s : St} {n : Int} {t : List UInt8} (h : AtS l s (numB n ++ t)) (hn : -1000000000 ≤ n ∧ n ≤ 1000000000) : rN l s = n ∧ AtS l (sN l s) t := by
  obtain ⟨pre, e, rfl⟩ := h
  have h1 := getN_at5 l pre t n pre.length e rfl hn
  refine ⟨?_, pre ++ numB n, by rw [e, List.append_assoc], ?_⟩
  · show (getN l pre.length).1 = n
    rw [h1]
  · show (if (getN l pre.length).2.2 = true then some (getN l pre.length).2.1 else none) = _
    rw [h1]; rfl
theorem rt_text {l : List UInt8} {s : St} {x : ByteArray} {t : List UInt8} (h : AtS l s (textB x ++ t)) (hx : x.size ≤ 1000000000) : rT l s = x ∧ AtS l (sT l s) t := by
  obtain ⟨pre, e, rfl⟩ := h
  have h1 := getT_at5 l pre t x pre.length e rfl hx
  refine ⟨?_, pre ++ textB x, by rw [e, List.append_assoc], ?_⟩
  · show (⟨(getT l pre.length).1.toArray⟩ : ByteArray) = x
    rw [h1]
  · show (if (getT l pre.length).2.2 = true then some (getT l pre.length).2.1 else none) = _
    rw [h1]; rfl
theorem rt_names {l : List UInt8} {s : St} {ls : List ByteArray} {t : List UInt8} (h : AtS l s (namesB ls ++ t)) (hn : ls.length ≤ 100) (hs : ∀ x ∈ ls, x.size ≤ 1000000000) : rS l s = ls ∧ AtS l (sS l s) t := by
  obtain ⟨pre, e, rfl⟩ := h
  have e' : l = pre ++ (numB (ls.length : Int) ++ (textsB ls ++ t)) := by rw [e]; unfold namesB; simp only [List.append_assoc]
  have hg := getN_put pre (textsB ls ++ t) (ls.length : Int)
  rw [clamp_small _ (by omega)] at hg
  have hL := getL_put ls (pre ++ numB (ls.length : Int)) t [] hs
  rw [List.append_assoc, List.nil_append] at hL
  have e3 : (pre.length : Int) + (numB (ls.length : Int)).length = ((pre ++ numB (ls.length : Int)).length : Int) := by simp
  rw [e3] at hg
  have h1 := getNs_some (pre ++ (numB (ls.length : Int) ++ (textsB ls ++ t))) (pre.length : Int) _ _ ls.length ls hg hn hL
  rw [← e'] at h1
  refine ⟨?_, pre ++ namesB ls, by rw [e, List.append_assoc], ?_⟩
  · show (getNs l pre.length).1 = ls
    rw [h1]
  · show (if (getNs l pre.length).2.2 = true then some (getNs l pre.length).2.1 else none) = _
    rw [h1]
    unfold namesB
    simp only [if_true, List.length_append, Option.some.injEq]
    omega
theorem rt_tx {l : List UInt8} {s : St} {x : Tx5} {t : List UInt8} (h : AtS l s (txP x ++ t)) (hok : txB x = true) : rX l s = x ∧ AtS l (sX l s) t := by
  obtain ⟨pre, e, rfl⟩ := h
  have hsm := tx_small hok
  obtain ⟨k, f, to, am, no⟩ := x
  simp only at hsm
  obtain ⟨hf, ht, hk, ha, hn⟩ := hsm
  have e' : l = pre ++ (numB k ++ (textB f ++ (textB to ++ (numB am ++ (numB no ++ t))))) := by rw [e]; unfold txP; simp only [List.append_assoc]
  have e1 := getN_at5 l pre _ k pre.length e' rfl (by omega)
  have e2 := getT_at5 l (pre ++ numB k) (textB to ++ (numB am ++ (numB no ++ t))) f _ (by rw [e']; simp) rfl (by omega)
  have e3 := getT_at5 l (pre ++ numB k ++ textB f) (numB am ++ (numB no ++ t)) to _ (by rw [e']; simp) rfl (by omega)
  have e4 := getN_at5 l (pre ++ numB k ++ textB f ++ textB to) (numB no ++ t) am _ (by rw [e']; simp) rfl (by omega)
  have e5 := getN_at5 l (pre ++ numB k ++ textB f ++ textB to ++ numB am) t no _ (by rw [e']; simp) rfl (by omega)
  have h1 := getX_is e1 e2 e3 e4 e5
  rw [back_bytes5, back_bytes5, hok] at h1
  simp only [Bool.and_self, if_true] at h1
  refine ⟨?_, pre ++ txP (k, f, to, am, no), by rw [e, List.append_assoc], ?_⟩
  · show (getX l pre.length).1 = _
    rw [h1]
  · show (if (getX l pre.length).2.2 = true then some (getX l pre.length).2.1 else none) = _
    rw [h1]
    unfold txP
    simp only [if_true, List.length_append, Option.some.injEq]
    omega
theorem rt_list {α : Type} (r : St → α) (n : St → St) (f : α → List UInt8) (l : List UInt8) (xs : List α) (t : List UInt8) (hs : ∀ s x t', x ∈ xs → AtS l s (f x ++ t') → r s = x ∧ AtS l (n s) t') (s : St) (h : AtS l s (xs.flatMap f ++ t)) : ∀ k, k ≤ xs.length → rL r n k s = xs.take k ∧ AtS l (sL n k s) ((xs.drop k).flatMap f ++ t)
  | 0, _ => ⟨by simp [rL], by simpa [sL] using h⟩
  | k + 1, hk => by
    obtain ⟨h1, h2⟩ := rt_list r n f l xs t hs s h k (by omega)
    have hlt : k < xs.length := by omega
    rw [List.drop_eq_getElem_cons hlt, List.flatMap_cons, List.append_assoc] at h2
    obtain ⟨h3, h4⟩ := hs _ _ _ (List.getElem_mem hlt) h2
    refine ⟨?_, h4⟩
    show rL r n k s ++ [r (sL n k s)] = _
    rw [h1, h3, List.take_succ_eq_append_getElem hlt]
theorem rt_all {α : Type} (r : St → α) (n : St → St) (f : α → List UInt8) (l : List UInt8) (xs : List α) (t : List UInt8) (hs : ∀ s x t', x ∈ xs → AtS l s (f x ++ t') → r s = x ∧ AtS l (n s) t') (s : St) (h : AtS l s (xs.flatMap f ++ t)) : rL r n xs.length s = xs ∧ AtS l (sL n xs.length s) t := by
  have := rt_list r n f l xs t hs s h xs.length (Nat.le_refl _)
  rw [List.take_of_length_le (Nat.le_refl _), List.drop_of_length_le (Nat.le_refl _)] at this
  simpa using this
/-- What lies behind the Highs. -/
def tailB (x : Bk) : List UInt8 := numB (x.ts.length : Int) ++ (x.ts.flatMap txP ++ (numB (if x.en = true then 1 else 0) ++ (numB (x.nx.length : Int) ++ (x.nx.flatMap (fun p => textB p.1 ++ numB p.2) ++ (textB x.rt ++ [])))))
theorem blP_right (x : Bk) (h : blB x = true) : blP x = numB x.id ++ (numB x.ep ++ (numB x.rd ++ (textB x.md ++ (numB x.qr ++ (numB x.qb ++ (namesB x.qw ++ (numB x.tr ++ (namesB x.tw ++ (x.th.flatMap numB ++ tailB x))))))))) := by
  unfold blP
  rw [if_pos h]
  simp [n9P, e9P, x9P, t9P, q9P, h9P, hisP, tailB]
theorem names_sz {ls : List ByteArray} (h : tot ls ≤ 160) : ∀ x ∈ ls, x.size ≤ 1000000000 := by
  have hm : ∀ (ls : List ByteArray) (x : ByteArray), x ∈ ls → x.size ≤ tot ls := by
    intro ls
    induction ls with
    | nil => intro x hx; cases hx
    | cons a t ih =>
      intro x hx
      simp only [tot, List.map_cons, List.sum_cons]
      rcases List.mem_cons.1 hx with rfl | hx
      · omega
      · have := ih x hx
        simp only [tot] at this
        omega
  intro x hx
  have := hm ls x hx
  omega
structure Head (x : Bk) (l : List UInt8) : Prop where
  id : rN l (some 0) = x.id
  ep : rN l (y1 l) = x.ep
  rd : rN l (y2 l) = x.rd
  md : rT l (y3 l) = x.md
  qr : rN l (y4 l) = x.qr
  qb : rN l (y5 l) = x.qb
  qw : rS l (y6 l) = x.qw
  tr : rN l (y7 l) = x.tr
  tw : rS l (y8 l) = x.tw
  th : rL (rN l) (sN l) (rS l (y8 l)).length (y9 l) = x.th
  at_ : AtS l (y10 l) (tailB x)
theorem bl_th {x : Bk} (h : blB x = true) : x.th.length = x.tw.length := by
  unfold blB at h
  simp only [Bool.and_eq_true, decide_eq_true_eq] at h
  obtain ⟨h1, h2, h3, h4, h5, h6, h7, h8, h9⟩ := h
  unfold t9B noneB at h6
  simp only [Bool.or_eq_true, Bool.and_eq_true, decide_eq_true_eq] at h6
  rcases h6 with h6 | h6
  · omega
  · exact h6.2.2.1
theorem rt_head {x : Bk} {l : List UInt8} (hb : blB x = true) (hl : blP x = l) : Head x l := by
  have hk := bl_put hb
  have b1 := hk.id
  have b2 := hk.ep
  have b3 := hk.rd
  have b4 := hk.md
  have b5 := hk.qr
  have b6 := hk.qb
  have b7 := hk.qw
  have b8 := hk.tr
  have b9 := hk.tw
  have h0 : AtS l (some 0) (numB x.id ++ (numB x.ep ++ (numB x.rd ++ (textB x.md ++ (numB x.qr ++ (numB x.qb ++ (namesB x.qw ++ (numB x.tr ++ (namesB x.tw ++ (x.th.flatMap numB ++ tailB x)))))))))) := ⟨[], by rw [← hl, blP_right x hb]; rfl, rfl⟩
  obtain ⟨e1, h1⟩ := rt_num h0 (by omega)
  obtain ⟨e2, h2⟩ := rt_num h1 (by omega)
  obtain ⟨e3, h3⟩ := rt_num h2 (by omega)
  obtain ⟨e4, h4⟩ := rt_text h3 (by omega)
  obtain ⟨e5, h5⟩ := rt_num h4 (by omega)
  obtain ⟨e6, h6⟩ := rt_num h5 (by omega)
  obtain ⟨e7, h7⟩ := rt_names h6 (by omega) (names_sz b7.2)
  obtain ⟨e8, h8⟩ := rt_num h7 (by omega)
  obtain ⟨e9, h9⟩ := rt_names h8 (by omega) (names_sz b9.2)
  obtain ⟨e10, h10⟩ := rt_all (rN l) (sN l) numB l x.th (tailB x) (fun s y t' hy hat => rt_num hat (by have := hk.hb y hy; omega)) _ h9
  have ht : (rS l (y8 l)).length = x.th.length := by rw [show rS l (y8 l) = x.tw from e9, bl_th hb]
  exact ⟨e1, e2, e3, e4, e5, e6, e7, e8, e9, by rw [ht]; exact e10, by unfold y10; rw [ht]; exact h10⟩
theorem bl_tx {x : Bk} (h : blB x = true) : ∀ t ∈ x.ts, txB t = true := by
  unfold blB at h
  simp only [Bool.and_eq_true, decide_eq_true_eq] at h
  have h8 := h.2.2.2.2.2.2.2.1
  rwa [List.all_eq_true] at h8
theorem en_val (b : Bool) : decide ((if b = true then (1 : Int) else 0) = 1) = b := by cases b <;> rfl
theorem rt_vals {l : List UInt8} {x : Bk} (hk : PutK x) (s : St) (t : List UInt8) (h : AtS l s (x.nx.flatMap (fun p => textB p.1 ++ numB p.2) ++ t)) : rL (rV l) (sV l) x.nx.length s = x.nx ∧ AtS l (sL (sV l) x.nx.length s) t :=
  rt_all (rV l) (sV l) (fun p : Vl => textB p.1 ++ numB p.2) l x.nx t (fun s p t' hp hat => by
    have hb := hk.nb p hp
    rw [List.append_assoc] at hat
    obtain ⟨e1, h1⟩ := rt_text hat (by omega)
    obtain ⟨e2, h2⟩ := rt_num h1 (by omega)
    exact ⟨by unfold rV; rw [e1, e2], h2⟩) s h
/-- What was put comes back: by the landed code's reader. -/
theorem gI_put {x : Bk} {l : List UInt8} (hb : blB x = true) (hl : blP x = l) : gI l = (x, true) := by
  have hk := bl_put hb
  have b1 := hk.ts
  have b2 := hk.nx
  have b3 := hk.rt
  obtain ⟨e1, e2, e3, e4, e5, e6, e7, e8, e9, e10, h10⟩ := rt_head hb hl
  obtain ⟨f1, g1⟩ := rt_num h10 (by omega)
  have c1 : cI l 4 (y10 l) = (x.ts.length : Int) := by
    unfold cI inB; rw [f1, if_pos (by simp; omega)]
  have s1 : i11 l = sN l (y10 l) := by
    unfold i11 sC inB; rw [f1, if_pos (by simp; omega)]
  obtain ⟨f2, g2⟩ := rt_all (rX l) (sX l) txP l x.ts _ (fun s t t' ht hat => rt_tx hat (bl_tx hb t ht)) _ g1
  have s2 : i12 l = sL (sX l) x.ts.length (sN l (y10 l)) := by unfold i12; rw [c1, s1, Int.toNat_natCast]
  obtain ⟨f3, g3⟩ := rt_num g2 (by cases x.en <;> simp)
  obtain ⟨f4, g4⟩ := rt_num g3 (by omega)
  have s3 : i13 l = sN l (sL (sX l) x.ts.length (sN l (y10 l))) := by unfold i13; rw [s2]
  have c2 : cI l 12 (i13 l) = (x.nx.length : Int) := by
    unfold cI inB; rw [s3, f4, if_pos (by simp; omega)]
  have s4 : i14 l = sN l (i13 l) := by
    unfold i14 sC inB; rw [s3, f4, if_pos (by simp; omega)]
  rw [← s3] at g4
  obtain ⟨f5, g5⟩ := rt_vals hk _ _ g4
  have s5 : i15 l = sL (sV l) x.nx.length (sN l (i13 l)) := by unfold i15; rw [c2, s4, Int.toNat_natCast]
  obtain ⟨f6, g6⟩ := rt_text g5 (by omega)
  have hB : bI l = x := by
    unfold bI
    rw [e1, e2, e3, e4, e5, e6, e7, e8, e10, e9, c1, s1, Int.toNat_natCast, f2, s2, f3, en_val, c2, s4, Int.toNat_natCast, f5, s5, f6]
  obtain ⟨pre, -, hs⟩ := g6
  have hsome : (i16 l).isSome = true := by unfold i16; rw [s5, hs]; rfl
  unfold gI
  rw [hsome, hB, hl, decide_eq_true rfl]
  rfl
/-- .. and by the model's. -/
theorem gS_put {x : Bk} {l : List UInt8} (hb : blB x = true) (hl : blP x = l) : gS l = (x, true) := by
  have hk := bl_put hb
  have b1 := hk.ts
  have b2 := hk.nx
  have b3 := hk.rt
  obtain ⟨e1, e2, e3, e4, e5, e6, e7, e8, e9, e10, h10⟩ := rt_head hb hl
  obtain ⟨f1, g1⟩ := rt_num h10 (by omega)
  have c1 : few (rN l (y10 l)) 5 = x.ts.length := by unfold few; rw [f1, Int.toNat_natCast]; omega
  obtain ⟨f2, g2⟩ := rt_all (rX l) (sX l) txP l x.ts _ (fun s t t' ht hat => rt_tx hat (bl_tx hb t ht)) _ g1
  have s2 : j12 l = sL (sX l) x.ts.length (sN l (y10 l)) := by unfold j12 j11; rw [c1]
  obtain ⟨f3, g3⟩ := rt_num g2 (by cases x.en <;> simp)
  obtain ⟨f4, g4⟩ := rt_num g3 (by omega)
  have s3 : j13 l = sN l (sL (sX l) x.ts.length (sN l (y10 l))) := by unfold j13; rw [s2]
  have c2 : few (rN l (j13 l)) 13 = x.nx.length := by unfold few; rw [s3, f4, Int.toNat_natCast]; omega
  rw [← s3] at g4
  obtain ⟨f5, g5⟩ := rt_vals hk _ _ g4
  have s5 : j15 l = sL (sV l) x.nx.length (sN l (j13 l)) := by unfold j15 j14; rw [c2]
  obtain ⟨f6, g6⟩ := rt_text g5 (by omega)
  have hB : bS l = x := by
    unfold bS
    have s1 : j11 l = sN l (y10 l) := rfl
    have s4 : j14 l = sN l (j13 l) := rfl
    rw [e1, e2, e3, e4, e5, e6, e7, e8, e10, e9, c1, s1, f2, s2, f3, en_val, c2, s4, f5, s5, f6]
  obtain ⟨pre, -, hs⟩ := g6
  have hsome : (j16 l).isSome = true := by unfold j16; rw [s5, hs]; rfl
  unfold gS
  rw [hsome, hB, hb, hl, decide_eq_true rfl]
  rfl
theorem sC_none (l : List UInt8) (m : Int) : sC l m none = none := by unfold sC; split <;> rfl
theorem no_bytes : (i16 []).isSome = false := by
  have e1 : y1 [] = none := by
    show (if (getN [] 0).2.2 = true then some (getN [] 0).2.1 else none) = none
    have : getN [] 0 = (0, 0, false) := by unfold getN; simp
    rw [this]; rfl
  have e2 : y2 [] = none := by unfold y2; rw [e1]; rfl
  have e3 : y3 [] = none := by unfold y3; rw [e2]; rfl
  have e4 : y4 [] = none := by unfold y4; rw [e3]; rfl
  have e5 : y5 [] = none := by unfold y5; rw [e4]; rfl
  have e6 : y6 [] = none := by unfold y6; rw [e5]; rfl
  have e7 : y7 [] = none := by unfold y7; rw [e6]; rfl
  have e8 : y8 [] = none := by unfold y8; rw [e7]; rfl
  have e9 : y9 [] = none := by unfold y9; rw [e8]; rfl
  have e10 : y10 [] = none := by unfold y10; rw [e9]; exact sL_none _ rfl _
  have e11 : i11 [] = none := by unfold i11; rw [e10]; exact sC_none _ _
  have e12 : i12 [] = none := by unfold i12; rw [e11]; exact sL_none _ rfl _
  have e13 : i13 [] = none := by unfold i13; rw [e12]; rfl
  have e14 : i14 [] = none := by unfold i14; rw [e13]; exact sC_none _ _
  have e15 : i15 [] = none := by unfold i15; rw [e14]; exact sL_none _ rfl _
  have e16 : i16 [] = none := by unfold i16; rw [e15]; rfl
  rw [e16]; rfl
/-- Both answer alike. -/
theorem g_same (l : List UInt8) : gI l = gS l := by
  by_cases h1 : ((i16 l).isSome && decide (blP (bI l) = l)) = true
  · have h := h1
    simp only [Bool.and_eq_true, decide_eq_true_eq] at h
    have hb : blB (bI l) = true := by
      by_cases hb : blB (bI l) = true
      · exact hb
      · have e : blP (bI l) = [] := by unfold blP; rw [if_neg hb]
        have h2 := h.2
        rw [e] at h2
        rw [← h2, no_bytes] at h
        exact absurd h.1 (by simp)
    rw [gS_put hb h.2]
    unfold gI
    rw [if_pos h1]
  · by_cases h2 : ((j16 l).isSome && (blB (bS l) && decide (blP (bS l) = l))) = true
    · have h := h2
      simp only [Bool.and_eq_true, decide_eq_true_eq] at h
      rw [gI_put h.2.1 h.2.2]
      unfold gS
      rw [if_pos h2]
    · unfold gI gS
      rw [if_neg h1, if_neg h2]
/-- What is answered as a block is right, and has these bytes. -/
theorem gI_right {l : List UInt8} (h : (gI l).2 = true) : blB (gI l).1 = true ∧ blP (gI l).1 = l := by
  rw [g_same] at h ⊢
  unfold gS at h ⊢
  split at h
  · rename_i h2
    rw [if_pos h2]
    simp only [Bool.and_eq_true, decide_eq_true_eq] at h2
    exact h2.2
  · exact absurd h (by simp)
end Go.Proofs.YtkjlmnhdmlolmaaGreatDoor

namespace Go.Proofs.YtkjlmnhdmlolmaaGreatDoor
open Go.RowKit
set_option linter.unusedVariables false

theorem getT_sz (l : List UInt8) (p : Int) : (getT l p).1.length ≤ l.length := by
  unfold getT
  split
  · simp only [List.length_take, List.length_drop]; omega
  · simp
theorem mkB_size (l : List UInt8) : (⟨l.toArray⟩ : ByteArray).size = l.length := by simp [ByteArray.size]
theorem rT_sz (l : List UInt8) (s : St) : (rT l s).size ≤ l.length := by
  cases s with
  | none => show (⟨#[]⟩ : ByteArray).size ≤ _; simp [ByteArray.size]
  | some p => show (⟨(getT l p).1.toArray⟩ : ByteArray).size ≤ _; rw [mkB_size]; exact getT_sz l p
theorem getL_sz (l : List UInt8) : ∀ (n : Nat) (q : Int) (acc a : List ByteArray) (x : Int), (∀ y ∈ acc, y.size ≤ l.length) → getL n l q acc = some (a, x) → ∀ y ∈ a, y.size ≤ l.length := by
  intro n
  induction n with
  | zero => intro q acc a x h e; simp only [getL, Option.some.injEq, Prod.mk.injEq] at e; rw [← e.1]; exact h
  | succ n ih =>
    intro q acc a x h e
    unfold getL at e
    split at e
    · refine ih _ _ _ _ ?_ e
      intro y hy
      rcases List.mem_append.1 hy with hy | hy
      · exact h y hy
      · rw [List.mem_singleton.1 hy, mkB_size]; exact getT_sz l q
    · cases e
theorem rS_sz (l : List UInt8) (s : St) : ∀ y ∈ rS l s, y.size ≤ l.length := by
  cases s with
  | none => intro y hy; cases hy
  | some p =>
    show ∀ y ∈ (getNs l p).1, y.size ≤ l.length
    unfold getNs
    split
    · split
      · intro y hy; cases hy
      · rename_i a q hq
        exact getL_sz l _ _ _ _ _ (fun y hy => by cases hy) hq
    · intro y hy; cases hy
theorem rS_len (l : List UInt8) (s : St) : (rS l s).length ≤ 100 := by
  cases s with
  | none => simp [rS]
  | some p => exact getNs_len l p
theorem rX_sz (l : List UInt8) (s : St) : (rX l s).2.1.size ≤ l.length ∧ (rX l s).2.2.1.size ≤ l.length := by
  cases s with
  | none => exact ⟨Nat.zero_le _, Nat.zero_le _⟩
  | some p =>
    show (getX l p).1.2.1.size ≤ _ ∧ (getX l p).1.2.2.1.size ≤ _
    unfold getX
    split
    · split
      · simp only [mkB_size]
        exact ⟨getT_sz _ _, getT_sz _ _⟩
      · exact ⟨Nat.zero_le _, Nat.zero_le _⟩
    · exact ⟨Nat.zero_le _, Nat.zero_le _⟩
theorem rL_all {α : Type} (r : St → α) (n : St → St) (P : α → Prop) (h : ∀ s, P (r s)) (s : St) : ∀ k, ∀ x ∈ rL r n k s, P x
  | 0, x, hx => by cases hx
  | k + 1, x, hx => by
    rcases List.mem_append.1 hx with hx | hx
    · exact rL_all r n P h s k x hx
    · rw [List.mem_singleton.1 hx]; exact h _
theorem rN_bd (l : List UInt8) (s : St) : -1000000000 ≤ rN l s ∧ rN l s ≤ 1000000000 := by
  cases s with
  | none => simp [rN]
  | some p => exact ⟨(getN_bd l p).1, (getN_bd l p).2.1⟩
theorem cI_few (l : List UInt8) (m : Int) (s : St) (hm : 0 ≤ m) : (cI l m s).toNat ≤ m.toNat := by
  unfold cI inB
  split
  · rename_i h
    simp only [decide_eq_true_eq] at h
    omega
  · simp
theorem few_bI (l : List UInt8) (hl : l.length ≤ 4000000) : FewK (bI l) := by
  have hm : 4000000 ≤ maxLen := by unfold maxLen; omega
  refine ⟨?_, ?_, ?_, ?_, ?_, ?_, ?_, ?_, ?_, ?_, ?_⟩
  · have := rS_len l (y6 l); show (rS l (y6 l)).length ≤ _; omega
  · have := rS_len l (y8 l); show (rS l (y8 l)).length ≤ _; omega
  · have := rS_len l (y8 l); show (rL (rN l) (sN l) (rS l (y8 l)).length (y9 l)).length ≤ _; rw [rL_len]; omega
  · have := cI_few l 4 (y10 l) (by omega); show (rL (rX l) (sX l) (cI l 4 (y10 l)).toNat (i11 l)).length ≤ _; rw [rL_len]; omega
  · have := cI_few l 12 (i13 l) (by omega); show (rL (rV l) (sV l) (cI l 12 (i13 l)).toNat (i14 l)).length ≤ _; rw [rL_len]; omega
  · intro s hs; have := rS_sz l (y6 l) s hs; omega
  · intro s hs; have := rS_sz l (y8 l) s hs; omega
  · intro t ht; have := rL_all (rX l) (sX l) (fun t : Tx5 => t.2.1.size ≤ l.length ∧ t.2.2.1.size ≤ l.length) (rX_sz l) _ _ t ht; omega
  · intro p hp; have := rL_all (rV l) (sV l) (fun p : Vl => p.1.size ≤ l.length) (fun s => rT_sz l s) _ _ p hp; omega
  · have := rT_sz l (y3 l); show (rT l (y3 l)).size ≤ _; omega
  · have := rT_sz l (i15 l); show (rT l (i15 l)).size ≤ _; omega
theorem few_bS (l : List UInt8) (hl : l.length ≤ 4000000) : FewK (bS l) := by
  have hm : 4000000 ≤ maxLen := by unfold maxLen; omega
  refine ⟨?_, ?_, ?_, ?_, ?_, ?_, ?_, ?_, ?_, ?_, ?_⟩
  · have := rS_len l (y6 l); show (rS l (y6 l)).length ≤ _; omega
  · have := rS_len l (y8 l); show (rS l (y8 l)).length ≤ _; omega
  · have := rS_len l (y8 l); show (rL (rN l) (sN l) (rS l (y8 l)).length (y9 l)).length ≤ _; rw [rL_len]; omega
  · show (rL (rX l) (sX l) (few (rN l (y10 l)) 5) (j11 l)).length ≤ _; rw [rL_len]; unfold few; omega
  · show (rL (rV l) (sV l) (few (rN l (j13 l)) 13) (j14 l)).length ≤ _; rw [rL_len]; unfold few; omega
  · intro s hs; have := rS_sz l (y6 l) s hs; omega
  · intro s hs; have := rS_sz l (y8 l) s hs; omega
  · intro t ht; have := rL_all (rX l) (sX l) (fun t : Tx5 => t.2.1.size ≤ l.length ∧ t.2.2.1.size ≤ l.length) (rX_sz l) _ _ t ht; omega
  · intro p hp; have := rL_all (rV l) (sV l) (fun p : Vl => p.1.size ≤ l.length) (fun s => rT_sz l s) _ _ p hp; omega
  · have := rT_sz l (y3 l); show (rT l (y3 l)).size ≤ _; omega
  · have := rT_sz l (j15 l); show (rT l (j15 l)).size ≤ _; omega
theorem Tryz.strNil9 (w : World) : (convert 22 9 (.slice none 0 0)).run Tryz.prog w = .ok (.string ⟨#[]⟩) w := by kernel_rfl
theorem str_any (w : World) (v : Value) (l : List UInt8) (h : RdB w v l) : (convert 22 9 v).run Tryz.prog w = .ok (.string ⟨l.toArray⟩) w := by
  rcases h with ⟨a, cap, rfl, rfl, hn⟩ | ⟨b, off, cap, hne, rfl, h1, h2, h3, h4⟩
  · cases a with
    | none =>
      have hc := hn rfl
      subst hc
      exact Tryz.strNil9 w
    | some ad =>
      have := run_convert_bytes_back (P := Tryz.prog) w 22 9 5 ad cap [] Tryz.underlying22 Tryz.underlying5 Tryz.underlying9 (by intro j hj; simp at hj)
      simpa using this
  · exact run_convert_bytes_back (P := Tryz.prog) w 22 9 5 ⟨b, off, none⟩ cap l Tryz.underlying22 Tryz.underlying5 Tryz.underlying9 (by
      intro j hj
      have ea : (⟨b, off, none⟩ : Addr).add j = ⟨b, off + j, none⟩ := by
        by_cases hz : j = 0
        · subst hz; simp [Addr.add]
        · simp [Addr.add, hz]
      rw [ea, h4 j hj])
set_option maxRecDepth 20000 in
theorem equalB_any (v1 v2 : Value) (l1 l2 : List UInt8) (w : World) (h1 : RdB w v1 l1) (h2 : RdB w v2 l2) :
    Calls Tryz.prog 125 #[v1, v2] w fun e w' => e = .returned (.bool (decide (l1 = l2))) ∧ w' = w := by
  have c1 := str_any w v1 l1 h1
  have c2 := str_any w v2 l2 h2
  by_cases he : l1 = l2
  · subst he
    have Hf : Hid (decide (l1 = l1) = true) := hide (decide_eq_true rfl)
    generalize decide (l1 = l1) = X at Hf ⊢
    go_enter Tryz.func125, Tryz.ntmps125
    go_wp2
    go_ret
    exact ⟨ret_bool Hf.out.symm, rfl⟩
  · have Hf : Hid (decide (l1 = l2) = false) := hide (decide_eq_false he)
    have hq := bytes_ne (a := ⟨l1.toArray⟩) (b := ⟨l2.toArray⟩) (fun e => he (by
      have := congrArg (fun s : ByteArray => s.data.toList) e
      simpa using this))
    generalize decide (l1 = l2) = X at Hf ⊢
    generalize (⟨l1.toArray⟩ : ByteArray) = s1 at c1 hq
    generalize (⟨l2.toArray⟩ : ByteArray) = s2 at c2 hq
    clear he
    go_enter Tryz.func125, Tryz.ntmps125
    go_wp2
    go_ret
    exact ⟨ret_bool Hf.out.symm, rfl⟩
end Go.Proofs.YtkjlmnhdmlolmaaGreatDoor
