/- The bytes of a block's certificates, by the model. -/
import Derived.Test.YtcmmdkabocfnfaaGreatDoorZgPutPure
import Derived.Test.YtcmmdkabocfnfaaGreatDoorZgTxSpec
import Derived.Test.YtcmmdkabocfnfaaGreatDoorZgTxPut
import Derived.Deep.RegionHeldLaw
namespace Go.Proofs.YtcmmdkabocfnfaaGreatDoor
open Go.RowKit
set_option linter.unusedVariables false

set_option maxRecDepth 20000 in
set_option maxHeartbeats 1000000 in
theorem specPutQc9_any (v vw : Value) (l : List UInt8) (r b : Int) (ws : List ByteArray) (w : World) (hr : RdB w v l) (hrw : RdS w vw ws) (hl : l.length ≤ 1000000) (hlw : ws.length ≤ 1000) (ht : tot ws ≤ 100000)
    (br : -9223372036854775808 ≤ r ∧ r ≤ 9223372036854775807) (bb : -9223372036854775808 ≤ b ∧ b ≤ 9223372036854775807) :
    Calls Tryz.prog 77 #[v, qcV r b vw] w fun e w' => ∃ v', e = .returned v' ∧ OwnB w.heap.size w' v' (l ++ numB r ++ numB b ++ namesB ws) ∧ Below w.heap.size w w' := by
  obtain ⟨a, c, rfl⟩ := hrw.shape
  simp only [qcV]
  obtain ⟨w1, hw1⟩ : ∃ x, w.alloc (.cells #[.int .i64 r, .int .i64 b, .slice a ws.length c] 25) = x := ⟨_, rfl⟩
  have b1 : Below w.heap.size w w1 := by rw [← hw1]; exact (Below.refl _ w).alloc (Nat.le_refl _) _
  have k1 : Blk w1 w.heap.size 25 [.int .i64 r, .int .i64 b, .slice a ws.length c] := by rw [← hw1]; exact Blk.new w _ _
  have HS : Hid (∀ V, Below w1.heap.size w1 V → (V.cell? ⟨w.heap.size, 0, none⟩ = some (.int .i64 r) ∧ V.cell? ⟨w.heap.size, 1, none⟩ = some (.int .i64 b) ∧ V.cell? ⟨w.heap.size, 2, none⟩ = some (.slice a ws.length c))) := hide (fun V hb => ⟨(k1.below hb k1.lt).cell 0, (k1.below hb k1.lt).cell 1, (k1.below hb k1.lt).cell 2⟩)
  have bD : Below w1.heap.size w1 w1.drew := (Below.refl _ w1).drew
  have HP1 := hide (specPutNum_any v l r w1.drew ((hr.below b1 (Nat.le_refl _)).below bD (Nat.le_refl _)) (by omega) br.1 br.2)
  have HP2 := hide (fun V u (h : RdB V u (l ++ numB r)) => specPutNum_any u (l ++ numB r) b V h (by have := numB_len r; simp only [List.length_append]; omega) bb.1 bb.2)
  have HP3 := hide (fun V u (h : RdB V u (l ++ numB r ++ numB b)) (hV : Below w.heap.size w V) => specPutNames_any u (.slice a ws.length c) (l ++ numB r ++ numB b) ws V h (hrw.below hV (Nat.le_refl _)) (by have := numB_len r; have := numB_len b; simp only [List.length_append]; omega) (by omega) (by omega))
  have HB1 := hide b1
  clear hr hrw k1 b1
  go_enter Tryz.func77, Tryz.ntmps77
  go_wp2
  clear hw1
  go_region_held_law (fun w' => w'.cell? ⟨w.heap.size, 0, none⟩ = some (.int .i64 r) ∧ w'.cell? ⟨w.heap.size, 1, none⟩ = some (.int .i64 b) ∧ w'.cell? ⟨w.heap.size, 2, none⟩ = some (.slice a ws.length c)) ((refine HS.out _ ?_; repeat (first | with_reducible exact bD | with_reducible exact c3 | with_reducible exact c2 | with_reducible exact c1 | with_reducible exact Below.refl _ _ | refine Below.drew ?_))) ((first
    | (go_at_call 120; refine (HP3.out u2 v2 o2.rd (HB1.out.trans (c2.mono HB1.out.size))).mono ?_; rintro e u3 ⟨v3, rfl, o3, hb3⟩; have c3 := c2.trans (hb3.mono c2.size))
    | (go_at_call 75; refine (HP2.out u1 v1 o1.rd).mono ?_; rintro e u2 ⟨v2, rfl, o2, hb2⟩; have c2 := c1.trans (hb2.mono c1.size))
    | (go_at_call 75; refine HP1.out.mono ?_; rintro e u1 ⟨v1, rfl, o1, hb1⟩; have c1 := bD.trans (hb1.mono bD.size))))
  have HO := hide (OwnB.mono o3 (show w.heap.size ≤ u2.heap.size from Nat.le_trans HB1.out.size c2.size))
  have HB := hide (HB1.out.trans (c3.mono HB1.out.size))
  clear o1 o2 o3 hb1 hb2 hb3 c1 c2 c3
  go_wp2
  go_ret
  exact ⟨_, rfl, HO.out, HB.out⟩
/-- Numbers, one behind the other. -/
def hisP (hs : List Int) : List UInt8 := hs.flatMap numB
theorem hisP_snoc (hs : List Int) (k : Nat) (h : k < hs.length) : hisP (hs.take (k + 1)) = hisP (hs.take k) ++ numB hs[k] := by
  rw [List.take_succ_eq_append_getElem h]; simp only [hisP, List.flatMap_append, List.flatMap_cons, List.flatMap_nil, List.append_nil]
theorem hisP_len : ∀ hs : List Int, (hisP hs).length ≤ 6 * hs.length
  | [] => by simp [hisP]
  | x :: t => by
    have h1 := numB_len x
    have h2 := hisP_len t
    simp only [hisP, List.flatMap_cons, List.length_append, List.length_cons] at h2 ⊢
    omega
set_option maxRecDepth 20000 in
set_option maxHeartbeats 1000000 in
theorem specPutTc9_any (v vw vh : Value) (l : List UInt8) (r : Int) (ws : List ByteArray) (hs : List Int) (w : World) (hr : RdB w v l) (hrw : RdS w vw ws) (hrh : RdI w vh hs) (hl : l.length ≤ 1000000) (hlw : ws.length ≤ 1000) (ht : tot ws ≤ 100000) (hlh : hs.length ≤ 1000)
    (br : -9223372036854775808 ≤ r ∧ r ≤ 9223372036854775807) (bh : ∀ x ∈ hs, -9223372036854775808 ≤ x ∧ x ≤ 9223372036854775807) :
    Calls Tryz.prog 76 #[v, tcV r vw vh] w fun e w' => ∃ v', e = .returned v' ∧ OwnB w.heap.size w' v' (l ++ numB r ++ namesB ws ++ hisP hs) ∧ Below w.heap.size w w' := by
  obtain ⟨a, c, rfl⟩ := hrw.shape
  obtain ⟨ah, ch, rfl⟩ := hrh.shape
  simp only [tcV]
  obtain ⟨w1, hw1⟩ : ∃ x, w.alloc (.cells #[.int .i64 r, .slice a ws.length c, .slice ah hs.length ch] 28) = x := ⟨_, rfl⟩
  have b1 : Below w.heap.size w w1 := by rw [← hw1]; exact (Below.refl _ w).alloc (Nat.le_refl _) _
  have k1 : Blk w1 w.heap.size 28 [.int .i64 r, .slice a ws.length c, .slice ah hs.length ch] := by rw [← hw1]; exact Blk.new w _ _
  have HS : Hid (∀ V, Below w1.heap.size w1 V → (V.cell? ⟨w.heap.size, 0, none⟩ = some (.int .i64 r) ∧ V.cell? ⟨w.heap.size, 1, none⟩ = some (.slice a ws.length c))) := hide (fun V hb => ⟨(k1.below hb k1.lt).cell 0, (k1.below hb k1.lt).cell 1⟩)
  have bD : Below w1.heap.size w1 w1.drew := (Below.refl _ w1).drew
  have HP1 := hide (specPutNum_any v l r w1.drew ((hr.below b1 (Nat.le_refl _)).below bD (Nat.le_refl _)) (by omega) br.1 br.2)
  have HP3 := hide (fun V u (h : RdB V u (l ++ numB r)) (hV : Below w.heap.size w V) => specPutNames_any u (.slice a ws.length c) (l ++ numB r) ws V h (hrw.below hV (Nat.le_refl _)) (by have := numB_len r; simp only [List.length_append]; omega) (by omega) (by omega))
  have hnl := namesB_len ws
  have hrl := numB_len r
  have hz : l ++ numB r ++ namesB ws = l ++ numB r ++ namesB ws ++ hisP (hs.take 0) := by simp [hisP]
  have HB1 := hide b1
  have K1 := hide k1
  have Hh := hide hrh
  have Hbh := hide bh
  clear hr hrw hrh k1 b1 bh
  go_enter Tryz.func76, Tryz.ntmps76
  go_wp2
  clear hw1
  go_region_held_law (fun w' => w'.cell? ⟨w.heap.size, 0, none⟩ = some (.int .i64 r) ∧ w'.cell? ⟨w.heap.size, 1, none⟩ = some (.slice a ws.length c)) ((refine HS.out _ ?_; repeat (first | with_reducible exact bD | with_reducible exact c2 | with_reducible exact c1 | with_reducible exact Below.refl _ _ | refine Below.drew ?_))) ((first
    | (go_at_call 120; refine (HP3.out u1 v1 o1.rd (HB1.out.trans (c1.mono HB1.out.size))).mono ?_; rintro e u2 ⟨v2, rfl, o2, hb2⟩; have c2 := c1.trans (hb2.mono c1.size))
    | (go_at_call 75; refine HP1.out.mono ?_; rintro e u1 ⟨v1, rfl, o1, hb1⟩; have c1 := bD.trans (hb1.mono bD.size))))
  have HO := hide (OwnB.mono o2 (show w.heap.size ≤ u1.heap.size from Nat.le_trans HB1.out.size c1.size))
  have HC := hide c2
  rw [hz] at HO
  clear o1 o2 hb1 hb2 c1 c2 hz
  go_wp2
  go_loopw [0, 5] (fun bv iv wr => ∃ k : Nat, k ≤ hs.length ∧ iv = .int .i64 (k : Int) ∧ OwnB w.heap.size wr bv (l ++ numB r ++ namesB ws ++ hisP (hs.take k)) ∧ Below w1.heap.size w1 wr) (fun _ iv _ => hs.length - (intOf iv).toNat)
  case atStart => exact ⟨0, Nat.zero_le _, rfl, HO.out, HC.out⟩
  case round =>
    obtain ⟨k, hk, rfl, ho, hb⟩ := hrel
    have kr := K1.out.below hb K1.out.lt
    have t2 := kr.cell 2
    simp only [List.getElem?_cons_zero, List.getElem?_cons_succ] at t2
    have HBr := hide (HB1.out.trans (hb.mono HB1.out.size))
    by_cases hlt : k < hs.length
    · obtain ⟨bb, ob, rfl, hc1, hc2, hbb, hcb⟩ := Hh.out.at hlt
      have c0 := (HBr.out.cell (p := ⟨bb, ob + k, none⟩) hbb).trans hcb
      have hli : (k : Int) < (hs.length : Int) := by omega
      have hbx := Hbh.out hs[k] (List.getElem_mem _)
      have Hsn := hide (hisP_snoc hs k hlt)
      have hpl := hisP_len (hs.take k)
      have htk : (hs.take k).length ≤ hs.length := by simp; omega
      generalize hs[k] = x at c0 hcb hbx Hsn
      have HP := hide (specPutNum_any _ (l ++ numB r ++ namesB ws ++ hisP (hs.take k)) x wr ho.rd (by simp only [List.length_append]; omega) hbx.1 hbx.2)
      generalize hisP (hs.take k) = pr at HP Hsn
      have hwr := HBr.out.size
      have Hb := hide hb
      clear ho hb hcb hbx kr
      go_wp2_with fail
      refine HP.out.mono ?_
      rintro e w2 ⟨v2, rfl, o2, hb2⟩
      have HO2 := hide (OwnB.mono o2 hwr)
      have HB2 := hide (Hb.out.trans (hb2.mono Hb.out.size))
      clear o2 hb2 c0 t2
      go_wp2
      go_roundw
      case rel => exact ⟨k + 1, by omega, by go_num, by rw [Hsn.out, ← List.append_assoc]; exact HO2.out, HB2.out⟩
      case measure => simp [intOf]; omega
    · have ek : k = hs.length := by omega
      subst ek
      rw [List.take_length] at ho
      have HO2 := hide ho
      clear ho hb kr
      go_wp2
      go_ret
      exact ⟨_, rfl, HO2.out, HBr.out⟩
end Go.Proofs.YtcmmdkabocfnfaaGreatDoor
