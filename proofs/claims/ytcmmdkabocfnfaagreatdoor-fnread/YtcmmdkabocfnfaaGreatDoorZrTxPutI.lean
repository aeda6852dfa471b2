/- The landed code's orders as bytes. -/
import Derived.Test.YtcmmdkabocfnfaaGreatDoorZrTxNums
import Derived.Test.YtcmmdkabocfnfaaGreatDoorZrTxPut
import Derived.Test.YtcmmdkabocfnfaaGreatDoorZrVsOkI
import Derived.Deep.RegionHeldLaw
namespace Go.Proofs.YtcmmdkabocfnfaaGreatDoor
open Go.RowKit
set_option linter.unusedVariables false

theorem c_one5 {V : World} {x : Value} {t : TypeId} {G : Nat} (hG : G = V.heap.size) : (V.alloc (.cells #[x] t)).cell? ⟨G, 0, none⟩ = some x := by
  subst hG
  rw [World.cell?_alloc_at _ _ _ _ rfl]; rfl
theorem c_two50 {V : World} {x y : Value} {t : TypeId} {G : Nat} (hG : G = V.heap.size) : (V.alloc (.cells #[x, y] t)).cell? ⟨G, 0, none⟩ = some x := by
  subst hG
  rw [World.cell?_alloc_at _ _ _ _ rfl]; rfl
theorem c_two51 {V : World} {x y : Value} {t : TypeId} {G : Nat} (hG : G = V.heap.size) : (V.alloc (.cells #[x, y] t)).cell? ⟨G, 1, none⟩ = some y := by
  subst hG
  rw [World.cell?_alloc_at _ _ _ _ rfl]; rfl
theorem b_al5 {B : Nat} {a w : World} {o : Obj} (hB : B ≤ w.heap.size) (h : Below B a w) : Below B a (w.alloc o) := h.alloc hB o
theorem c_drew5 {V : World} {p : Addr} {v : Value} (h : V.cell? p = some v) : V.drew.cell? p = some v := h
theorem c_old5 {V : World} {o : Obj} {p : Addr} {v : Value} (h : V.cell? p = some v) : (V.alloc o).cell? p = some v := by
  rw [World.cell?_alloc_some _ _ _ (by rw [h]; rfl), h]
theorem c_bel5 {V U : World} {B G j : Nat} {v : Value} (hb : Below B V U) (hG : G < B) (h : V.cell? ⟨G, j, none⟩ = some v) : U.cell? ⟨G, j, none⟩ = some v := (hb.cell (p := ⟨G, j, none⟩) hG).trans h
theorem txP_is (k am no : Int) (f to : ByteArray) (l : List UInt8) : l ++ numsB [k] ++ textsB [f, to] ++ numsB [am, no] = l ++ txP (k, f, to, am, no) := by
  simp [numsB, textsB, txP]
set_option maxRecDepth 20000 in
set_option maxHeartbeats 4000000 in
theorem implPutTx_any (v : Value) (l : List UInt8) (t : Tx5) (w : World) (hr : RdB w v l) (hl : l.length ≤ 9000000) (hf : t.2.1.size ≤ 2000000) (ht : t.2.2.1.size ≤ 2000000)
    (b1 : -9223372036854775808 ≤ t.1 ∧ t.1 ≤ 9223372036854775807) (b2 : -9223372036854775808 ≤ t.2.2.2.1 ∧ t.2.2.2.1 ≤ 9223372036854775807) (b3 : -9223372036854775808 ≤ t.2.2.2.2 ∧ t.2.2.2.2 ≤ 9223372036854775807) :
    Calls Tryz.prog 105 #[v, txV t] w fun e w' => ∃ v', e = .returned v' ∧ OwnB w.heap.size w' v' (l ++ (if txB t = true then txP t else [])) ∧ Below w.heap.size w w' := by
  have hT := txAt_new w t
  have HO := hide (fun w => implTxOk_any t w (by unfold maxLen; omega) (by unfold maxLen; omega))
  cases hx : txB t
  · rw [hx] at HO
    rw [if_neg (by simp), List.append_nil]
    obtain ⟨k, f, to, am, no⟩ := t
    simp only [txV] at *
    obtain ⟨w0, hw0⟩ : ∃ w0, w.alloc (.cells #[.int .i64 k, .string f, .string to, .int .i64 am, .int .i64 no] 52) = w0 := ⟨_, rfl⟩
    have hb0 : Below w.heap.size w w0 := by rw [← hw0]; exact (Below.refl _ w).alloc (Nat.le_refl _) _
    rw [hw0] at hT
    obtain ⟨c0, c1, c2, c3, c4⟩ := hT
    simp only at c0 c1 c2 c3 c4
    have hr0 := hide (hr.below hb0 (Nat.le_refl _))
    clear hr hx
    go_enter Tryz.func105, Tryz.ntmps105
    go_wp2_with fail
    refine (HO.out _).mono ?_
    rintro e w1 ⟨rfl, hb1⟩
    have hB1 : Below w.heap.size w w1 := hb0.trans (hb1.mono hb0.size)
    have Hc := hide (copied_any v l w1 (hr0.out.below hb1 (Nat.le_refl _)) (by omega))
    have hs1 := hB1.size
    have HB1 := hide hB1
    clear c0 c1 c2 c3 c4 hb0 hb1 hB1 hr0
    go_wp2_with (go_at_call 131; refine Hc.out.mono ?_; rintro e w2 ⟨v2, rfl, ho2, hb2⟩)
    go_ret
    exact ⟨v2, rfl, OwnB.mono ho2 hs1, HB1.out.trans (hb2.mono hs1)⟩
  · rw [hx] at HO
    rw [if_pos rfl]
    obtain ⟨k, f, to, am, no⟩ := t
    simp only [txV] at *
    obtain ⟨w0, hw0⟩ : ∃ w0, w.alloc (.cells #[.int .i64 k, .string f, .string to, .int .i64 am, .int .i64 no] 52) = w0 := ⟨_, rfl⟩
    have hb0 : Below w.heap.size w w0 := by rw [← hw0]; exact (Below.refl _ w).alloc (Nat.le_refl _) _
    have hs0 : w0.heap.size = w.heap.size + 1 := by rw [← hw0]; simp
    rw [hw0] at hT
    have HT := hide hT
    obtain ⟨c0, c1, c2, c3, c4⟩ := hT
    simp only at c0 c1 c2 c3 c4
    have hr0 := hide (hr.below hb0 (Nat.le_refl _))
    clear hr hx
    go_enter Tryz.func105, Tryz.ntmps105
    go_wp2_with fail
    refine (HO.out _).mono ?_
    rintro e w1 ⟨rfl, hb1⟩
    have hB1 : Below w.heap.size w w1 := hb0.trans (hb1.mono hb0.size)
    have hT1 := HT.out.below hb1 (by omega)
    obtain ⟨d0, d1, d2, d3, d4⟩ := hT1
    simp only at d0 d1 d2 d3 d4
    have hr1 := hide (hr0.out.below hb1 (Nat.le_refl _))
    have hs1 : w.heap.size + 1 ≤ w1.heap.size := by have := hb1.size; omega
    have HB1 := hide hB1
    have hl1 : (numsB [k]).length ≤ 6 := numsB_len [k]
    have hl2 : (textsB [f, to]).length ≤ 4000012 := by
      have := textsB_len [f, to]
      simp [tot] at this; omega
    have htot : tot [f, to] ≤ 10000000 := by simp [tot]; omega
    have Hb1 : Hid (∀ x ∈ [k], -9223372036854775808 ≤ x ∧ x ≤ 9223372036854775807) := hide (by intro x hx; rw [List.mem_singleton.1 hx]; exact b1)
    have Hb3 : Hid (∀ x ∈ [am, no], -9223372036854775808 ≤ x ∧ x ≤ 9223372036854775807) := hide (by
      intro x hx
      rcases List.mem_cons.1 hx with rfl | hx
      · exact b2
      · rw [List.mem_singleton.1 hx]; exact b3)
    have Htx := hide (txP_is k am no f to l)
    have hla : (l ++ numsB [k]).length ≤ 9000006 := by rw [List.length_append]; omega
    have hlb : (l ++ numsB [k] ++ textsB [f, to]).length ≤ 14000000 := by rw [List.length_append, List.length_append]; omega
    clear c0 c1 c2 c3 c4 hb0 hb1 hB1 b1 b2 b3 hl1 hl2 hf ht
    go_wp2
    go_region_held_law (fun w' => w'.cell? ⟨w.heap.size, 0, none⟩ = some (.int .i64 k) ∧ w'.cell? ⟨w.heap.size, 1, none⟩ = some (.string f) ∧ w'.cell? ⟨w.heap.size, 2, none⟩ = some (.string to) ∧ w'.cell? ⟨w.heap.size, 3, none⟩ = some (.int .i64 am) ∧ w'.cell? ⟨w.heap.size, 4, none⟩ = some (.int .i64 no))
      (refine ⟨?_, ?_, ?_, ?_, ?_⟩ <;> exact (by repeat (first | (with_reducible refine c_one5 ?_; first | with_reducible rfl | omega | (simp; done) | (simp; omega)) | (with_reducible refine c_two50 ?_; first | with_reducible rfl | omega | (simp; done) | (simp; omega)) | (with_reducible refine c_two51 ?_; first | with_reducible rfl | omega | (simp; done) | (simp; omega)) | with_reducible refine c_drew5 ?_ | with_reducible refine c_old5 ?_ | (with_reducible refine c_bel5 hb4 ?_ ?_; · (first | omega | (simp; done) | (simp; omega))) | (with_reducible refine c_bel5 hb3 ?_ ?_; · (first | omega | (simp; done) | (simp; omega))) | (with_reducible refine c_bel5 hb2 ?_ ?_; · (first | omega | (simp; done) | (simp; omega))) | with_reducible exact d0 | with_reducible exact d1 | with_reducible exact d2 | with_reducible exact d3 | with_reducible exact d4))) (first
      | (go_at_call 103; refine (putNumsL_any v3 _ [am, no] _ 0 2 _ (ho3.rd.below (by repeat (first | with_reducible exact Below.refl _ _ | with_reducible exact HB3.out | with_reducible exact HB2.out | with_reducible exact HB1.out | with_reducible refine Below.drew ?_ | (with_reducible refine b_al5 ?_ ?_; · (first | omega | (simp; done) | (simp; omega))))) (Nat.le_refl _)) (by omega) (by simp) (by first | omega | (simp; done) | (simp; omega)) (cells_two (by repeat (first | (with_reducible refine c_one5 ?_; first | with_reducible rfl | omega | (simp; done) | (simp; omega)) | (with_reducible refine c_two50 ?_; first | with_reducible rfl | omega | (simp; done) | (simp; omega)) | (with_reducible refine c_two51 ?_; first | with_reducible rfl | omega | (simp; done) | (simp; omega)) | with_reducible refine c_drew5 ?_ | with_reducible refine c_old5 ?_ | (with_reducible refine c_bel5 hb4 ?_ ?_; · (first | omega | (simp; done) | (simp; omega))) | (with_reducible refine c_bel5 hb3 ?_ ?_; · (first | omega | (simp; done) | (simp; omega))) | (with_reducible refine c_bel5 hb2 ?_ ?_; · (first | omega | (simp; done) | (simp; omega))) | with_reducible exact d0 | with_reducible exact d1 | with_reducible exact d2 | with_reducible exact d3 | with_reducible exact d4)) (by repeat (first | (with_reducible refine c_one5 ?_; first | with_reducible rfl | omega | (simp; done) | (simp; omega)) | (with_reducible refine c_two50 ?_; first | with_reducible rfl | omega | (simp; done) | (simp; omega)) | (with_reducible refine c_two51 ?_; first | with_reducible rfl | omega | (simp; done) | (simp; omega)) | with_reducible refine c_drew5 ?_ | with_reducible refine c_old5 ?_ | (with_reducible refine c_bel5 hb4 ?_ ?_; · (first | omega | (simp; done) | (simp; omega))) | (with_reducible refine c_bel5 hb3 ?_ ?_; · (first | omega | (simp; done) | (simp; omega))) | (with_reducible refine c_bel5 hb2 ?_ ?_; · (first | omega | (simp; done) | (simp; omega))) | with_reducible exact d0 | with_reducible exact d1 | with_reducible exact d2 | with_reducible exact d3 | with_reducible exact d4))) Hb3.out).mono ?_; rintro e w4 ⟨v4, rfl, ho4, hb4⟩; have hz4 := hb4.size; (try simp at hz4); have HB4 : Hid (Below w.heap.size w w4) := hide (Below.trans (by repeat (first | with_reducible exact Below.refl _ _ | with_reducible exact HB3.out | with_reducible exact HB2.out | with_reducible exact HB1.out | with_reducible refine Below.drew ?_ | (with_reducible refine b_al5 ?_ ?_; · (first | omega | (simp; done) | (simp; omega))))) (hb4.mono (by first | omega | (simp; done) | (simp; omega)))))
      | (go_at_call 102; refine (putTexts_any v2 _ _ [f, to] _ (ho2.rd.below (by repeat (first | with_reducible exact Below.refl _ _ | with_reducible exact HB3.out | with_reducible exact HB2.out | with_reducible exact HB1.out | with_reducible refine Below.drew ?_ | (with_reducible refine b_al5 ?_ ?_; · (first | omega | (simp; done) | (simp; omega))))) (Nat.le_refl _)) (rd_two_str _ _ f to (by first | omega | (simp; done) | (simp; omega)) (by repeat (first | (with_reducible refine c_one5 ?_; first | with_reducible rfl | omega | (simp; done) | (simp; omega)) | (with_reducible refine c_two50 ?_; first | with_reducible rfl | omega | (simp; done) | (simp; omega)) | (with_reducible refine c_two51 ?_; first | with_reducible rfl | omega | (simp; done) | (simp; omega)) | with_reducible refine c_drew5 ?_ | with_reducible refine c_old5 ?_ | (with_reducible refine c_bel5 hb4 ?_ ?_; · (first | omega | (simp; done) | (simp; omega))) | (with_reducible refine c_bel5 hb3 ?_ ?_; · (first | omega | (simp; done) | (simp; omega))) | (with_reducible refine c_bel5 hb2 ?_ ?_; · (first | omega | (simp; done) | (simp; omega))) | with_reducible exact d0 | with_reducible exact d1 | with_reducible exact d2 | with_reducible exact d3 | with_reducible exact d4)) (by repeat (first | (with_reducible refine c_one5 ?_; first | with_reducible rfl | omega | (simp; done) | (simp; omega)) | (with_reducible refine c_two50 ?_; first | with_reducible rfl | omega | (simp; done) | (simp; omega)) | (with_reducible refine c_two51 ?_; first | with_reducible rfl | omega | (simp; done) | (simp; omega)) | with_reducible refine c_drew5 ?_ | with_reducible refine c_old5 ?_ | (with_reducible refine c_bel5 hb4 ?_ ?_; · (first | omega | (simp; done) | (simp; omega))) | (with_reducible refine c_bel5 hb3 ?_ ?_; · (first | omega | (simp; done) | (simp; omega))) | (with_reducible refine c_bel5 hb2 ?_ ?_; · (first | omega | (simp; done) | (simp; omega))) | with_reducible exact d0 | with_reducible exact d1 | with_reducible exact d2 | with_reducible exact d3 | with_reducible exact d4))) (by omega) (by simp) htot).mono ?_; rintro e w3 ⟨v3, rfl, ho3, hb3⟩; have hz3 := hb3.size; (try simp at hz3); have HB3 : Hid (Below w.heap.size w w3) := hide (Below.trans (by repeat (first | with_reducible exact Below.refl _ _ | with_reducible exact HB3.out | with_reducible exact HB2.out | with_reducible exact HB1.out | with_reducible refine Below.drew ?_ | (with_reducible refine b_al5 ?_ ?_; · (first | omega | (simp; done) | (simp; omega))))) (hb3.mono (by first | omega | (simp; done) | (simp; omega)))))
      | (go_at_call 103; refine (putNumsL_any v l [k] _ 0 1 _ (hr1.out.below (by repeat (first | with_reducible exact Below.refl _ _ | with_reducible exact HB3.out | with_reducible exact HB2.out | with_reducible exact HB1.out | with_reducible refine Below.drew ?_ | (with_reducible refine b_al5 ?_ ?_; · (first | omega | (simp; done) | (simp; omega))))) (Nat.le_refl _)) (by omega) (by simp) (by first | omega | (simp; done) | (simp; omega)) (cells_one (by repeat (first | (with_reducible refine c_one5 ?_; first | with_reducible rfl | omega | (simp; done) | (simp; omega)) | (with_reducible refine c_two50 ?_; first | with_reducible rfl | omega | (simp; done) | (simp; omega)) | (with_reducible refine c_two51 ?_; first | with_reducible rfl | omega | (simp; done) | (simp; omega)) | with_reducible refine c_drew5 ?_ | with_reducible refine c_old5 ?_ | (with_reducible refine c_bel5 hb4 ?_ ?_; · (first | omega | (simp; done) | (simp; omega))) | (with_reducible refine c_bel5 hb3 ?_ ?_; · (first | omega | (simp; done) | (simp; omega))) | (with_reducible refine c_bel5 hb2 ?_ ?_; · (first | omega | (simp; done) | (simp; omega))) | with_reducible exact d0 | with_reducible exact d1 | with_reducible exact d2 | with_reducible exact d3 | with_reducible exact d4))) Hb1.out).mono ?_; rintro e w2 ⟨v2, rfl, ho2, hb2⟩; have hz2 := hb2.size; (try simp at hz2); have HB2 : Hid (Below w.heap.size w w2) := hide (Below.trans (by repeat (first | with_reducible exact Below.refl _ _ | with_reducible exact HB3.out | with_reducible exact HB2.out | with_reducible exact HB1.out | with_reducible refine Below.drew ?_ | (with_reducible refine b_al5 ?_ ?_; · (first | omega | (simp; done) | (simp; omega))))) (hb2.mono (by first | omega | (simp; done) | (simp; omega))))))
    all_goals
      rw [Htx.out] at ho4
      have Ho := hide (OwnB.mono ho4 (show w.heap.size ≤ _ from (by first | omega | (simp; done) | (simp; omega))))
      clear ho4 hb4 hb3 hb2 ho2 ho3
      go_wp2
      go_ret
      exact ⟨v4, rfl, Ho.out, HB4.out⟩
end Go.Proofs.YtcmmdkabocfnfaaGreatDoor
