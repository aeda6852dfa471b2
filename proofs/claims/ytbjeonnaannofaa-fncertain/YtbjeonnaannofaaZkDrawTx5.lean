/- Drawn orders. -/
import Derived.Test.YtbjeonnaannofaaZkIn
import Derived.Test.YtbjeonnaannofaaZkTxBlk
namespace Go.Proofs.Ytbjeonnaannofaa
open Go.RowKit
set_option linter.unusedVariables false

theorem blk_notg5 {w w' : World} {B g : Nat} {t : TypeId} {cs : List Value} (h : Blk w B t cs) (hg : w.grownBy w' (some g)) (hne : B ≠ g) : Blk w' B t cs :=
  (hg.block B h.lt (fun e => hne (by injection e))).trans h
theorem below_put5 (W : World) (b : Nat) (y0 y1 y2 y3 y4 : Value) : Below b W (((((W.setCell ⟨b, 0, none⟩ y0).setCell ⟨b, 1, none⟩ y1).setCell ⟨b, 2, none⟩ y2).setCell ⟨b, 3, none⟩ y3).setCell ⟨b, 4, none⟩ y4) :=
  (((((Below.refl _ W).setCell (p := ⟨b, 0, none⟩) (Nat.le_refl _) _).setCell (p := ⟨b, 1, none⟩) (Nat.le_refl _) _).setCell (p := ⟨b, 2, none⟩) (Nat.le_refl _) _).setCell (p := ⟨b, 3, none⟩) (Nat.le_refl _) _).setCell (p := ⟨b, 4, none⟩) (Nat.le_refl _) _
/-- What is drawn is small. -/
def SmT (t : Tx5) : Prop := t.2.1.size ≤ 9 ∧ t.2.2.1.size ≤ 9 ∧ (-10000000 ≤ t.1 ∧ t.1 ≤ 10000000) ∧ (-10000000 ≤ t.2.2.2.1 ∧ t.2.2.2.1 ≤ 10000000) ∧ (-10000000 ≤ t.2.2.2.2 ∧ t.2.2.2.2 ≤ 10000000)
/-- What a draw of an order answers. -/
def DrT (w0 w : World) (g : Nat) (cv : Value) (code : List UInt8) (e : Ending) (w' : World) : Prop := ∃ t : Tx5, e = .returned (txV t) ∧ SmT t ∧ Cur w0 w' g cv code ∧ w.grownBy w' (some g)

set_option maxRecDepth 20000 in
set_option maxHeartbeats 2000000 in
theorem l5Tx_any (w0 w : World) (g : Nat) (cv : Value) (code : List UInt8) (hc : Cur w0 w g cv code) (hl : code.length ≤ 1048576) :
    Calls Try.prog 135 #[.pointer (some ⟨g, 0, none⟩)] w fun e w' => DrT w0 w g cv code e w' := by
  have hgl := hc.lt
  obtain ⟨w1, hw1⟩ : ∃ w1, w.alloc (.cells #[.int .i64 0, .string { data := #[] }, .string { data := #[] }, .int .i64 0, .int .i64 0] 94) = w1 := ⟨_, rfl⟩
  have hb1 : Below w.heap.size w w1 := by rw [← hw1]; exact (Below.refl _ w).alloc (Nat.le_refl _) _
  have hs1 : w1.heap.size = w.heap.size + 1 := by rw [← hw1]; simp
  have K1 : Hid (Blk w1 w.heap.size 94 [.int .i64 0, .string { data := #[] }, .string { data := #[] }, .int .i64 0, .int .i64 0]) := hide (by rw [← hw1]; exact Blk.new w _ _)
  have Hc1 := hide (hc.below hb1 hgl)
  have HG1 := hide (grw_of_below (some g) hb1 (Nat.le_refl _))
  clear hc hb1
  go_enter Try.func135, Try.ntmps135
  go_wp2_with fail
  refine (l1Below_any w0 _ g cv code 3 Hc1.out hl (by omega) (by omega)).mono ?_
  rintro e w2 ⟨x, rfl, hx, -, hc2, hg2⟩
  have hx3 : (x : Int) < 3 := hx (by omega)
  have K2 := hide (blk_notg5 K1.out hg2 (by omega))
  have HG2 := hide (grw_trans HG1.out hg2)
  have hs2 := hg2.size
  clear hg2 hx K1 HG1 Hc1
  go_wp2_with fail
  refine (l1Name_any w0 _ g cv code hc2 hl).mono ?_
  rintro e w3 ⟨f, rfl, hf9, hc3, hg3⟩
  have K3 := hide (blk_notg5 K2.out hg3 (by omega))
  have HG3 := hide (grw_trans HG2.out hg3)
  have hs3 := hg3.size
  obtain ⟨w4, hw4⟩ : ∃ w4, w3.alloc (.cells #[.int .i64 1, .int .i64 5, .int .i64 10, .int .i64 3, .int .i64 200] 3) = w4 := ⟨_, rfl⟩
  have hb4 : Below w3.heap.size w3 w4 := by rw [← hw4]; exact (Below.refl _ w3).alloc (Nat.le_refl _) _
  have HI4 : Hid (IntsAt w4 w3.heap.size [1, 5, 10, 3, 200]) := hide (by rw [← hw4]; exact ints_new w3 [1, 5, 10, 3, 200] 3)
  have Hc4 := hide (hc3.below hb4 hc3.lt)
  have K4 := hide (K3.out.below hb4 (by omega))
  have HG4 := hide (grw_trans HG3.out (grw_of_below (some g) hb4 (Nat.le_refl _)))
  have hs4 := hb4.size
  clear hc2 hc3 hg3 hb4 K2 K3 HG2 HG3
  go_wp2_with fail
  refine (l1Int_any w0 _ g w3.heap.size cv code [1, 5, 10, 3, 200] Hc4.out hl HI4.out (by omega) (by simp) (by simp) 5).mono ?_
  rintro e w5 ⟨am, rfl, ham, hc5, hg5⟩
  have hamb : 0 ≤ am ∧ am ≤ 200 := by simp at ham; omega
  have K5 := hide (blk_notg5 K4.out hg5 (by omega))
  have HG5 := hide (grw_trans HG4.out hg5)
  have hs5 := hg5.size
  clear ham hg5 K4 HG4 Hc4 HI4
  go_wp2_with fail
  refine (l1Below_any w0 _ g cv code 4 hc5 hl (by omega) (by omega)).mono ?_
  rintro e w6 ⟨no, rfl, hno, -, hc6, hg6⟩
  have hno4 : (no : Int) < 4 := hno (by omega)
  have hk6 := blk_notg5 K5.out hg6 (by omega)
  have hG6 := grw_trans HG5.out hg6
  have hs6 := hg6.size
  have hT7 := Blk.new w6 94 [.int .i64 (1 + (x : Int)), .string f, .string { data := #[] }, .int .i64 am, .int .i64 (no : Int)]
  have hb7 : Below w6.heap.size w6 (w6.alloc (.cells #[.int .i64 (1 + (x : Int)), .string f, .string { data := #[] }, .int .i64 am, .int .i64 (no : Int)] 94)) := (Below.refl _ w6).alloc (Nat.le_refl _) _
  have hk7 := hk6.below hb7 (by omega)
  have Hc7 := hide (hc6.below hb7 hc6.lt)
  have HG7 := hide (grw_trans hG6 (grw_of_below (some g) hb7 (Nat.le_refl _)))
  clear hc5 hg6 hno K5 HG5 hc6 hG6 hk6 hb7
  by_cases hx0 : x = 0
  · subst hx0
    have HK := hide hk7
    have HT := hide hT7
    clear hk7 hT7
    go_wp2_with fail
    refine (l1Name_any w0 _ g cv code Hc7.out hl).mono ?_
    rintro e w8 ⟨tO, rfl, ht9, hc8, hg8⟩
    have hk7 := blk_notg5 HK.out hg8 (by omega)
    have hT7 := blk_notg5 HT.out hg8 (by omega)
    have HG8 := hide (grw_trans HG7.out hg8)
    have Hc8 := hide hc8
    have hs8 := hg8.size
    clear HK HT HG7 Hc7 hc8 hg8
    have r0 := hk7.cell 0
    have fr0 := hk7.frozen 0
    have r1 := hk7.cell 1
    have fr1 := hk7.frozen 1
    have r2 := hk7.cell 2
    have fr2 := hk7.frozen 2
    have r3 := hk7.cell 3
    have fr3 := hk7.frozen 3
    have r4 := hk7.cell 4
    have fr4 := hk7.frozen 4
    have t0 := hT7.cell 0
    have ft0 := hT7.frozen 0
    have t1 := hT7.cell 1
    have ft1 := hT7.frozen 1
    have t2 := hT7.cell 2
    have ft2 := hT7.frozen 2
    have t3 := hT7.cell 3
    have ft3 := hT7.frozen 3
    have t4 := hT7.cell 4
    have ft4 := hT7.frozen 4
    simp only [List.getElem?_cons_zero, List.getElem?_cons_succ] at r0 r1 r2 r3 r4 t0 t1 t2 t3 t4
    go_wp2
    refine bodyPost_ret (v := txV (1, f, tO, am, (no : Int))) (by simp [results, Try.f135, go_sem, txV, r0, r1, r2, r3, r4]) rfl ?_
    have hbR := ((Below.refl w.heap.size w8).setCell (p := ⟨w6.heap.size, 2, none⟩) (show w.heap.size ≤ w6.heap.size by omega) (.string tO)).trans (below_put5 (w8.setCell ⟨w6.heap.size, 2, none⟩ (.string tO)) w.heap.size (.int .i64 1) (.string f) (.string tO) (.int .i64 am) (.int .i64 (no : Int)))
    exact ⟨(1, f, tO, am, (no : Int)), rfl, by unfold SmT; simp only; omega, Hc8.out.below hbR hgl, grw_below HG8.out hbR (Nat.le_refl _)⟩
  · have hne : ((1 + (x : Int)) == 1) = false := by rw [beq_eq_false_iff_ne]; omega
    have r0 := hk7.cell 0
    have fr0 := hk7.frozen 0
    have r1 := hk7.cell 1
    have fr1 := hk7.frozen 1
    have r2 := hk7.cell 2
    have fr2 := hk7.frozen 2
    have r3 := hk7.cell 3
    have fr3 := hk7.frozen 3
    have r4 := hk7.cell 4
    have fr4 := hk7.frozen 4
    have t0 := hT7.cell 0
    have ft0 := hT7.frozen 0
    have t1 := hT7.cell 1
    have ft1 := hT7.frozen 1
    have t2 := hT7.cell 2
    have ft2 := hT7.frozen 2
    have t3 := hT7.cell 3
    have ft3 := hT7.frozen 3
    have t4 := hT7.cell 4
    have ft4 := hT7.frozen 4
    simp only [List.getElem?_cons_zero, List.getElem?_cons_succ] at r0 r1 r2 r3 r4 t0 t1 t2 t3 t4
    go_wp2
    refine bodyPost_ret (v := txV (1 + (x : Int), f, ByteArray.empty, am, (no : Int))) (by simp [results, Try.f135, go_sem, txV, r0, r1, r2, r3, r4]; rfl) rfl ?_
    have hbR := below_put5 (w6.alloc (.cells #[.int .i64 (1 + (x : Int)), .string f, .string { data := #[] }, .int .i64 am, .int .i64 (no : Int)] 94)) w.heap.size (.int .i64 (1 + (x : Int))) (.string f) (.string { data := #[] }) (.int .i64 am) (.int .i64 (no : Int))
    exact ⟨(1 + (x : Int), f, ByteArray.empty, am, (no : Int)), rfl, by unfold SmT; simp only [ByteArray.size_empty]; omega, Hc7.out.below hbR hgl, grw_below HG7.out hbR (Nat.le_refl _)⟩
set_option maxRecDepth 20000 in
set_option maxHeartbeats 2000000 in
theorem l5Any_any (w0 w : World) (g : Nat) (cv : Value) (code : List UInt8) (hc : Cur w0 w g cv code) (hl : code.length ≤ 1048576) :
    Calls Try.prog 140 #[.pointer (some ⟨g, 0, none⟩)] w fun e w' => DrT w0 w g cv code e w' := by
  have hgl := hc.lt
  obtain ⟨w1, hw1⟩ : ∃ w1, w.alloc (.cells #[.int .i64 0, .string { data := #[] }, .string { data := #[] }, .int .i64 0, .int .i64 0] 94) = w1 := ⟨_, rfl⟩
  have hb1 : Below w.heap.size w w1 := by rw [← hw1]; exact (Below.refl _ w).alloc (Nat.le_refl _) _
  have hs1 : w1.heap.size = w.heap.size + 1 := by rw [← hw1]; simp
  have K1 : Hid (Blk w1 w.heap.size 94 [.int .i64 0, .string { data := #[] }, .string { data := #[] }, .int .i64 0, .int .i64 0]) := hide (by rw [← hw1]; exact Blk.new w _ _)
  have Hc1 := hide (hc.below hb1 hgl)
  have HG1 := hide (grw_of_below (some g) hb1 (Nat.le_refl _))
  clear hc hb1
  go_enter Try.func140, Try.ntmps140
  go_wp2_with fail
  refine (l5Tx_any w0 _ g cv code Hc1.out hl).mono ?_
  rintro e w2 ⟨⟨k, f, tO, am, no⟩, rfl, hsm, hc2, hg2⟩
  have hs2 := hg2.size
  obtain ⟨w3, hw3⟩ : ∃ w3, w2.alloc (.cells #[.int .i64 k, .string f, .string tO, .int .i64 am, .int .i64 no] 94) = w3 := ⟨_, rfl⟩
  have hb3 : Below w2.heap.size w2 w3 := by rw [← hw3]; exact (Below.refl _ w2).alloc (Nat.le_refl _) _
  have hs3 : w3.heap.size = w2.heap.size + 1 := by rw [← hw3]; simp
  have T3 : Hid (Blk w3 w2.heap.size 94 [.int .i64 k, .string f, .string tO, .int .i64 am, .int .i64 no]) := hide (by rw [← hw3]; exact Blk.new w2 _ _)
  have K3 := hide ((blk_notg5 K1.out hg2 (by omega)).below hb3 (by omega))
  have Hc3 := hide (hc2.below hb3 hc2.lt)
  have HG3 := hide (grw_trans (grw_trans HG1.out hg2) (grw_of_below (some g) hb3 (Nat.le_refl _)))
  have HS := hide hsm
  clear hc2 hg2 hb3 K1 Hc1 HG1 hsm
  simp only [txV]
  go_wp2_with fail
  refine (l1Below_any w0 _ g cv code 12 Hc3.out hl (by omega) (by omega)).mono ?_
  rintro e w4 ⟨y, rfl, -, -, hc4, hg4⟩
  have K4 := hide (blk_notg5 K3.out hg4 (by omega))
  have T4 := hide (blk_notg5 T3.out hg4 (by omega))
  have HG4 := hide (grw_trans HG3.out hg4)
  have Hc4 := hide hc4
  have hs4 := hg4.size
  clear hc4 hg4 K3 T3 HG3 Hc3
  by_cases hy0 : y = 0
  · subst hy0
    go_wp2_with fail
    refine (l1Below_any w0 _ g cv code 5 Hc4.out hl (by omega) (by omega)).mono ?_
    rintro e w5 ⟨z, rfl, hz, -, hc5, hg5⟩
    have hz5 : (z : Int) < 5 := hz (by omega)
    have hk5 := blk_notg5 K4.out hg5 (by omega)
    have hT5 := blk_notg5 T4.out hg5 (by omega)
    have HG5 := hide (grw_trans HG4.out hg5)
    have Hc5 := hide hc5
    have hs5 := hg5.size
    clear hc5 hg5
    have r0 := hk5.cell 0
    have fr0 := hk5.frozen 0
    have r1 := hk5.cell 1
    have fr1 := hk5.frozen 1
    have r2 := hk5.cell 2
    have fr2 := hk5.frozen 2
    have r3 := hk5.cell 3
    have fr3 := hk5.frozen 3
    have r4 := hk5.cell 4
    have fr4 := hk5.frozen 4
    have t0 := hT5.cell 0
    have ft0 := hT5.frozen 0
    have t1 := hT5.cell 1
    have ft1 := hT5.frozen 1
    have t2 := hT5.cell 2
    have ft2 := hT5.frozen 2
    have t3 := hT5.cell 3
    have ft3 := hT5.frozen 3
    have t4 := hT5.cell 4
    have ft4 := hT5.frozen 4
    simp only [List.getElem?_cons_zero, List.getElem?_cons_succ] at r0 r1 r2 r3 r4 t0 t1 t2 t3 t4
    go_wp2
    refine bodyPost_ret (v := txV ((z : Int), f, tO, am, no)) (by simp [results, Try.f140, go_sem, txV, r0, r1, r2, r3, r4]) rfl ?_
    have hbR := ((Below.refl w.heap.size w5).setCell (p := ⟨w2.heap.size, 0, none⟩) (show w.heap.size ≤ w2.heap.size by omega) (.int .i64 (z : Int))).trans (below_put5 (w5.setCell ⟨w2.heap.size, 0, none⟩ (.int .i64 (z : Int))) w.heap.size (.int .i64 (z : Int)) (.string f) (.string tO) (.int .i64 am) (.int .i64 no))
    have hsm := HS.out
    unfold SmT at hsm
    simp only at hsm
    exact ⟨((z : Int), f, tO, am, no), rfl, by unfold SmT; simp only; omega, Hc5.out.below hbR hgl, grw_below HG5.out hbR (Nat.le_refl _)⟩
  have ny0 : ((y : Int) == 0) = false := by rw [beq_eq_false_iff_ne]; omega
  by_cases hy1 : y = 1
  · subst hy1
    obtain ⟨wi, hwi⟩ : ∃ wi, w4.alloc (.cells #[.int .i64 0, .int .i64 (-1), .int .i64 1000000, .int .i64 1000001] 3) = wi := ⟨_, rfl⟩
    have hbi : Below w4.heap.size w4 wi := by rw [← hwi]; exact (Below.refl _ w4).alloc (Nat.le_refl _) _
    have HIi : Hid (IntsAt wi w4.heap.size [0, -1, 1000000, 1000001]) := hide (by rw [← hwi]; exact ints_new w4 [0, -1, 1000000, 1000001] 3)
    have Hci := hide (Hc4.out.below hbi Hc4.out.lt)
    have Ki := hide (K4.out.below hbi (by omega))
    have Ti := hide (T4.out.below hbi (by omega))
    have HGi := hide (grw_trans HG4.out (grw_of_below (some g) hbi (Nat.le_refl _)))
    have hsi := hbi.size
    clear hbi K4 T4 HG4 Hc4
    go_wp2_with fail
    refine (l1Int_any w0 _ g w4.heap.size cv code [0, -1, 1000000, 1000001] Hci.out hl HIi.out (by omega) (by simp) (by simp) 4).mono ?_
    rintro e w5 ⟨z, rfl, hz, hc5, hg5⟩
    have hzb : -10000000 ≤ z ∧ z ≤ 10000000 := by simp at hz; omega
    clear hz
    have hk5 := blk_notg5 Ki.out hg5 (by omega)
    have hT5 := blk_notg5 Ti.out hg5 (by omega)
    have HG5 := hide (grw_trans HGi.out hg5)
    have Hc5 := hide hc5
    have hs5 := hg5.size
    clear hc5 hg5
    have r0 := hk5.cell 0
    have fr0 := hk5.frozen 0
    have r1 := hk5.cell 1
    have fr1 := hk5.frozen 1
    have r2 := hk5.cell 2
    have fr2 := hk5.frozen 2
    have r3 := hk5.cell 3
    have fr3 := hk5.frozen 3
    have r4 := hk5.cell 4
    have fr4 := hk5.frozen 4
    have t0 := hT5.cell 0
    have ft0 := hT5.frozen 0
    have t1 := hT5.cell 1
    have ft1 := hT5.frozen 1
    have t2 := hT5.cell 2
    have ft2 := hT5.frozen 2
    have t3 := hT5.cell 3
    have ft3 := hT5.frozen 3
    have t4 := hT5.cell 4
    have ft4 := hT5.frozen 4
    simp only [List.getElem?_cons_zero, List.getElem?_cons_succ] at r0 r1 r2 r3 r4 t0 t1 t2 t3 t4
    go_wp2
    refine bodyPost_ret (v := txV (k, f, tO, z, no)) (by simp [results, Try.f140, go_sem, txV, r0, r1, r2, r3, r4]) rfl ?_
    have hbR := ((Below.refl w.heap.size w5).setCell (p := ⟨w2.heap.size, 3, none⟩) (show w.heap.size ≤ w2.heap.size by omega) (.int .i64 z)).trans (below_put5 (w5.setCell ⟨w2.heap.size, 3, none⟩ (.int .i64 z)) w.heap.size (.int .i64 k) (.string f) (.string tO) (.int .i64 z) (.int .i64 no))
    have hsm := HS.out
    unfold SmT at hsm
    simp only at hsm
    exact ⟨(k, f, tO, z, no), rfl, by unfold SmT; simp only; omega, Hc5.out.below hbR hgl, grw_below HG5.out hbR (Nat.le_refl _)⟩
  have ny1 : ((y : Int) == 1) = false := by rw [beq_eq_false_iff_ne]; omega
  by_cases hy2 : y = 2
  · subst hy2
    go_wp2_with fail
    refine (l1NameAny_any w0 _ g cv code Hc4.out hl).mono ?_
    rintro e w5 ⟨z, rfl, hz9, hc5, hg5⟩
    have hk5 := blk_notg5 K4.out hg5 (by omega)
    have hT5 := blk_notg5 T4.out hg5 (by omega)
    have HG5 := hide (grw_trans HG4.out hg5)
    have Hc5 := hide hc5
    have hs5 := hg5.size
    clear hc5 hg5
    have r0 := hk5.cell 0
    have fr0 := hk5.frozen 0
    have r1 := hk5.cell 1
    have fr1 := hk5.frozen 1
    have r2 := hk5.cell 2
    have fr2 := hk5.frozen 2
    have r3 := hk5.cell 3
    have fr3 := hk5.frozen 3
    have r4 := hk5.cell 4
    have fr4 := hk5.frozen 4
    have t0 := hT5.cell 0
    have ft0 := hT5.frozen 0
    have t1 := hT5.cell 1
    have ft1 := hT5.frozen 1
    have t2 := hT5.cell 2
    have ft2 := hT5.frozen 2
    have t3 := hT5.cell 3
    have ft3 := hT5.frozen 3
    have t4 := hT5.cell 4
    have ft4 := hT5.frozen 4
    simp only [List.getElem?_cons_zero, List.getElem?_cons_succ] at r0 r1 r2 r3 r4 t0 t1 t2 t3 t4
    go_wp2
    refine bodyPost_ret (v := txV (k, f, z, am, no)) (by simp [results, Try.f140, go_sem, txV, r0, r1, r2, r3, r4]) rfl ?_
    have hbR := ((Below.refl w.heap.size w5).setCell (p := ⟨w2.heap.size, 2, none⟩) (show w.heap.size ≤ w2.heap.size by omega) (.string z)).trans (below_put5 (w5.setCell ⟨w2.heap.size, 2, none⟩ (.string z)) w.heap.size (.int .i64 k) (.string f) (.string z) (.int .i64 am) (.int .i64 no))
    have hsm := HS.out
    unfold SmT at hsm
    simp only at hsm
    exact ⟨(k, f, z, am, no), rfl, by unfold SmT; simp only; omega, Hc5.out.below hbR hgl, grw_below HG5.out hbR (Nat.le_refl _)⟩
  have ny2 : ((y : Int) == 2) = false := by rw [beq_eq_false_iff_ne]; omega
  by_cases hy3 : y = 3
  · subst hy3
    obtain ⟨wi, hwi⟩ : ∃ wi, w4.alloc (.cells #[.int .i64 (-1), .int .i64 10000, .int .i64 10001] 3) = wi := ⟨_, rfl⟩
    have hbi : Below w4.heap.size w4 wi := by rw [← hwi]; exact (Below.refl _ w4).alloc (Nat.le_refl _) _
    have HIi : Hid (IntsAt wi w4.heap.size [-1, 10000, 10001]) := hide (by rw [← hwi]; exact ints_new w4 [-1, 10000, 10001] 3)
    have Hci := hide (Hc4.out.below hbi Hc4.out.lt)
    have Ki := hide (K4.out.below hbi (by omega))
    have Ti := hide (T4.out.below hbi (by omega))
    have HGi := hide (grw_trans HG4.out (grw_of_below (some g) hbi (Nat.le_refl _)))
    have hsi := hbi.size
    clear hbi K4 T4 HG4 Hc4
    go_wp2_with fail
    refine (l1Int_any w0 _ g w4.heap.size cv code [-1, 10000, 10001] Hci.out hl HIi.out (by omega) (by simp) (by simp) 3).mono ?_
    rintro e w5 ⟨z, rfl, hz, hc5, hg5⟩
    have hzb : -10000000 ≤ z ∧ z ≤ 10000000 := by simp at hz; omega
    clear hz
    have hk5 := blk_notg5 Ki.out hg5 (by omega)
    have hT5 := blk_notg5 Ti.out hg5 (by omega)
    have HG5 := hide (grw_trans HGi.out hg5)
    have Hc5 := hide hc5
    have hs5 := hg5.size
    clear hc5 hg5
    have r0 := hk5.cell 0
    have fr0 := hk5.frozen 0
    have r1 := hk5.cell 1
    have fr1 := hk5.frozen 1
    have r2 := hk5.cell 2
    have fr2 := hk5.frozen 2
    have r3 := hk5.cell 3
    have fr3 := hk5.frozen 3
    have r4 := hk5.cell 4
    have fr4 := hk5.frozen 4
    have t0 := hT5.cell 0
    have ft0 := hT5.frozen 0
    have t1 := hT5.cell 1
    have ft1 := hT5.frozen 1
    have t2 := hT5.cell 2
    have ft2 := hT5.frozen 2
    have t3 := hT5.cell 3
    have ft3 := hT5.frozen 3
    have t4 := hT5.cell 4
    have ft4 := hT5.frozen 4
    simp only [List.getElem?_cons_zero, List.getElem?_cons_succ] at r0 r1 r2 r3 r4 t0 t1 t2 t3 t4
    go_wp2
    refine bodyPost_ret (v := txV (k, f, tO, am, z)) (by simp [results, Try.f140, go_sem, txV, r0, r1, r2, r3, r4]) rfl ?_
    have hbR := ((Below.refl w.heap.size w5).setCell (p := ⟨w2.heap.size, 4, none⟩) (show w.heap.size ≤ w2.heap.size by omega) (.int .i64 z)).trans (below_put5 (w5.setCell ⟨w2.heap.size, 4, none⟩ (.int .i64 z)) w.heap.size (.int .i64 k) (.string f) (.string tO) (.int .i64 am) (.int .i64 z))
    have hsm := HS.out
    unfold SmT at hsm
    simp only at hsm
    exact ⟨(k, f, tO, am, z), rfl, by unfold SmT; simp only; omega, Hc5.out.below hbR hgl, grw_below HG5.out hbR (Nat.le_refl _)⟩
  have ny3 : ((y : Int) == 3) = false := by rw [beq_eq_false_iff_ne]; omega
  have hk5 := K4.out
  have hT5 := T4.out
  have r0 := hk5.cell 0
  have fr0 := hk5.frozen 0
  have r1 := hk5.cell 1
  have fr1 := hk5.frozen 1
  have r2 := hk5.cell 2
  have fr2 := hk5.frozen 2
  have r3 := hk5.cell 3
  have fr3 := hk5.frozen 3
  have r4 := hk5.cell 4
  have fr4 := hk5.frozen 4
  have t0 := hT5.cell 0
  have ft0 := hT5.frozen 0
  have t1 := hT5.cell 1
  have ft1 := hT5.frozen 1
  have t2 := hT5.cell 2
  have ft2 := hT5.frozen 2
  have t3 := hT5.cell 3
  have ft3 := hT5.frozen 3
  have t4 := hT5.cell 4
  have ft4 := hT5.frozen 4
  simp only [List.getElem?_cons_zero, List.getElem?_cons_succ] at r0 r1 r2 r3 r4 t0 t1 t2 t3 t4
  go_wp2
  refine bodyPost_ret (v := txV (k, f, tO, am, no)) (by simp [results, Try.f140, go_sem, txV, r0, r1, r2, r3, r4]) rfl ?_
  have hbR := below_put5 w4 w.heap.size (.int .i64 k) (.string f) (.string tO) (.int .i64 am) (.int .i64 no)
  have hsm := HS.out
  unfold SmT at hsm
  simp only at hsm
  exact ⟨(k, f, tO, am, no), rfl, by unfold SmT; simp only; omega, Hc4.out.below hbR hgl, grw_below HG4.out hbR (Nat.le_refl _)⟩
end Go.Proofs.Ytbjeonnaannofaa
