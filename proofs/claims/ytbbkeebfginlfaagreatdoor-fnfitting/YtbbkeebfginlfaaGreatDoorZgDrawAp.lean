/- Drawn orders. An order drawn for a ledger that is there, and a ledger with it. -/
import Derived.Test.YtbbkeebfginlfaaGreatDoorZgDrawAc
import Derived.Test.YtbbkeebfginlfaaGreatDoorZgTxBlk
import Derived.Deep.RegionLaw
namespace Go.Proofs.YtbbkeebfginlfaaGreatDoor
open Go.RowKit
set_option linter.unusedVariables false

theorem blk_notg5 {w w' : World} {B g : Nat} {t : TypeId} {cs : List Value} (h : Blk w B t cs) (hg : w.grownBy w' (some g)) (hne : B ≠ g) : Blk w' B t cs :=
  (hg.block B h.lt (fun e => hne (by injection e))).trans h
theorem below_put5 (W : World) (b : Nat) (y0 y1 y2 y3 y4 : Value) : Below b W (((((W.setCell ⟨b, 0, none⟩ y0).setCell ⟨b, 1, none⟩ y1).setCell ⟨b, 2, none⟩ y2).setCell ⟨b, 3, none⟩ y3).setCell ⟨b, 4, none⟩ y4) :=
  (((((Below.refl _ W).setCell (p := ⟨b, 0, none⟩) (Nat.le_refl _) _).setCell (p := ⟨b, 1, none⟩) (Nat.le_refl _) _).setCell (p := ⟨b, 2, none⟩) (Nat.le_refl _) _).setCell (p := ⟨b, 3, none⟩) (Nat.le_refl _) _).setCell (p := ⟨b, 4, none⟩) (Nat.le_refl _) _
/-- What is drawn is small. -/
def SmT (t : Tx5) : Prop := t.2.1.size ≤ 9 ∧ t.2.2.1.size ≤ 9 ∧ (-10000000 ≤ t.1 ∧ t.1 ≤ 10000000) ∧ (-10000000 ≤ t.2.2.2.1 ∧ t.2.2.2.1 ≤ 10000000) ∧ (-10000000 ≤ t.2.2.2.2 ∧ t.2.2.2.2 ≤ 10000000)
/-- What a draw of an order answers. -/
def DrT (w0 w : World) (g : Nat) (cv : Value) (code : List UInt8) (e : Ending) (w' : World) : Prop := ∃ t : Tx5, e = .returned (txV t) ∧ SmT t ∧ Cur w0 w' g cv code ∧ w.grownBy w' (some g)

set_option maxRecDepth 20000 in
set_option maxHeartbeats 2000000 in
theorem l5Tx_any (w0 w : World) (g : Nat) (cv : Value) (code : List UInt8) (hc : Cur w0 w g cv code) (hl : code.length ≤ 1048576) :
    Calls Tryz.prog 73 #[.pointer (some ⟨g, 0, none⟩)] w fun e w' => DrT w0 w g cv code e w' := by
  have hgl := hc.lt
  obtain ⟨w1, hw1⟩ : ∃ w1, w.alloc (.cells #[.int .i64 0, .string { data := #[] }, .string { data := #[] }, .int .i64 0, .int .i64 0] 48) = w1 := ⟨_, rfl⟩
  have hb1 : Below w.heap.size w w1 := by rw [← hw1]; exact (Below.refl _ w).alloc (Nat.le_refl _) _
  have hs1 : w1.heap.size = w.heap.size + 1 := by rw [← hw1]; simp
  have K1 : Hid (Blk w1 w.heap.size 48 [.int .i64 0, .string { data := #[] }, .string { data := #[] }, .int .i64 0, .int .i64 0]) := hide (by rw [← hw1]; exact Blk.new w _ _)
  have Hc1 := hide (hc.below hb1 hgl)
  have HG1 := hide (grw_of_below (some g) hb1 (Nat.le_refl _))
  clear hc hb1
  go_enter Tryz.func73, Tryz.ntmps73
  go_wp2_with fail
  refine (l1Below_any w0 _ g cv code 3 Hc1.out hl (by omega) (by omega)).mono ?_
  rintro e w2 ⟨x, rfl, hx, -, hc2, hg2⟩
  have hx3 : (x : Int) < 3 := hx (by omega)
  have K2 := hide (blk_notg5 K1.out hg2 (by omega))
  have HG2 := hide (grw_trans HG1.out hg2)
  have hs2 := hg2.size
  clear hg2 hx K1 HG1 Hc1
  go_wp2_with fail
  refine (l1Name_any w0 _ g cv code hc2 hl).mono ?_
  rintro e w3 ⟨f, rfl, hf9, hc3, hg3⟩
  have K3 := hide (blk_notg5 K2.out hg3 (by omega))
  have HG3 := hide (grw_trans HG2.out hg3)
  have hs3 := hg3.size
  obtain ⟨w4, hw4⟩ : ∃ w4, w3.alloc (.cells #[.int .i64 1, .int .i64 5, .int .i64 10, .int .i64 3, .int .i64 200] 3) = w4 := ⟨_, rfl⟩
  have hb4 : Below w3.heap.size w3 w4 := by rw [← hw4]; exact (Below.refl _ w3).alloc (Nat.le_refl _) _
  have HI4 : Hid (IntsAt w4 w3.heap.size [1, 5, 10, 3, 200]) := hide (by rw [← hw4]; exact ints_new w3 [1, 5, 10, 3, 200] 3)
  have Hc4 := hide (hc3.below hb4 hc3.lt)
  have K4 := hide (K3.out.below hb4 (by omega))
  have HG4 := hide (grw_trans HG3.out (grw_of_below (some g) hb4 (Nat.le_refl _)))
  have hs4 := hb4.size
  clear hc2 hc3 hg3 hb4 K2 K3 HG2 HG3
  go_wp2_with fail
  refine (l1Int_any w0 _ g w3.heap.size cv code [1, 5, 10, 3, 200] Hc4.out hl HI4.out (by omega) (by simp) (by simp) 5).mono ?_
  rintro e w5 ⟨am, rfl, ham, hc5, hg5⟩
  have hamb : 0 ≤ am ∧ am ≤ 200 := by simp at ham; omega
  have K5 := hide (blk_notg5 K4.out hg5 (by omega))
  have HG5 := hide (grw_trans HG4.out hg5)
  have hs5 := hg5.size
  clear ham hg5 K4 HG4 Hc4 HI4
  go_wp2_with fail
  refine (l1Below_any w0 _ g cv code 4 hc5 hl (by omega) (by omega)).mono ?_
  rintro e w6 ⟨no, rfl, hno, -, hc6, hg6⟩
  have hno4 : (no : Int) < 4 := hno (by omega)
  have hk6 := blk_notg5 K5.out hg6 (by omega)
  have hG6 := grw_trans HG5.out hg6
  have hs6 := hg6.size
  have hT7 := Blk.new w6 48 [.int .i64 (1 + (x : Int)), .string f, .string { data := #[] }, .int .i64 am, .int .i64 (no : Int)]
  have hb7 : Below w6.heap.size w6 (w6.alloc (.cells #[.int .i64 (1 + (x : Int)), .string f, .string { data := #[] }, .int .i64 am, .int .i64 (no : Int)] 48)) := (Below.refl _ w6).alloc (Nat.le_refl _) _
  have hk7 := hk6.below hb7 (by omega)
  have Hc7 := hide (hc6.below hb7 hc6.lt)
  have HG7 := hide (grw_trans hG6 (grw_of_below (some g) hb7 (Nat.le_refl _)))
  clear hc5 hg6 hno K5 HG5 hc6 hG6 hk6 hb7
  by_cases hx0 : x = 0
  · subst hx0
    have HK := hide hk7
    have HT := hide hT7
    clear hk7 hT7
    go_wp2_with fail
    refine (l1Name_any w0 _ g cv code Hc7.out hl).mono ?_
    rintro e w8 ⟨to, rfl, ht9, hc8, hg8⟩
    have hk7 := blk_notg5 HK.out hg8 (by omega)
    have hT7 := blk_notg5 HT.out hg8 (by omega)
    have HG8 := hide (grw_trans HG7.out hg8)
    have Hc8 := hide hc8
    have hs8 := hg8.size
    clear HK HT HG7 Hc7 hc8 hg8
    have r0 := hk7.cell 0
    have fr0 := hk7.frozen 0
    have r1 := hk7.cell 1
    have fr1 := hk7.frozen 1
    have r2 := hk7.cell 2
    have fr2 := hk7.frozen 2
    have r3 := hk7.cell 3
    have fr3 := hk7.frozen 3
    have r4 := hk7.cell 4
    have fr4 := hk7.frozen 4
    have t0 := hT7.cell 0
    have ft0 := hT7.frozen 0
    have t1 := hT7.cell 1
    have ft1 := hT7.frozen 1
    have t2 := hT7.cell 2
    have ft2 := hT7.frozen 2
    have t3 := hT7.cell 3
    have ft3 := hT7.frozen 3
    have t4 := hT7.cell 4
    have ft4 := hT7.frozen 4
    simp only [List.getElem?_cons_zero, List.getElem?_cons_succ] at r0 r1 r2 r3 r4 t0 t1 t2 t3 t4
    go_wp2
    refine bodyPost_ret (v := txV (1, f, to, am, (no : Int))) (by simp [results, Tryz.f73, go_sem, txV, r0, r1, r2, r3, r4]) rfl ?_
    have hbR := ((Below.refl w.heap.size w8).setCell (p := ⟨w6.heap.size, 2, none⟩) (show w.heap.size ≤ w6.heap.size by omega) (.string to)).trans (below_put5 (w8.setCell ⟨w6.heap.size, 2, none⟩ (.string to)) w.heap.size (.int .i64 1) (.string f) (.string to) (.int .i64 am) (.int .i64 (no : Int)))
    exact ⟨(1, f, to, am, (no : Int)), rfl, by unfold SmT; simp only; omega, Hc8.out.below hbR hgl, grw_below HG8.out hbR (Nat.le_refl _)⟩
  · have hne : ((1 + (x : Int)) == 1) = false := by rw [beq_eq_false_iff_ne]; omega
    have r0 := hk7.cell 0
    have fr0 := hk7.frozen 0
    have r1 := hk7.cell 1
    have fr1 := hk7.frozen 1
    have r2 := hk7.cell 2
    have fr2 := hk7.frozen 2
    have r3 := hk7.cell 3
    have fr3 := hk7.frozen 3
    have r4 := hk7.cell 4
    have fr4 := hk7.frozen 4
    have t0 := hT7.cell 0
    have ft0 := hT7.frozen 0
    have t1 := hT7.cell 1
    have ft1 := hT7.frozen 1
    have t2 := hT7.cell 2
    have ft2 := hT7.frozen 2
    have t3 := hT7.cell 3
    have ft3 := hT7.frozen 3
    have t4 := hT7.cell 4
    have ft4 := hT7.frozen 4
    simp only [List.getElem?_cons_zero, List.getElem?_cons_succ] at r0 r1 r2 r3 r4 t0 t1 t2 t3 t4
    go_wp2
    refine bodyPost_ret (v := txV (1 + (x : Int), f, ByteArray.empty, am, (no : Int))) (by simp [results, Tryz.f73, go_sem, txV, r0, r1, r2, r3, r4]; rfl) rfl ?_
    have hbR := below_put5 (w6.alloc (.cells #[.int .i64 (1 + (x : Int)), .string f, .string { data := #[] }, .int .i64 am, .int .i64 (no : Int)] 48)) w.heap.size (.int .i64 (1 + (x : Int))) (.string f) (.string { data := #[] }) (.int .i64 am) (.int .i64 (no : Int))
    exact ⟨(1 + (x : Int), f, ByteArray.empty, am, (no : Int)), rfl, by unfold SmT; simp only [ByteArray.size_empty]; omega, Hc7.out.below hbR hgl, grw_below HG7.out hbR (Nat.le_refl _)⟩
set_option maxRecDepth 20000 in
set_option maxHeartbeats 2000000 in
theorem l5Any_any (w0 w : World) (g : Nat) (cv : Value) (code : List UInt8) (hc : Cur w0 w g cv code) (hl : code.length ≤ 1048576) :
    Calls Tryz.prog 54 #[.pointer (some ⟨g, 0, none⟩)] w fun e w' => DrT w0 w g cv code e w' := by
  have hgl := hc.lt
  obtain ⟨w1, hw1⟩ : ∃ w1, w.alloc (.cells #[.int .i64 0, .string { data := #[] }, .string { data := #[] }, .int .i64 0, .int .i64 0] 48) = w1 := ⟨_, rfl⟩
  have hb1 : Below w.heap.size w w1 := by rw [← hw1]; exact (Below.refl _ w).alloc (Nat.le_refl _) _
  have hs1 : w1.heap.size = w.heap.size + 1 := by rw [← hw1]; simp
  have K1 : Hid (Blk w1 w.heap.size 48 [.int .i64 0, .string { data := #[] }, .string { data := #[] }, .int .i64 0, .int .i64 0]) := hide (by rw [← hw1]; exact Blk.new w _ _)
  have Hc1 := hide (hc.below hb1 hgl)
  have HG1 := hide (grw_of_below (some g) hb1 (Nat.le_refl _))
  clear hc hb1
  go_enter Tryz.func54, Tryz.ntmps54
  go_wp2_with fail
  refine (l5Tx_any w0 _ g cv code Hc1.out hl).mono ?_
  rintro e w2 ⟨⟨k, f, to, am, no⟩, rfl, hsm, hc2, hg2⟩
  have hs2 := hg2.size
  obtain ⟨w3, hw3⟩ : ∃ w3, w2.alloc (.cells #[.int .i64 k, .string f, .string to, .int .i64 am, .int .i64 no] 48) = w3 := ⟨_, rfl⟩
  have hb3 : Below w2.heap.size w2 w3 := by rw [← hw3]; exact (Below.refl _ w2).alloc (Nat.le_refl _) _
  have hs3 : w3.heap.size = w2.heap.size + 1 := by rw [← hw3]; simp
  have T3 : Hid (Blk w3 w2.heap.size 48 [.int .i64 k, .string f, .string to, .int .i64 am, .int .i64 no]) := hide (by rw [← hw3]; exact Blk.new w2 _ _)
  have K3 := hide ((blk_notg5 K1.out hg2 (by omega)).below hb3 (by omega))
  have Hc3 := hide (hc2.below hb3 hc2.lt)
  have HG3 := hide (grw_trans (grw_trans HG1.out hg2) (grw_of_below (some g) hb3 (Nat.le_refl _)))
  have HS := hide hsm
  clear hc2 hg2 hb3 K1 Hc1 HG1 hsm
  simp only [txV]
  go_wp2_with fail
  refine (l1Below_any w0 _ g cv code 12 Hc3.out hl (by omega) (by omega)).mono ?_
  rintro e w4 ⟨y, rfl, -, -, hc4, hg4⟩
  have K4 := hide (blk_notg5 K3.out hg4 (by omega))
  have T4 := hide (blk_notg5 T3.out hg4 (by omega))
  have HG4 := hide (grw_trans HG3.out hg4)
  have Hc4 := hide hc4
  have hs4 := hg4.size
  clear hc4 hg4 K3 T3 HG3 Hc3
  by_cases hy0 : y = 0
  · subst hy0
    go_wp2_with fail
    refine (l1Below_any w0 _ g cv code 5 Hc4.out hl (by omega) (by omega)).mono ?_
    rintro e w5 ⟨z, rfl, hz, -, hc5, hg5⟩
    have hz5 : (z : Int) < 5 := hz (by omega)
    have hk5 := blk_notg5 K4.out hg5 (by omega)
    have hT5 := blk_notg5 T4.out hg5 (by omega)
    have HG5 := hide (grw_trans HG4.out hg5)
    have Hc5 := hide hc5
    have hs5 := hg5.size
    clear hc5 hg5
    have r0 := hk5.cell 0
    have fr0 := hk5.frozen 0
    have r1 := hk5.cell 1
    have fr1 := hk5.frozen 1
    have r2 := hk5.cell 2
    have fr2 := hk5.frozen 2
    have r3 := hk5.cell 3
    have fr3 := hk5.frozen 3
    have r4 := hk5.cell 4
    have fr4 := hk5.frozen 4
    have t0 := hT5.cell 0
    have ft0 := hT5.frozen 0
    have t1 := hT5.cell 1
    have ft1 := hT5.frozen 1
    have t2 := hT5.cell 2
    have ft2 := hT5.frozen 2
    have t3 := hT5.cell 3
    have ft3 := hT5.frozen 3
    have t4 := hT5.cell 4
    have ft4 := hT5.frozen 4
    simp only [List.getElem?_cons_zero, List.getElem?_cons_succ] at r0 r1 r2 r3 r4 t0 t1 t2 t3 t4
    go_wp2
    refine bodyPost_ret (v := txV ((z : Int), f, to, am, no)) (by simp [results, Tryz.f54, go_sem, txV, r0, r1, r2, r3, r4]) rfl ?_
    have hbR := ((Below.refl w.heap.size w5).setCell (p := ⟨w2.heap.size, 0, none⟩) (show w.heap.size ≤ w2.heap.size by omega) (.int .i64 (z : Int))).trans (below_put5 (w5.setCell ⟨w2.heap.size, 0, none⟩ (.int .i64 (z : Int))) w.heap.size (.int .i64 (z : Int)) (.string f) (.string to) (.int .i64 am) (.int .i64 no))
    have hsm := HS.out
    unfold SmT at hsm
    simp only at hsm
    exact ⟨((z : Int), f, to, am, no), rfl, by unfold SmT; simp only; omega, Hc5.out.below hbR hgl, grw_below HG5.out hbR (Nat.le_refl _)⟩
  have ny0 : ((y : Int) == 0) = false := by rw [beq_eq_false_iff_ne]; omega
  by_cases hy1 : y = 1
  · subst hy1
    obtain ⟨wi, hwi⟩ : ∃ wi, w4.alloc (.cells #[.int .i64 0, .int .i64 (-1), .int .i64 1000000, .int .i64 1000001] 3) = wi := ⟨_, rfl⟩
    have hbi : Below w4.heap.size w4 wi := by rw [← hwi]; exact (Below.refl _ w4).alloc (Nat.le_refl _) _
    have HIi : Hid (IntsAt wi w4.heap.size [0, -1, 1000000, 1000001]) := hide (by rw [← hwi]; exact ints_new w4 [0, -1, 1000000, 1000001] 3)
    have Hci := hide (Hc4.out.below hbi Hc4.out.lt)
    have Ki := hide (K4.out.below hbi (by omega))
    have Ti := hide (T4.out.below hbi (by omega))
    have HGi := hide (grw_trans HG4.out (grw_of_below (some g) hbi (Nat.le_refl _)))
    have hsi := hbi.size
    clear hbi K4 T4 HG4 Hc4
    go_wp2_with fail
    refine (l1Int_any w0 _ g w4.heap.size cv code [0, -1, 1000000, 1000001] Hci.out hl HIi.out (by omega) (by simp) (by simp) 4).mono ?_
    rintro e w5 ⟨z, rfl, hz, hc5, hg5⟩
    have hzb : -10000000 ≤ z ∧ z ≤ 10000000 := by simp at hz; omega
    clear hz
    have hk5 := blk_notg5 Ki.out hg5 (by omega)
    have hT5 := blk_notg5 Ti.out hg5 (by omega)
    have HG5 := hide (grw_trans HGi.out hg5)
    have Hc5 := hide hc5
    have hs5 := hg5.size
    clear hc5 hg5
    have r0 := hk5.cell 0
    have fr0 := hk5.frozen 0
    have r1 := hk5.cell 1
    have fr1 := hk5.frozen 1
    have r2 := hk5.cell 2
    have fr2 := hk5.frozen 2
    have r3 := hk5.cell 3
    have fr3 := hk5.frozen 3
    have r4 := hk5.cell 4
    have fr4 := hk5.frozen 4
    have t0 := hT5.cell 0
    have ft0 := hT5.frozen 0
    have t1 := hT5.cell 1
    have ft1 := hT5.frozen 1
    have t2 := hT5.cell 2
    have ft2 := hT5.frozen 2
    have t3 := hT5.cell 3
    have ft3 := hT5.frozen 3
    have t4 := hT5.cell 4
    have ft4 := hT5.frozen 4
    simp only [List.getElem?_cons_zero, List.getElem?_cons_succ] at r0 r1 r2 r3 r4 t0 t1 t2 t3 t4
    go_wp2
    refine bodyPost_ret (v := txV (k, f, to, z, no)) (by simp [results, Tryz.f54, go_sem, txV, r0, r1, r2, r3, r4]) rfl ?_
    have hbR := ((Below.refl w.heap.size w5).setCell (p := ⟨w2.heap.size, 3, none⟩) (show w.heap.size ≤ w2.heap.size by omega) (.int .i64 z)).trans (below_put5 (w5.setCell ⟨w2.heap.size, 3, none⟩ (.int .i64 z)) w.heap.size (.int .i64 k) (.string f) (.string to) (.int .i64 z) (.int .i64 no))
    have hsm := HS.out
    unfold SmT at hsm
    simp only at hsm
    exact ⟨(k, f, to, z, no), rfl, by unfold SmT; simp only; omega, Hc5.out.below hbR hgl, grw_below HG5.out hbR (Nat.le_refl _)⟩
  have ny1 : ((y : Int) == 1) = false := by rw [beq_eq_false_iff_ne]; omega
  by_cases hy2 : y = 2
  · subst hy2
    go_wp2_with fail
    refine (l1NameAny_any w0 _ g cv code Hc4.out hl).mono ?_
    rintro e w5 ⟨z, rfl, hz9, hc5, hg5⟩
    have hk5 := blk_notg5 K4.out hg5 (by omega)
    have hT5 := blk_notg5 T4.out hg5 (by omega)
    have HG5 := hide (grw_trans HG4.out hg5)
    have Hc5 := hide hc5
    have hs5 := hg5.size
    clear hc5 hg5
    have r0 := hk5.cell 0
    have fr0 := hk5.frozen 0
    have r1 := hk5.cell 1
    have fr1 := hk5.frozen 1
    have r2 := hk5.cell 2
    have fr2 := hk5.frozen 2
    have r3 := hk5.cell 3
    have fr3 := hk5.frozen 3
    have r4 := hk5.cell 4
    have fr4 := hk5.frozen 4
    have t0 := hT5.cell 0
    have ft0 := hT5.frozen 0
    have t1 := hT5.cell 1
    have ft1 := hT5.frozen 1
    have t2 := hT5.cell 2
    have ft2 := hT5.frozen 2
    have t3 := hT5.cell 3
    have ft3 := hT5.frozen 3
    have t4 := hT5.cell 4
    have ft4 := hT5.frozen 4
    simp only [List.getElem?_cons_zero, List.getElem?_cons_succ] at r0 r1 r2 r3 r4 t0 t1 t2 t3 t4
    go_wp2
    refine bodyPost_ret (v := txV (k, f, z, am, no)) (by simp [results, Tryz.f54, go_sem, txV, r0, r1, r2, r3, r4]) rfl ?_
    have hbR := ((Below.refl w.heap.size w5).setCell (p := ⟨w2.heap.size, 2, none⟩) (show w.heap.size ≤ w2.heap.size by omega) (.string z)).trans (below_put5 (w5.setCell ⟨w2.heap.size, 2, none⟩ (.string z)) w.heap.size (.int .i64 k) (.string f) (.string z) (.int .i64 am) (.int .i64 no))
    have hsm := HS.out
    unfold SmT at hsm
    simp only at hsm
    exact ⟨(k, f, z, am, no), rfl, by unfold SmT; simp only; omega, Hc5.out.below hbR hgl, grw_below HG5.out hbR (Nat.le_refl _)⟩
  have ny2 : ((y : Int) == 2) = false := by rw [beq_eq_false_iff_ne]; omega
  by_cases hy3 : y = 3
  · subst hy3
    obtain ⟨wi, hwi⟩ : ∃ wi, w4.alloc (.cells #[.int .i64 (-1), .int .i64 10000, .int .i64 10001] 3) = wi := ⟨_, rfl⟩
    have hbi : Below w4.heap.size w4 wi := by rw [← hwi]; exact (Below.refl _ w4).alloc (Nat.le_refl _) _
    have HIi : Hid (IntsAt wi w4.heap.size [-1, 10000, 10001]) := hide (by rw [← hwi]; exact ints_new w4 [-1, 10000, 10001] 3)
    have Hci := hide (Hc4.out.below hbi Hc4.out.lt)
    have Ki := hide (K4.out.below hbi (by omega))
    have Ti := hide (T4.out.below hbi (by omega))
    have HGi := hide (grw_trans HG4.out (grw_of_below (some g) hbi (Nat.le_refl _)))
    have hsi := hbi.size
    clear hbi K4 T4 HG4 Hc4
    go_wp2_with fail
    refine (l1Int_any w0 _ g w4.heap.size cv code [-1, 10000, 10001] Hci.out hl HIi.out (by omega) (by simp) (by simp) 3).mono ?_
    rintro e w5 ⟨z, rfl, hz, hc5, hg5⟩
    have hzb : -10000000 ≤ z ∧ z ≤ 10000000 := by simp at hz; omega
    clear hz
    have hk5 := blk_notg5 Ki.out hg5 (by omega)
    have hT5 := blk_notg5 Ti.out hg5 (by omega)
    have HG5 := hide (grw_trans HGi.out hg5)
    have Hc5 := hide hc5
    have hs5 := hg5.size
    clear hc5 hg5
    have r0 := hk5.cell 0
    have fr0 := hk5.frozen 0
    have r1 := hk5.cell 1
    have fr1 := hk5.frozen 1
    have r2 := hk5.cell 2
    have fr2 := hk5.frozen 2
    have r3 := hk5.cell 3
    have fr3 := hk5.frozen 3
    have r4 := hk5.cell 4
    have fr4 := hk5.frozen 4
    have t0 := hT5.cell 0
    have ft0 := hT5.frozen 0
    have t1 := hT5.cell 1
    have ft1 := hT5.frozen 1
    have t2 := hT5.cell 2
    have ft2 := hT5.frozen 2
    have t3 := hT5.cell 3
    have ft3 := hT5.frozen 3
    have t4 := hT5.cell 4
    have ft4 := hT5.frozen 4
    simp only [List.getElem?_cons_zero, List.getElem?_cons_succ] at r0 r1 r2 r3 r4 t0 t1 t2 t3 t4
    go_wp2
    refine bodyPost_ret (v := txV (k, f, to, am, z)) (by simp [results, Tryz.f54, go_sem, txV, r0, r1, r2, r3, r4]) rfl ?_
    have hbR := ((Below.refl w.heap.size w5).setCell (p := ⟨w2.heap.size, 4, none⟩) (show w.heap.size ≤ w2.heap.size by omega) (.int .i64 z)).trans (below_put5 (w5.setCell ⟨w2.heap.size, 4, none⟩ (.int .i64 z)) w.heap.size (.int .i64 k) (.string f) (.string to) (.int .i64 am) (.int .i64 z))
    have hsm := HS.out
    unfold SmT at hsm
    simp only at hsm
    exact ⟨(k, f, to, am, z), rfl, by unfold SmT; simp only; omega, Hc5.out.below hbR hgl, grw_below HG5.out hbR (Nat.le_refl _)⟩
  have ny3 : ((y : Int) == 3) = false := by rw [beq_eq_false_iff_ne]; omega
  have hk5 := K4.out
  have hT5 := T4.out
  have r0 := hk5.cell 0
  have fr0 := hk5.frozen 0
  have r1 := hk5.cell 1
  have fr1 := hk5.frozen 1
  have r2 := hk5.cell 2
  have fr2 := hk5.frozen 2
  have r3 := hk5.cell 3
  have fr3 := hk5.frozen 3
  have r4 := hk5.cell 4
  have fr4 := hk5.frozen 4
  have t0 := hT5.cell 0
  have ft0 := hT5.frozen 0
  have t1 := hT5.cell 1
  have ft1 := hT5.frozen 1
  have t2 := hT5.cell 2
  have ft2 := hT5.frozen 2
  have t3 := hT5.cell 3
  have ft3 := hT5.frozen 3
  have t4 := hT5.cell 4
  have ft4 := hT5.frozen 4
  simp only [List.getElem?_cons_zero, List.getElem?_cons_succ] at r0 r1 r2 r3 r4 t0 t1 t2 t3 t4
  go_wp2
  refine bodyPost_ret (v := txV (k, f, to, am, no)) (by simp [results, Tryz.f54, go_sem, txV, r0, r1, r2, r3, r4]) rfl ?_
  have hbR := below_put5 w4 w.heap.size (.int .i64 k) (.string f) (.string to) (.int .i64 am) (.int .i64 no)
  have hsm := HS.out
  unfold SmT at hsm
  simp only at hsm
  exact ⟨(k, f, to, am, no), rfl, by unfold SmT; simp only; omega, Hc4.out.below hbR hgl, grw_below HG4.out hbR (Nat.le_refl _)⟩
end Go.Proofs.YtbbkeebfginlfaaGreatDoor

namespace Go.Proofs.YtbbkeebfginlfaaGreatDoor
open Go.RowKit
set_option linter.unusedVariables false

/-- Accounts that read so, whatever the cursor in block g does. -/
def Sty (g : Nat) (w : World) (v : Value) (l : List Ac) : Prop := RdA w v l ∧ ∀ w', w.grownBy w' (some g) → RdA w' v l
theorem Sty.notg {g : Nat} {w w' : World} {v : Value} {l : List Ac} (h : Sty g w v l) (hg : w.grownBy w' (some g)) : Sty g w' v l := ⟨h.2 w' hg, fun w'' h2 => h.2 w'' (grw_trans hg h2)⟩
theorem Sty.below {g B : Nat} {w w' : World} {v : Value} {l : List Ac} (h : Sty g w v l) (hb : Below B w w') (hB : w.heap.size ≤ B) : Sty g w' v l := h.notg (grw_of_below (some g) hb hB)
theorem DrA.sty {base g : Nat} {w : World} {v : Value} {Z : List (Ac × Value)} (h : DrA base w v Z) (hg : g < base) : Sty g w v (Z.map (·.1)) := ⟨h.rd, fun w' h' => (h.notg h' hg).rd⟩
theorem RdA.atP {w : World} {a : Option Addr} {cap i : Nat} {l : List Ac} (h : RdA w (.slice a l.length cap) l) (hi : i < l.length) :
    ∃ b off lv, a = some ⟨b, off, none⟩ ∧ l.length ≤ cap ∧ cap ≤ maxLen ∧ b < w.heap.size ∧ AcAt w b (off + i * 5) l[i] lv ∧ RdL w lv l[i].2.2.2.2 := by
  rcases h with ⟨a', cap', e, rfl, -⟩ | ⟨b, off, cap', h0, e, h1, h2, h3, h4⟩
  · simp at hi
  · simp only [Value.slice.injEq, true_and] at e
    obtain ⟨rfl, rfl⟩ := e
    obtain ⟨lv, q1, q2⟩ := h4 i hi
    exact ⟨b, off, lv, rfl, h1, h2, h3, q1, q2⟩
/-- What a draw of an order answers: its texts are small. -/
def DrU (w0 w : World) (g : Nat) (cv : Value) (code : List UInt8) (e : Ending) (w' : World) : Prop := ∃ t : Tx5, e = .returned (txV t) ∧ t.2.1.size ≤ 9 ∧ t.2.2.1.size ≤ 9 ∧ Cur w0 w' g cv code ∧ w.grownBy w' (some g)
theorem drU_end {w0 w W : World} {g b : Nat} {cv : Value} {code : List UInt8} (hc : Cur w0 W g cv code) (hG : w.grownBy W (some g)) (hgb : g < b) (hwb : w.heap.size ≤ b) (y0 y1 y2 y3 y4 : Value) :
    Cur w0 (((((W.setCell ⟨b, 0, none⟩ y0).setCell ⟨b, 1, none⟩ y1).setCell ⟨b, 2, none⟩ y2).setCell ⟨b, 3, none⟩ y3).setCell ⟨b, 4, none⟩ y4) g cv code ∧ w.grownBy (((((W.setCell ⟨b, 0, none⟩ y0).setCell ⟨b, 1, none⟩ y1).setCell ⟨b, 2, none⟩ y2).setCell ⟨b, 3, none⟩ y3).setCell ⟨b, 4, none⟩ y4) (some g) :=
  ⟨hc.below (below_put5 W b y0 y1 y2 y3 y4) hgb, grw_below hG (below_put5 W b y0 y1 y2 y3 y4) hwb⟩
set_option maxRecDepth 20000 in
set_option maxHeartbeats 1000000 in
theorem l6Tx_any (w0 w : World) (g : Nat) (cv : Value) (code : List UInt8) (e : Int) (v : Value) (l : List Ac) (hc : Cur w0 w g cv code) (hl : code.length ≤ 1048576) (hs : Sty g w v l) (hln : l.length ≤ 1000) (hsm : ∀ a ∈ l, a.1.size ≤ 9) :
    Calls Tryz.prog 55 #[.pointer (some ⟨g, 0, none⟩), lgV e v] w fun en w' => DrU w0 w g cv code en w' := by
  have hgl := hc.lt
  obtain ⟨av, cv1, rfl⟩ := hs.1.shape
  simp only [lgV]
  obtain ⟨w1, hw1⟩ : ∃ x, w.alloc (.cells #[.int .i64 e, .slice av l.length cv1] 33) = x := ⟨_, rfl⟩
  have b1 : Below w.heap.size w w1 := by rw [← hw1]; exact (Below.refl _ w).alloc (Nat.le_refl _) _
  have k1 : Blk w1 w.heap.size 33 [.int .i64 e, .slice av l.length cv1] := by rw [← hw1]; exact Blk.new w _ _
  have s1 : w1.heap.size = w.heap.size + 1 := by rw [← hw1]; simp
  obtain ⟨w2, hw2⟩ : ∃ x, w1.alloc (.cells #[.int .i64 0, .string { data := #[] }, .string { data := #[] }, .int .i64 0, .int .i64 0] 48) = x := ⟨_, rfl⟩
  have b2 : Below w1.heap.size w1 w2 := by rw [← hw2]; exact (Below.refl _ w1).alloc (Nat.le_refl _) _
  have r2 : Blk w2 (w.heap.size + 1) 48 [.int .i64 0, .string { data := #[] }, .string { data := #[] }, .int .i64 0, .int .i64 0] := by rw [← hw2, ← s1]; exact Blk.new w1 _ _
  have s2 : w2.heap.size = w.heap.size + 2 := by rw [← hw2]; simp [s1]
  have k2 := k1.below b2 (by omega)
  have hb2 : Below w.heap.size w w2 := b1.trans (b2.mono (by omega))
  have hc2 := hc.below hb2 hgl
  have HG2 := hide (grw_of_below (some g) hb2 (Nat.le_refl _))
  have Hs2 := hide (hs.below hb2 (Nat.le_refl _))
  have K2 := hide k2
  have R2 := hide r2
  clear hc hs k1 k2 r2 b1 b2
  go_enter Tryz.func55, Tryz.ntmps55
  go_wp2_with fail
  refine (l5Tx_any w0 w2 g cv code hc2 hl).mono ?_
  rintro en w3 ⟨⟨k, f, to, am, no⟩, rfl, hsm3, hc3, hg3⟩
  simp only [txV]
  have hz3 := hg3.size
  have hf9 : f.size ≤ 9 := hsm3.1
  have ht9 : to.size ≤ 9 := hsm3.2.1
  obtain ⟨w4, hw4⟩ : ∃ x, w3.alloc (.cells #[.int .i64 k, .string f, .string to, .int .i64 am, .int .i64 no] 48) = x := ⟨_, rfl⟩
  have b4 : Below w3.heap.size w3 w4 := by rw [← hw4]; exact (Below.refl _ w3).alloc (Nat.le_refl _) _
  have t4 : Blk w4 w3.heap.size 48 [.int .i64 k, .string f, .string to, .int .i64 am, .int .i64 no] := by rw [← hw4]; exact Blk.new w3 _ _
  have k4 := (blk_notg5 K2.out hg3 (by omega)).below b4 (by omega)
  have r4 := (blk_notg5 R2.out hg3 (by omega)).below b4 (by omega)
  have hc4 := hc3.below b4 (by omega)
  have HG4 := hide (grw_below (grw_trans HG2.out hg3) b4 (by omega))
  have Hs4 := hide ((Hs2.out.notg hg3).below b4 (Nat.le_refl _))
  have hz4 : w4.heap.size = w3.heap.size + 1 := by rw [← hw4]; simp
  clear hc2 hc3 hg3 b4 HG2 Hs2 K2 R2 hw1 hw2
  have c1 := k4.cell 1
  simp only [List.getElem?_cons_zero, List.getElem?_cons_succ] at c1
  by_cases hz : l.length = 0
  · have hzi : ¬ (0 : Int) < (l.length : Int) := by omega
    have q0 := t4.cell 0
    have q1 := t4.cell 1
    have q2 := t4.cell 2
    have q3 := t4.cell 3
    have q4 := t4.cell 4
    have p0 := r4.cell 0
    have p1 := r4.cell 1
    have p2 := r4.cell 2
    have p3 := r4.cell 3
    have p4 := r4.cell 4
    have f0 := r4.frozen 0
    have f1 := r4.frozen 1
    have f2 := r4.frozen 2
    have f3 := r4.frozen 3
    have f4 := r4.frozen 4
    simp only [List.getElem?_cons_zero, List.getElem?_cons_succ] at q0 q1 q2 q3 q4 p0 p1 p2 p3 p4
    have HE := hide (drU_end hc4 HG4.out (show g < w.heap.size + 1 by omega) (by omega) (.int .i64 k) (.string f) (.string to) (.int .i64 am) (.int .i64 no))
    clear t4 k4 r4 hc4 hz hz3 hz4 s1 s2
    go_wp2
    refine bodyPost_ret (v := txV (k, f, to, am, no)) (by simp [results, Tryz.f55, go_sem, txV, p0, p1, p2, p3, p4]) rfl ?_
    exact ⟨(k, f, to, am, no), rfl, hf9, ht9, HE.out.1, HE.out.2⟩
  · have hzi : (0 : Int) < (l.length : Int) := by omega
    go_wp2_with fail
    refine (l1Once_any w0 w4 g cv code 5 hc4 hl (by omega) (by omega)).mono ?_
    rintro en w5 ⟨bo, rfl, hc5, hg5⟩
    have hz5 := hg5.size
    have t5 := blk_notg5 t4 hg5 (by omega)
    have k5 := blk_notg5 k4 hg5 (by omega)
    have r5 := blk_notg5 r4 hg5 (by omega)
    have HG5 := hide (grw_trans HG4.out hg5)
    have Hs5 := hide (Hs4.out.notg hg5)
    clear t4 k4 r4 hc4 hg5 c1 hw4
    cases bo
    · have c1 := k5.cell 1
      simp only [List.getElem?_cons_zero, List.getElem?_cons_succ] at c1
      have c1d : w5.drew.cell? ⟨w.heap.size, 1, none⟩ = some (.slice av l.length cv1) := c1
      have T5 := hide t5
      have K5 := hide k5
      have R5 := hide r5
      have Hc5 := hide hc5.drew
      have BA := hide (Below.refl w5.heap.size w5).drew
      have BB := hide ((Below.refl w5.heap.size w5).alloc (Nat.le_refl _) (.cells #[.string { data := #[] }, .int .i64 0, .int .i64 0, .int .i64 0, .slice none 0 0] 51)).drew
      have HcB := hide (hc5.below BB.out hc5.lt)
      have KB : Hid (Blk (w5.alloc (.cells #[.string { data := #[] }, .int .i64 0, .int .i64 0, .int .i64 0, .slice none 0 0] 51)).drew w5.heap.size 51 [.string { data := #[] }, .int .i64 0, .int .i64 0, .int .i64 0, .slice none 0 0]) := hide (Blk.new w5 _ _)
      have hg5' := hc5.lt
      have c1B := (k5.below BB.out k5.lt).cell 1
      have c1A := (k5.below BA.out k5.lt).cell 1
      simp only [List.getElem?_cons_zero, List.getElem?_cons_succ] at c1B c1A
      clear t5 k5 r5 hc5
      go_wp2
      go_region_law ((first
        | (go_simp; go_at_call 50; (with_reducible refine (l1Below_any w0 w5.drew g cv code (l.length : Int) Hc5.out hl (by omega) (by omega)).mono ?_); rintro en w6 ⟨x, rfl, hx, -, hc6, hg6⟩; have hxl : x < l.length := by { have := hx hzi; omega }; have hxi : (x : Int) < (l.length : Int) := hx hzi; have hs6 := (Hs5.out.below BA.out (Nat.le_refl _)).notg hg6; obtain ⟨ba, oa, lv, rfl, ha1, ha2, ha3, haA, haL⟩ := hs6.1.atP hxl; have sm6 := hsm l[x] (List.getElem_mem _); generalize l[x] = A at haA haL sm6; obtain ⟨An, Af, Ao, As, Al⟩ := A; obtain ⟨g0, g1, g2, g3, g4⟩ := haA; simp only at g0 g1 g2 g3 g4 sm6; obtain ⟨ax, cx, rfl⟩ := haL.shape; have k6 := blk_notg5 (K5.out.below BA.out (by omega)) hg6 (by omega); have t6 := blk_notg5 (T5.out.below BA.out (by omega)) hg6 (by omega); have r6 := blk_notg5 (R5.out.below BA.out (by omega)) hg6 (by omega); have hG6 := grw_trans (grw_below HG5.out BA.out (by omega)) hg6; have hne : w.heap.size ≠ w5.heap.size := by { omega }; have c16 := k6.cell 1; have c17 := (k6.allocD (.cells #[.string { data := #[] }, .int .i64 0, .int .i64 0, .int .i64 0, .slice none 0 0] 51)).cell 1; simp only [List.getElem?_cons_zero, List.getElem?_cons_succ] at c16 c17; have bZ := (Below.refl w6.heap.size w6).alloc (Nat.le_refl _) (.cells #[.string { data := #[] }, .int .i64 0, .int .i64 0, .int .i64 0, .slice none 0 0] 51); have j0 := (bZ.cell (p := ⟨ba, oa + x * 5, none⟩) ha3).trans g0; have j1 := (bZ.cell (p := ⟨ba, oa + x * 5 + 1, none⟩) ha3).trans g1; have j2 := (bZ.cell (p := ⟨ba, oa + x * 5 + 2, none⟩) ha3).trans g2; have j3 := (bZ.cell (p := ⟨ba, oa + x * 5 + 3, none⟩) ha3).trans g3; have j4 := (bZ.cell (p := ⟨ba, oa + x * 5 + 4, none⟩) ha3).trans g4)
        | (go_simp; go_at_call 50; (with_reducible refine (l1Below_any w0 (w5.alloc (.cells #[.string { data := #[] }, .int .i64 0, .int .i64 0, .int .i64 0, .slice none 0 0] 51)).drew g cv code (l.length : Int) HcB.out hl (by omega) (by omega)).mono ?_); rintro en w6 ⟨x, rfl, hx, -, hc6, hg6⟩; have hxl : x < l.length := by { have := hx hzi; omega }; have hxi : (x : Int) < (l.length : Int) := hx hzi; have hs6 := (Hs5.out.below BB.out (Nat.le_refl _)).notg hg6; obtain ⟨ba, oa, lv, rfl, ha1, ha2, ha3, haA, haL⟩ := hs6.1.atP hxl; have sm6 := hsm l[x] (List.getElem_mem _); generalize l[x] = A at haA haL sm6; obtain ⟨An, Af, Ao, As, Al⟩ := A; obtain ⟨g0, g1, g2, g3, g4⟩ := haA; simp only at g0 g1 g2 g3 g4 sm6; obtain ⟨ax, cx, rfl⟩ := haL.shape; have k6 := blk_notg5 (K5.out.below BB.out (by omega)) hg6 (by omega); have t6 := blk_notg5 (T5.out.below BB.out (by omega)) hg6 (by omega); have r6 := blk_notg5 (R5.out.below BB.out (by omega)) hg6 (by omega); have hG6 := grw_trans (grw_below HG5.out BB.out (by omega)) hg6; have hne : w.heap.size ≠ w5.heap.size := by { omega }; have c16 := k6.cell 1; simp only [List.getElem?_cons_zero, List.getElem?_cons_succ] at c16; have kB6 := blk_notg5 KB.out hg6 (by omega); have n0 := kB6.cell 0; have n1 := kB6.cell 1; have n2 := kB6.cell 2; have n3 := kB6.cell 3; have n4 := kB6.cell 4; have m0 := kB6.frozen 0; have m1 := kB6.frozen 1; have m2 := kB6.frozen 2; have m3 := kB6.frozen 3; have m4 := kB6.frozen 4; simp only [List.getElem?_cons_zero, List.getElem?_cons_succ] at n0 n1 n2 n3 n4)))
      all_goals
        have hz35 := T5.out.lt
        have hzw5 := HG5.out.size
        have hzt := t6.lt
        have hzr := r6.lt
        first
        | (obtain ⟨W, hW⟩ : ∃ x, w6.alloc (.cells #[.string An, .int .i64 Af, .int .i64 Ao, .int .i64 As, .slice ax Al.length cx] 51) = x := ⟨_, rfl⟩
           rw [hW]
           have bW : Below w6.heap.size w6 W := by rw [← hW]; exact (Below.refl _ w6).alloc (Nat.le_refl _) _
           have kA : Blk W w6.heap.size 51 [.string An, .int .i64 Af, .int .i64 Ao, .int .i64 As, .slice ax Al.length cx] := by rw [← hW]; exact Blk.new w6 _ _
           have tW := t6.below bW hzt
           have rW := r6.below bW hzr
           have hcW := hc6.below bW hc6.lt
           have hGW := grw_below hG6 bW (by omega)
           have hne3 : w6.heap.size ≠ w3.heap.size := by omega
           clear hW
           generalize w6.heap.size = Ba at kA hne3 ⊢)
        | (obtain ⟨W, hW⟩ : ∃ x, ((((w6.setCell ⟨w5.heap.size, 0, none⟩ (.string An)).setCell ⟨w5.heap.size, 1, none⟩ (.int .i64 Af)).setCell ⟨w5.heap.size, 2, none⟩ (.int .i64 Ao)).setCell ⟨w5.heap.size, 3, none⟩ (.int .i64 As)).setCell ⟨w5.heap.size, 4, none⟩ (.slice ax Al.length cx) = x := ⟨_, rfl⟩
           rw [hW]
           have bW : Below w5.heap.size w6 W := by rw [← hW]; exact below_put5 w6 w5.heap.size _ _ _ _ _
           have kA : Blk W w5.heap.size 51 [.string An, .int .i64 Af, .int .i64 Ao, .int .i64 As, .slice ax Al.length cx] := by rw [← hW]; exact ((((kB6.setD 0 _ (by simp)).setD 1 _ (by simp)).setD 2 _ (by simp)).setD 3 _ (by simp)).setD 4 _ (by simp)
           have tW := t6.below bW hz35
           have rW := r6.below bW (by omega)
           have hcW := hc6.below bW hg5'
           have hGW := grw_below hG6 bW hzw5
           have hne3 : w5.heap.size ≠ w3.heap.size := by omega
           clear hW
           generalize w5.heap.size = Ba at kA hne3 ⊢)
        have e0 := kA.cell 0
        have f1 := tW.frozen 1
        have y1 := tW.cell 1
        have kA1 := kA.setOther 1 (.string An) hne3
        have tW1 := tW.setD 1 (.string An) (by simp)
        have e2 := kA1.cell 2
        have f4 := tW1.frozen 4
        have y4 := tW1.cell 4
        have tW2 := tW1.setD 4 (.int .i64 Ao) (by simp)
        have rW2 := (rW.setOther 1 (.string An) (show w.heap.size + 1 ≠ w3.heap.size by omega)).setOther 4 (.int .i64 Ao) (show w.heap.size + 1 ≠ w3.heap.size by omega)
        have bT : Below w3.heap.size W ((W.setCell ⟨w3.heap.size, 1, none⟩ (.string An)).setCell ⟨w3.heap.size, 4, none⟩ (.int .i64 Ao)) := ((Below.refl _ W).setCell (p := ⟨w3.heap.size, 1, none⟩) (Nat.le_refl _) _).setCell (p := ⟨w3.heap.size, 4, none⟩) (Nat.le_refl _) _
        have q0 := tW2.cell 0
        have q1 := tW2.cell 1
        have q2 := tW2.cell 2
        have q3 := tW2.cell 3
        have q4 := tW2.cell 4
        have p0 := rW2.cell 0
        have p1 := rW2.cell 1
        have p2 := rW2.cell 2
        have p3 := rW2.cell 3
        have p4 := rW2.cell 4
        have v0 := rW2.frozen 0
        have v1 := rW2.frozen 1
        have v2 := rW2.frozen 2
        have v3 := rW2.frozen 3
        have v4 := rW2.frozen 4
        simp only [List.set_cons_zero, List.set_cons_succ, List.getElem?_cons_zero, List.getElem?_cons_succ] at e0 e2 y1 y4 q0 q1 q2 q3 q4 p0 p1 p2 p3 p4
        have HE := hide (drU_end (hcW.below bT (by omega)) (grw_below hGW bT (by omega)) (show g < w.heap.size + 1 by omega) (by omega) (.int .i64 k) (.string An) (.string to) (.int .i64 am) (.int .i64 Ao))
        clear kA kA1 tW tW1 tW2 rW rW2 hcW hGW bT bW k6 t6 r6 hG6 hg6 hc6 g0 g1 g2 g3 g4
        go_wp2
        refine bodyPost_ret (v := txV (k, An, to, am, Ao)) (by simp [results, Tryz.f55, go_sem, txV, p0, p1, p2, p3, p4]) rfl ?_
        exact ⟨(k, An, to, am, Ao), rfl, sm6, ht9, HE.out.1, HE.out.2⟩
    · have q0 := t5.cell 0
      have q1 := t5.cell 1
      have q2 := t5.cell 2
      have q3 := t5.cell 3
      have q4 := t5.cell 4
      have p0 := r5.cell 0
      have p1 := r5.cell 1
      have p2 := r5.cell 2
      have p3 := r5.cell 3
      have p4 := r5.cell 4
      have f0 := r5.frozen 0
      have f1 := r5.frozen 1
      have f2 := r5.frozen 2
      have f3 := r5.frozen 3
      have f4 := r5.frozen 4
      simp only [List.getElem?_cons_zero, List.getElem?_cons_succ] at q0 q1 q2 q3 q4 p0 p1 p2 p3 p4
      have HE := hide (drU_end hc5 HG5.out (show g < w.heap.size + 1 by omega) (by omega) (.int .i64 k) (.string f) (.string to) (.int .i64 am) (.int .i64 no))
      clear t5 k5 r5 hc5 hz hz3 hz4 hz5 s1 s2
      go_wp2
      refine bodyPost_ret (v := txV (k, f, to, am, no)) (by simp [results, Tryz.f55, go_sem, txV, p0, p1, p2, p3, p4]) rfl ?_
      exact ⟨(k, f, to, am, no), rfl, hf9, ht9, HE.out.1, HE.out.2⟩
end Go.Proofs.YtbbkeebfginlfaaGreatDoor
