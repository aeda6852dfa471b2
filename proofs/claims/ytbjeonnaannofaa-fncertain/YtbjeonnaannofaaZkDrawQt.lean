/- Certificates drawn. -/
import Derived.Test.YtbjeonnaannofaaZkDrawBk
namespace Go.Proofs.Ytbjeonnaannofaa
open Go.RowKit
set_option linter.unusedVariables false

theorem rd_two_q (w : World) (n : Nat) (s t : ByteArray) (h : n = w.heap.size) : RdS (w.alloc (.cells #[.string s, .string t] 9)) (.slice (some ⟨n, 0, none⟩) 2 2) [s, t] := by
  subst h
  refine .inr ⟨w.heap.size, 0, 2, by simp, rfl, by simp, by unfold maxLen; omega, by simp, ?_⟩
  intro i hi
  have hb := Blk.new w 9 [.string s, .string t]
  simp only [List.length_cons, List.length_nil] at hi
  rcases (show i = 0 ∨ i = 1 from by omega) with rfl | rfl
  · exact hb.cell 0
  · exact hb.cell 1
set_option maxRecDepth 20000 in
set_option maxHeartbeats 1000000 in
theorem l7Who_any (w0 w : World) (g : Nat) (cv : Value) (code : List UInt8) (hc : Cur w0 w g cv code) (hl : code.length ≤ 1048576) :
    Calls Try.prog 114 #[.pointer (some ⟨g, 0, none⟩)] w fun e w' => ∃ (v' : Value) (ls : List ByteArray), e = .returned v' ∧ OwnS w.heap.size w' v' ls ∧ ls.length ≤ 7 ∧ (∀ s ∈ ls, s.size ≤ 9) ∧ Cur w0 w' g cv code ∧ w.grownBy w' (some g) := by
  have hgl := hc.lt
  go_enter Try.func114, Try.ntmps114
  go_wp2_with fail
  refine (l1Names_any w0 _ g cv code hc hl).mono ?_
  rintro e w1 ⟨v1, ls, rfl, o1, h5, h9, hc1, hg1⟩
  obtain ⟨a1, c1, rfl⟩ := o1.rd.shape
  have hs1 := hg1.size
  clear hc
  go_wp2_with fail
  refine (l1Once_any w0 _ g cv code 5 hc1 hl (by omega) (by omega)).mono ?_
  rintro e w2 ⟨bb, rfl, hc2, hg2⟩
  have HO2 := hide (o1.notg hg2 hgl)
  have HG2 := hide (grw_trans hg1 hg2)
  have hs2 := hg2.size
  have H9 := hide h9
  clear hc1 hg1 hg2 o1 h9
  cases bb
  · have HC2 := hide hc2
    clear hc2
    go_wp2
    go_ret
    exact ⟨_, ls, rfl, HO2.out, by omega, fun s hs => by have := H9.out s hs; omega, HC2.out, HG2.out⟩
  · go_wp2_with fail
    refine (l1NameAny_any w0 _ g cv code hc2 hl).mono ?_
    rintro e w3 ⟨s, rfl, hs9, hc3, hg3⟩
    have HO3 := hide (HO2.out.notg hg3 hgl)
    have HG3 := hide (grw_trans HG2.out hg3)
    have hs3 := hg3.size
    clear hc2 hg3 HO2 HG2
    go_wp2_with fail
    refine (l1Name_any w0 _ g cv code hc3 hl).mono ?_
    rintro e w4 ⟨t, rfl, ht9, hc4, hg4⟩
    have HO4 := hide (HO3.out.notg hg4 hgl)
    have HG4 := hide (grw_trans HG3.out hg4)
    have hs4 := hg4.size
    have HC4 := hide hc4
    clear hc3 hg4 HO3 HG3 hc4
    go_wp2_with (at_builtin; refine app_ownS _ rfl _ _ rfl w.heap.size _ _ ls [s, t] rfl rfl (HO4.out.alloc _) (rd_two_q _ _ _ _ (by simp)) (by simp; omega) (by simp; omega) ?_; intro v5 w5 ho5 hb5)
    have hb5' : Below w.heap.size w4 w5 := ((Below.refl _ _).alloc (by omega) _).trans hb5
    have HC5 := hide (HC4.out.below hb5' hgl)
    have HG5 := hide (grw_below HG4.out hb5' (Nat.le_refl _))
    have HO5 := hide ho5
    clear ho5 hb5 hb5'
    go_ret
    exact ⟨_, ls ++ [s, t], rfl, HO5.out, by simp; omega, fun u hu => by
      rcases List.mem_append.1 hu with h | h
      · have := H9.out u h; omega
      · simp only [List.mem_cons, List.not_mem_nil, or_false] at h
        rcases h with rfl | rfl
        · exact hs9
        · exact ht9, HC5.out, HG5.out⟩
set_option maxRecDepth 20000 in
set_option maxHeartbeats 2000000 in
theorem l8Qc_any (w0 w : World) (g : Nat) (cv : Value) (code : List UInt8) (hc : Cur w0 w g cv code) (hl : code.length ≤ 1048576) :
    Calls Try.prog 60 #[.pointer (some ⟨g, 0, none⟩)] w fun e w' => ∃ (r k : Int) (v' : Value) (ls : List ByteArray), e = .returned (qcV r k v') ∧ ((0 ≤ r ∧ r ≤ 10001) ∧ -1 ≤ k ∧ k ≤ 5) ∧ OwnS w.heap.size w' v' ls ∧ ls.length ≤ 7 ∧ (∀ s ∈ ls, s.size ≤ 9) ∧ Cur w0 w' g cv code ∧ w.grownBy w' (some g) := by
  have hgl := hc.lt
  obtain ⟨w1, hw1⟩ : ∃ w1, w.alloc (.cells #[.int .i64 0, .int .i64 0, .slice none 0 0] 31) = w1 := ⟨_, rfl⟩
  have hb1 : Below w.heap.size w w1 := by rw [← hw1]; exact (Below.refl _ w).alloc (Nat.le_refl _) _
  have hs1 : w1.heap.size = w.heap.size + 1 := by rw [← hw1]; simp
  have K1 : Hid (Blk w1 w.heap.size 31 [.int .i64 0, .int .i64 0, .slice none 0 0]) := hide (by rw [← hw1]; exact Blk.new w _ _)
  have Hc1 := hide (hc.below hb1 hgl)
  have HG1 := hide (grw_of_below (some g) hb1 (Nat.le_refl _))
  clear hc hb1
  go_enter Try.func60, Try.ntmps60
  go_wp2_with fail
  refine (l1Once_any w0 _ g cv code 4 Hc1.out hl (by omega) (by omega)).mono ?_
  rintro e w2 ⟨bb, rfl, hc2, hg2⟩
  have K2 := hide (blk_notg5 K1.out hg2 (by omega))
  have HG2 := hide (grw_trans HG1.out hg2)
  have hs2 := hg2.size
  clear hg2 K1 HG1 Hc1
  cases bb
  · obtain ⟨w3, hw3⟩ : ∃ w3, w2.alloc (.cells #[.int .i64 1, .int .i64 2, .int .i64 3, .int .i64 0, .int .i64 10001] 3) = w3 := ⟨_, rfl⟩
    have b3 : Below w2.heap.size w2 w3 := by rw [← hw3]; exact (Below.refl _ w2).alloc (Nat.le_refl _) _
    have HI3 : Hid (IntsAt w3 w2.heap.size [1, 2, 3, 0, 10001]) := hide (by rw [← hw3]; exact ints_new w2 [1, 2, 3, 0, 10001] 3)
    have hc3 := hc2.below b3 hc2.lt
    have K3 := hide (K2.out.below b3 (by omega))
    have HG3 := hide (grw_trans HG2.out (grw_of_below (some g) b3 (Nat.le_refl _)))
    have hs3 := b3.size
    clear hc2 b3 K2 HG2
    go_wp2_with fail
    refine (l1Int_any w0 _ g w2.heap.size cv code [1, 2, 3, 0, 10001] hc3 hl HI3.out (by omega) (by simp) (by simp) 5).mono ?_
    rintro e w4 ⟨r, rfl, hr, hc4, hg4⟩
    have Hrb : Hid (0 ≤ r ∧ r ≤ 10001) := hide (by simp only [List.mem_cons, List.not_mem_nil, or_false] at hr; omega)
    have K4 := hide (blk_notg5 K3.out hg4 (by omega))
    have HG4 := hide (grw_trans HG3.out hg4)
    have hs4 := hg4.size
    obtain ⟨w5, hw5⟩ : ∃ w5, w4.alloc (.cells #[.int .i64 0, .int .i64 1, .int .i64 5, .int .i64 (-1)] 3) = w5 := ⟨_, rfl⟩
    have b5 : Below w4.heap.size w4 w5 := by rw [← hw5]; exact (Below.refl _ w4).alloc (Nat.le_refl _) _
    have HI5 : Hid (IntsAt w5 w4.heap.size [0, 1, 5, -1]) := hide (by rw [← hw5]; exact ints_new w4 [0, 1, 5, -1] 3)
    have hc5 := hc4.below b5 hc4.lt
    have K5 := hide (K4.out.below b5 (by omega))
    have HG5 := hide (grw_trans HG4.out (grw_of_below (some g) b5 (Nat.le_refl _)))
    have hs5 := b5.size
    clear hc3 hc4 hg4 b5 K3 K4 HG3 HG4 HI3 hw3 hr
    go_wp2_with fail
    refine (l1Int_any w0 _ g w4.heap.size cv code [0, 1, 5, -1] hc5 hl HI5.out (by omega) (by simp) (by simp) 4).mono ?_
    rintro e w6 ⟨k, rfl, hk, hc6, hg6⟩
    have Hkb : Hid (-1 ≤ k ∧ k ≤ 5) := hide (by simp only [List.mem_cons, List.not_mem_nil, or_false] at hk; omega)
    have K6 := hide (blk_notg5 K5.out hg6 (by omega))
    have HG6 := hide (grw_trans HG5.out hg6)
    have hs6 := hg6.size
    clear hc5 hg6 K5 HG5 HI5 hw5 hk
    go_wp2_with fail
    refine (l7Who_any w0 _ g cv code hc6 hl).mono ?_
    rintro e w7 ⟨v7, ls, rfl, o7, h7, h9, hc7, hg7⟩
    obtain ⟨a7, c7, rfl⟩ := o7.rd.shape
    have k7 := blk_notg5 K6.out hg7 (by omega)
    have e0 := k7.cell 0
    have e1 := k7.cell 1
    have e2 := k7.cell 2
    have f0 := k7.frozen 0
    have f1 := k7.frozen 1
    have f2 := k7.frozen 2
    simp only [List.getElem?_cons_zero, List.getElem?_cons_succ] at e0 e1 e2
    have hbR : Below w.heap.size w7 (((w7.setCell ⟨w.heap.size, 0, none⟩ (.int .i64 r)).setCell ⟨w.heap.size, 1, none⟩ (.int .i64 k)).setCell ⟨w.heap.size, 2, none⟩ (.slice a7 ls.length c7)) := (((Below.refl _ w7).setCell (p := ⟨w.heap.size, 0, none⟩) (Nat.le_refl _) _).setCell (p := ⟨w.heap.size, 1, none⟩) (Nat.le_refl _) _).setCell (p := ⟨w.heap.size, 2, none⟩) (Nat.le_refl _) _
    have HC := hide (hc7.below hbR hgl)
    have HG := hide (grw_below (grw_trans HG6.out hg7) hbR (Nat.le_refl _))
    have HO := hide ((((o7.olderC (g := w.heap.size) (by omega) 0 (.int .i64 r)).olderC (g := w.heap.size) (by omega) 1 (.int .i64 k)).olderC (g := w.heap.size) (by omega) 2 (.slice a7 ls.length c7)).mono (show w.heap.size ≤ w6.heap.size by omega))
    have H9 := hide h9
    clear o7 hc7 hg7 k7 hbR K6 HG6 hc6 h9
    go_wp2
    refine bodyPost_ret (v := .agg #[.int .i64 r, .int .i64 k, .slice a7 ls.length c7]) (by simp [results, Try.f60, go_sem, e0, e1, e2]) rfl ?_
    exact ⟨r, k, _, ls, rfl, ⟨Hrb.out, Hkb.out⟩, HO.out, h7, H9.out, HC.out, HG.out⟩
  · have k2 := K2.out
    have e0 := k2.cell 0
    have e1 := k2.cell 1
    have e2 := k2.cell 2
    have f0 := k2.frozen 0
    have f1 := k2.frozen 1
    have f2 := k2.frozen 2
    simp only [List.getElem?_cons_zero, List.getElem?_cons_succ] at e0 e1 e2
    have hbR : Below w.heap.size w2 (((w2.setCell ⟨w.heap.size, 0, none⟩ (.int .i64 0)).setCell ⟨w.heap.size, 1, none⟩ (.int .i64 (-1))).setCell ⟨w.heap.size, 2, none⟩ (.slice none 0 0)) := (((Below.refl _ w2).setCell (p := ⟨w.heap.size, 0, none⟩) (Nat.le_refl _) _).setCell (p := ⟨w.heap.size, 1, none⟩) (Nat.le_refl _) _).setCell (p := ⟨w.heap.size, 2, none⟩) (Nat.le_refl _) _
    have HC := hide (hc2.below hbR hgl)
    have HG := hide (grw_below HG2.out hbR (Nat.le_refl _))
    clear k2 K2 hc2 hbR HG2
    go_wp2
    refine bodyPost_ret (v := .agg #[.int .i64 0, .int .i64 (-1), .slice none 0 0]) (by simp [results, Try.f60, go_sem, e0, e1, e2]) rfl ?_
    exact ⟨0, -1, _, [], rfl, by omega, nilSK _ _, by simp, by simp, HC.out, HG.out⟩
end Go.Proofs.Ytbjeonnaannofaa
