/- Which blocks are the same: by the model, parts. -/
import Derived.Test.YtflccenbfeidhabBkSameP
namespace Go.Proofs.Ytflccenbfeidhab
open Go.RowKit
set_option linter.unusedVariables false

set_option maxRecDepth 20000 in
set_option maxHeartbeats 1000000 in
theorem specSameQc_any (r1 x1 r2 x2 : Int) (v1 v2 : Value) (l1 l2 : List ByteArray) (w : World) (h1 : RdS w v1 l1) (h2 : RdS w v2 l2) (hl1 : l1.length ≤ 4000000) (hl2 : l2.length ≤ 4000000) :
    Calls Try.prog 13 #[qcV r1 x1 v1, qcV r2 x2 v2] w fun e w' => e = .returned (.bool (decide (r1 = r2) && (decide (x1 = x2) && decide (l1 = l2)))) ∧ Below w.heap.size w w' := by
  obtain ⟨a1, c1, rfl⟩ := h1.shape
  obtain ⟨a2, c2, rfl⟩ := h2.shape
  simp only [qcV]
  obtain ⟨w1, hw1⟩ : ∃ x, w.alloc (.cells #[.int .i64 r1, .int .i64 x1, .slice a1 l1.length c1] 34) = x := ⟨_, rfl⟩
  have b1 : Below w.heap.size w w1 := by rw [← hw1]; exact (Below.refl _ w).alloc (Nat.le_refl _) _
  have k1 : Blk w1 w.heap.size 34 [.int .i64 r1, .int .i64 x1, .slice a1 l1.length c1] := by rw [← hw1]; exact Blk.new w _ _
  have s1 : w1.heap.size = w.heap.size + 1 := by rw [← hw1]; simp
  obtain ⟨w2, hw2⟩ : ∃ x, w1.alloc (.cells #[.int .i64 r2, .int .i64 x2, .slice a2 l2.length c2] 34) = x := ⟨_, rfl⟩
  have b2 : Below w1.heap.size w1 w2 := by rw [← hw2]; exact (Below.refl _ w1).alloc (Nat.le_refl _) _
  have j2 : Blk w2 (w.heap.size + 1) 34 [.int .i64 r2, .int .i64 x2, .slice a2 l2.length c2] := by rw [← hw2, ← s1]; exact Blk.new w1 _ _
  have hB2 : Below w.heap.size w w2 := b1.trans (b2.mono b1.size)
  have k2 := k1.below b2 (by omega)
  have HB2 := hide hB2
  have HE := hide (specSameS_any (.slice a1 l1.length c1) (.slice a2 l2.length c2) l1 l2 w2 (h1.below hB2 (Nat.le_refl _)) (h2.below hB2 (Nat.le_refl _)) hl1 hl2)
  have u0 := k2.cell 0
  have u1 := k2.cell 1
  have u2 := k2.cell 2
  simp only [List.getElem?_cons_zero, List.getElem?_cons_succ] at u0 u1 u2
  have y0 := j2.cell 0
  have y1 := j2.cell 1
  have y2 := j2.cell 2
  simp only [List.getElem?_cons_zero, List.getElem?_cons_succ] at y0 y1 y2
  clear h1 h2 k1 k2 j2 b1 b2 hB2
  by_cases e1 : r1 = r2
  · by_cases e2 : x1 = x2
    · have Hf : Hid ((decide (r1 = r2) && (decide (x1 = x2) && decide (l1 = l2))) = decide (l1 = l2)) := hide (by rw [decide_eq_true e1, decide_eq_true e2, Bool.true_and, Bool.true_and])
      generalize (decide (r1 = r2) && (decide (x1 = x2) && decide (l1 = l2))) = X at Hf ⊢
      generalize decide (l1 = l2) = D at Hf HE
      subst e1 e2
      go_enter Try.func13, Try.ntmps13
      go_wp2_with (go_at_call 33; refine HE.out.mono ?_; rintro e w3 ⟨rfl, hs3⟩)
      go_ret
      exact ⟨ret_bool Hf.out.symm, HB2.out.trans (hs3 _)⟩
    · have Hf : Hid ((decide (r1 = r2) && (decide (x1 = x2) && decide (l1 = l2))) = false) := hide (by rw [decide_eq_false e2, Bool.false_and, Bool.and_false])
      generalize (decide (r1 = r2) && (decide (x1 = x2) && decide (l1 = l2))) = X at Hf ⊢
      have hq := int_bf e2
      subst e1
      clear e2
      go_enter Try.func13, Try.ntmps13
      go_wp2
      go_ret
      exact ⟨ret_bool Hf.out.symm, HB2.out⟩
  · have Hf : Hid ((decide (r1 = r2) && (decide (x1 = x2) && decide (l1 = l2))) = false) := hide (by rw [decide_eq_false e1, Bool.false_and])
    generalize (decide (r1 = r2) && (decide (x1 = x2) && decide (l1 = l2))) = X at Hf ⊢
    have hq := int_bf e1
    clear e1
    go_enter Try.func13, Try.ntmps13
    go_wp2
    go_ret
    exact ⟨ret_bool Hf.out.symm, HB2.out⟩
set_option maxRecDepth 20000 in
set_option maxHeartbeats 2000000 in
theorem specSameTc_any (r1 r2 : Int) (v1 v2 g1 g2 : Value) (l1 l2 : List ByteArray) (n1 n2 : List Int) (w : World) (h1 : RdS w v1 l1) (h2 : RdS w v2 l2) (i1 : RdI w g1 n1) (i2 : RdI w g2 n2) (hl1 : l1.length ≤ 4000000) (hl2 : l2.length ≤ 4000000) (hn1 : n1.length ≤ 4000000) (hn2 : n2.length ≤ 4000000) :
    Calls Try.prog 14 #[tcV r1 v1 g1, tcV r2 v2 g2] w fun e w' => e = .returned (.bool (decide (r1 = r2) && (decide (l1 = l2) && decide (n1 = n2)))) ∧ Below w.heap.size w w' := by
  obtain ⟨a1, c1, rfl⟩ := h1.shape
  obtain ⟨a2, c2, rfl⟩ := h2.shape
  obtain ⟨a3, c3, rfl⟩ := i1.shape
  obtain ⟨a4, c4, rfl⟩ := i2.shape
  simp only [tcV]
  obtain ⟨w1, hw1⟩ : ∃ x, w.alloc (.cells #[.int .i64 r1, .slice a1 l1.length c1, .slice a3 n1.length c3] 35) = x := ⟨_, rfl⟩
  have b1 : Below w.heap.size w w1 := by rw [← hw1]; exact (Below.refl _ w).alloc (Nat.le_refl _) _
  have k1 : Blk w1 w.heap.size 35 [.int .i64 r1, .slice a1 l1.length c1, .slice a3 n1.length c3] := by rw [← hw1]; exact Blk.new w _ _
  have s1 : w1.heap.size = w.heap.size + 1 := by rw [← hw1]; simp
  obtain ⟨w2, hw2⟩ : ∃ x, w1.alloc (.cells #[.int .i64 r2, .slice a2 l2.length c2, .slice a4 n2.length c4] 35) = x := ⟨_, rfl⟩
  have b2 : Below w1.heap.size w1 w2 := by rw [← hw2]; exact (Below.refl _ w1).alloc (Nat.le_refl _) _
  have j2 : Blk w2 (w.heap.size + 1) 35 [.int .i64 r2, .slice a2 l2.length c2, .slice a4 n2.length c4] := by rw [← hw2, ← s1]; exact Blk.new w1 _ _
  have hB2 : Below w.heap.size w w2 := b1.trans (b2.mono b1.size)
  have k2 := k1.below b2 (by omega)
  have HB2 := hide hB2
  have HE := hide (specSameS_any (.slice a1 l1.length c1) (.slice a2 l2.length c2) l1 l2 w2 (h1.below hB2 (Nat.le_refl _)) (h2.below hB2 (Nat.le_refl _)) hl1 hl2)
  have K2 := hide k2
  have J2 := hide j2
  have I1 := hide i1
  have I2 := hide i2
  have x0 := k2.cell 0
  have x1 := k2.cell 1
  simp only [List.getElem?_cons_zero, List.getElem?_cons_succ] at x0 x1
  have y0 := j2.cell 0
  have y1 := j2.cell 1
  simp only [List.getElem?_cons_zero, List.getElem?_cons_succ] at y0 y1
  obtain ⟨X, hX⟩ : ∃ X, X = (decide (r1 = r2) && (decide (l1 = l2) && decide (n1 = n2))) := ⟨_, rfl⟩
  rw [← hX]
  have HX := hide hX
  clear h1 h2 i1 i2 k1 k2 j2 b1 b2 hB2 hX
  by_cases e1 : r1 = r2
  · rw [decide_eq_true e1, Bool.true_and] at HX
    generalize decide (l1 = l2) = D at HX HE
    subst e1
    cases D
    · rw [Bool.false_and] at HX
      go_enter Try.func14, Try.ntmps14
      go_wp2_with (go_at_call 33; refine HE.out.mono ?_; rintro e w3 ⟨rfl, hs3⟩)
      go_ret
      exact ⟨ret_bool HX.out.symm, HB2.out.trans (hs3 _)⟩
    · rw [Bool.true_and] at HX
      by_cases hln : n1.length = n2.length
      · have hlen : ((n1.length : Int) != (n2.length : Int)) = false := by rw [hln]; simp
        have Hln := hide hln
        clear hln
        go_enter Try.func14, Try.ntmps14
        go_wp2_with fail
        refine HE.out.mono ?_
        rintro e w3 ⟨rfl, hs3⟩
        have hB3 := HB2.out.trans (hs3 _)
        have k3 := K2.out.below (hs3 _) K2.out.lt
        have j3 := J2.out.below (hs3 _) J2.out.lt
        have z2 := k3.cell 2
        have u2 := j3.cell 2
        simp only [List.getElem?_cons_zero, List.getElem?_cons_succ] at z2 u2
        go_wp2
        have K3 := hide k3
        have J3 := hide j3
        have HB3 := hide hB3
        clear k3 j3 hB3 hs3 x0 x1 y0 y1 z2 u2 hlen hw1 hw2
        go_loopw [5] (fun i wr => ∃ k : Nat, k ≤ n1.length ∧ i = .int .i64 k ∧ n1.take k = n2.take k ∧ Below w3.heap.size w3 wr) (fun i _ => n1.length - (intOf i).toNat)
        case atStart => exact ⟨0, Nat.zero_le _, rfl, rfl, Below.refl _ _⟩
        case round =>
          obtain ⟨k, hk, rfl, ht, hb⟩ := hrel
          have Ht := hide ht
          have kr := K3.out.below hb K3.out.lt
          have jr := J3.out.below hb J3.out.lt
          have z2 := kr.cell 2
          have u2 := jr.cell 2
          simp only [List.getElem?_cons_zero, List.getElem?_cons_succ] at z2 u2
          have HBr := hide (HB3.out.trans (hb.mono HB3.out.size))
          clear ht kr jr
          by_cases hlt : k < n1.length
          · have hlt2 : k < n2.length := by have := Hln.out; omega
            obtain ⟨p1, o1, rfl, m1, m2, m3, hc1⟩ := I1.out.at hlt
            obtain ⟨p2, o2, rfl, m4, m5, m6, hc2⟩ := I2.out.at hlt2
            replace hc1 := (HBr.out.cell (p := ⟨p1, o1 + k, none⟩) m3).trans hc1
            replace hc2 := (HBr.out.cell (p := ⟨p2, o2 + k, none⟩) m6).trans hc2
            have hli : (k : Int) < (n1.length : Int) := by omega
            have hli2 : (k : Int) < (n2.length : Int) := by omega
            have Hb := hide hb
            clear hb
            by_cases he : n1[k] = n2[k]
            · have Hnx := hide (take_eq_snoc hlt hlt2 Ht.out he)
              rw [← he] at hc2
              clear he
              generalize n1[k] = q1 at hc1 hc2
              go_wp2
              go_quiet (fail)
              go_wp2
              go_roundw
              case rel => exact ⟨k + 1, by omega, by go_num, Hnx.out, below_drewN Hb.out _⟩
              case measure => simp [intOf]; omega
            · have hf : Hid (decide (n1 = n2) = false) := hide (by rw [decide_eq_false]; intro e; subst e; exact he rfl)
              have Hf := hide (HX.out.trans hf.out)
              have hq := int_ne he
              clear he hf
              generalize n1[k] = q1 at hc1 hq
              generalize n2[k] = q2 at hc2 hq
              go_wp2
              go_quiet (fail)
              go_wp2
              go_ret
              exact ⟨ret_bool Hf.out.symm, below_drewN HBr.out _⟩
          · have hf : Hid (decide (n1 = n2) = true) := hide (by
              rw [decide_eq_true]
              have := Ht.out
              have h5 := Hln.out
              rwa [List.take_of_length_le (by omega), List.take_of_length_le (by omega)] at this)
            have Hf := hide (HX.out.trans hf.out)
            clear hb hf
            go_wp2
            go_ret
            exact ⟨ret_bool Hf.out.symm, HBr.out⟩
      · have hlen : ((n1.length : Int) != (n2.length : Int)) = true := by rw [bne_iff_ne]; omega
        have Hf := hide (HX.out.trans (decide_eq_false (by intro e; subst e; exact hln rfl)))
        clear hln
        go_enter Try.func14, Try.ntmps14
        go_wp2_with fail
        refine HE.out.mono ?_
        rintro e w3 ⟨rfl, hs3⟩
        have hB3 := HB2.out.trans (hs3 _)
        have k3 := K2.out.below (hs3 _) K2.out.lt
        have j3 := J2.out.below (hs3 _) J2.out.lt
        have z2 := k3.cell 2
        have u2 := j3.cell 2
        simp only [List.getElem?_cons_zero, List.getElem?_cons_succ] at z2 u2
        go_wp2
        go_ret
        exact ⟨ret_bool Hf.out.symm, hB3⟩
  · rw [decide_eq_false e1, Bool.false_and] at HX
    have hq := int_ne e1
    clear e1
    go_enter Try.func14, Try.ntmps14
    go_wp2
    go_ret
    exact ⟨ret_bool HX.out.symm, HB2.out⟩
end Go.Proofs.Ytflccenbfeidhab
