/- The landed code's NextEpoch. -/
import Derived.Test.YtknmjahipekgpaaLgNextI
namespace Go.Proofs.Ytknmjahipekgpaa
open Go.RowKit
set_option linter.unusedVariables false

set_option maxRecDepth 20000 in
set_option maxHeartbeats 1000000 in
theorem implNext_any (e : Int) (v : Value) (l : List Ac) (w : World) (hr : RdA w v l) (hl : l.length ≤ 4000000) (hall : ∀ a ∈ l, a.1.size ≤ maxLen ∧ a.2.2.2.2.length ≤ 4000000) :
    Calls Try.prog 8 #[lgV e v] w fun en w' => ∃ v', en = .returned (lgV (neA e l).1 v') ∧ OwnA w.heap.size w' v' (neA e l).2 ∧ Below w.heap.size w w' := by
  obtain ⟨av, cv, rfl⟩ := hr.shape
  have hall2 : ∀ a ∈ l, a.2.2.2.2.length ≤ 4000000 := fun a ha => (hall a ha).2
  have hfa := fr_all (wrap64 (e + 1)) l hall
  obtain ⟨w2, hw2⟩ : ∃ w2, (w.alloc (.cells #[.int .i64 e, .slice av l.length cv] 26)).alloc (.cells #[.int .i64 0, .slice none 0 0] 26) = w2 := ⟨_, rfl⟩
  have hs2 : w2.heap.size = w.heap.size + 2 := by rw [← hw2]; simp
  have hb2 : Below w.heap.size w w2 := by rw [← hw2]; exact ((Below.refl _ w).alloc (Nat.le_refl _) _).alloc (by simp) _
  have k1 : Blk w2 w.heap.size 26 [.int .i64 e, .slice av l.length cv] := by
    rw [← hw2]
    exact (Blk.new w 26 [.int .i64 e, .slice av l.length cv]).alloc _
  have k2 : Blk w2 (w.heap.size + 1) 26 [.int .i64 0, .slice none 0 0] := by
    rw [← hw2]
    have h := Blk.new (w.alloc (.cells #[.int .i64 e, .slice av l.length cv] 26)) 26 [.int .i64 0, .slice none 0 0]
    simp only [World.size_alloc] at h
    exact h
  have c0 := k1.cell 0
  have c1 := k1.cell 1
  simp only [List.getElem?_cons_zero, List.getElem?_cons_succ] at c0 c1
  have r2 := hr.below hb2 (Nat.le_refl _)
  have HC := hide (implBehind_any e _ l w2 r2 hl hall2)
  have HO := hide (fun w hr => implLedgerOk_any e (.slice av l.length cv) l w hr hl hall)
  have HN := hide (fun v w hr => implLedgerOk_any (wrap64 (e + 1)) v (l.map (frA (wrap64 (e + 1)))) w hr (by simpa using hl) hfa)
  have HD := hide (fun w hr => implCopiedLg_any e (.slice av l.length cv) l w hr hl hall2)
  simp only [lgV] at HC HO HN HD ⊢
  have Hb2 := hide hb2
  have K1 := hide k1
  have K2 := hide k2
  have Hr2 := hide r2
  clear hr hb2 k1 k2 hall hall2 hfa r2
  go_enter Try.func8, Try.ntmps8
  go_wp2_with fail
  refine HC.out.mono ?_
  rintro en w3 ⟨v3, rfl, ho3, hb3⟩
  have hB3 := Hb2.out.trans (hb3.mono Hb2.out.size)
  have hs3 := hb3.size
  obtain ⟨a3, cv3, rfl⟩ := ho3.rd.shape
  obtain ⟨n, hn⟩ : ∃ n, (l.map (frA (wrap64 (e + 1)))).length = n := ⟨_, rfl⟩
  rw [hn] at ho3
  obtain ⟨w4, hw4⟩ : ∃ w4, w3.alloc (.cells #[.int .i64 (wrap64 (e + 1)), .slice a3 n cv3] 26) = w4 := ⟨_, rfl⟩
  have b4 : Below w3.heap.size w3 w4 := by rw [← hw4]; exact (Below.refl _ w3).alloc (Nat.le_refl _) _
  have hB4 : Below w.heap.size w w4 := hB3.trans (b4.mono hB3.size)
  have n4 : Blk w4 w3.heap.size 26 [.int .i64 (wrap64 (e + 1)), .slice a3 n cv3] := by rw [← hw4]; exact Blk.new w3 _ _
  have k14 := (K1.out.below hb3 K1.out.lt).below b4 (K1.out.below hb3 K1.out.lt).lt
  have k24 := (K2.out.below hb3 K2.out.lt).below b4 (K2.out.below hb3 K2.out.lt).lt
  have o4 := ho3.below b4 (Nat.le_refl _)
  have r4 := (Hr2.out.below hb3 (Nat.le_refl _)).below b4 (Nat.le_refl _)
  have hs4 : w4.heap.size = w3.heap.size + 1 := by rw [← hw4]; simp
  rw [hn]
  have d0 := k14.cell 0
  have d1 := k14.cell 1
  simp only [List.getElem?_cons_zero, List.getElem?_cons_succ] at d0 d1
  have Hno : Hid (lgB e l = false → neA e l = (e, l)) := hide neA_old
  have Hno2 : Hid (lgB (wrap64 (e + 1)) (l.map (frA (wrap64 (e + 1)))) = false → neA e l = (e, l)) := hide neA_new
  have Hyes : Hid (lgB e l = true → lgB (wrap64 (e + 1)) (l.map (frA (wrap64 (e + 1)))) = true → neA e l = (wrap64 (e + 1), l.map (frA (wrap64 (e + 1))))) := hide neA_yes
  clear c0 c1 K1 K2 HC hb3 hB3 ho3 b4 Hr2
  go_wp2_with fail
  refine (HO.out _ r4).mono ?_
  rintro en w5 ⟨rfl, hb5⟩
  have hB5 : Below w.heap.size w w5 := hB4.trans (hb5.mono hB4.size)
  have k15 := k14.below hb5 k14.lt
  have k25 := k24.below hb5 k24.lt
  have n5 := n4.below hb5 n4.lt
  have o5 := o4.below hb5 (Nat.le_refl _)
  have r5 := r4.below hb5 (Nat.le_refl _)
  clear d0 d1 k14 k24 n4 o4 r4 hB4
  cases h1 : lgB e l
  · have Hne := hide (Hno.out h1)
    have d0 := k15.cell 0
    have d1 := k15.cell 1
    simp only [List.getElem?_cons_zero, List.getElem?_cons_succ] at d0 d1
    clear Hno Hno2 Hyes h1
    go_wp2_with fail
    refine (HD.out _ r5).mono ?_
    rintro en w6 ⟨v6, rfl, ho6, hb6⟩
    have k26 := k25.below hb6 k25.lt
    obtain ⟨a6, cv6, rfl⟩ := ho6.rd.shape
    have r0 := k26.cell 0
    have r1 := k26.cell 1
    have g0 := k26.frozen 0
    have g1 := k26.frozen 1
    simp only [List.getElem?_cons_zero, List.getElem?_cons_succ] at r0 r1
    have hz5 := hb5.size
    have Ho := hide (((ho6.older (g := w.heap.size + 1) (by omega) 0 (.int .i64 e)).older (g := w.heap.size + 1) (by omega) 1 (.slice a6 l.length cv6)).mono (show w.heap.size ≤ _ by omega))
    have HB := hide (((hB5.trans (hb6.mono hB5.size)).setCell (p := ⟨w.heap.size + 1, 0, none⟩) (show w.heap.size ≤ w.heap.size + 1 by omega) (.int .i64 e)).setCell (p := ⟨w.heap.size + 1, 1, none⟩) (show w.heap.size ≤ w.heap.size + 1 by omega) (.slice a6 l.length cv6))
    clear ho6 hb6 k26
    go_wp2
    refine bodyPost_ret (v := .agg #[.int .i64 e, .slice a6 l.length cv6]) (by simp [results, Try.f8, go_sem, r0, r1]) rfl ?_
    rw [Hne.out]
    exact ⟨_, rfl, Ho.out, HB.out⟩
  · have d0 := n5.cell 0
    have d1 := n5.cell 1
    simp only [List.getElem?_cons_zero, List.getElem?_cons_succ] at d0 d1
    have Hyes := hide (Hyes.out h1)
    clear Hno h1
    go_wp2_with fail
    refine (HN.out _ _ o5.rd).mono ?_
    rintro en w7 ⟨rfl, hb7⟩
    have hB7 : Below w.heap.size w w7 := hB5.trans (hb7.mono hB5.size)
    have k17 := k15.below hb7 k15.lt
    have k27 := k25.below hb7 k25.lt
    have n7 := n5.below hb7 n5.lt
    have o7 := o5.below hb7 (Nat.le_refl _)
    have r7 := r5.below hb7 (Nat.le_refl _)
    have hz7 := hb7.size
    clear d0 d1 k15 k25 n5 o5 r5
    cases h2 : lgB (wrap64 (e + 1)) (l.map (frA (wrap64 (e + 1))))
    · have Hne := hide (Hno2.out h2)
      have d0 := k17.cell 0
      have d1 := k17.cell 1
      simp only [List.getElem?_cons_zero, List.getElem?_cons_succ] at d0 d1
      clear Hno2 Hyes h2
      go_wp2_with fail
      refine (HD.out _ r7).mono ?_
      rintro en w6 ⟨v6, rfl, ho6, hb6⟩
      have k26 := k27.below hb6 k27.lt
      obtain ⟨a6, cv6, rfl⟩ := ho6.rd.shape
      have r0 := k26.cell 0
      have r1 := k26.cell 1
      have g0 := k26.frozen 0
      have g1 := k26.frozen 1
      simp only [List.getElem?_cons_zero, List.getElem?_cons_succ] at r0 r1
      have hz5 := hb5.size
      have Ho := hide (((ho6.older (g := w.heap.size + 1) (by omega) 0 (.int .i64 e)).older (g := w.heap.size + 1) (by omega) 1 (.slice a6 l.length cv6)).mono (show w.heap.size ≤ _ by omega))
      have HB := hide (((hB7.trans (hb6.mono hB7.size)).setCell (p := ⟨w.heap.size + 1, 0, none⟩) (show w.heap.size ≤ w.heap.size + 1 by omega) (.int .i64 e)).setCell (p := ⟨w.heap.size + 1, 1, none⟩) (show w.heap.size ≤ w.heap.size + 1 by omega) (.slice a6 l.length cv6))
      clear ho6 hb6 k26
      go_wp2
      refine bodyPost_ret (v := .agg #[.int .i64 e, .slice a6 l.length cv6]) (by simp [results, Try.f8, go_sem, r0, r1]) rfl ?_
      rw [Hne.out]
      exact ⟨_, rfl, Ho.out, HB.out⟩
    · have Hne := hide (Hyes.out h2)
      have d0 := n7.cell 0
      have d1 := n7.cell 1
      have r0 := k27.cell 0
      have r1 := k27.cell 1
      have g0 := k27.frozen 0
      have g1 := k27.frozen 1
      simp only [List.getElem?_cons_zero, List.getElem?_cons_succ] at d0 d1 r0 r1
      have hz5 := hb5.size
      have Ho := hide (((o7.older (g := w.heap.size + 1) (by omega) 0 (.int .i64 (wrap64 (e + 1)))).older (g := w.heap.size + 1) (by omega) 1 (.slice a3 n cv3)).mono (show w.heap.size ≤ _ by omega))
      have HB := hide ((hB7.setCell (p := ⟨w.heap.size + 1, 0, none⟩) (show w.heap.size ≤ w.heap.size + 1 by omega) (.int .i64 (wrap64 (e + 1)))).setCell (p := ⟨w.heap.size + 1, 1, none⟩) (show w.heap.size ≤ w.heap.size + 1 by omega) (.slice a3 n cv3))
      clear Hno2 Hyes h2 o7 r7 k17 k27 n7
      go_wp2
      refine bodyPost_ret (v := .agg #[.int .i64 (wrap64 (e + 1)), .slice a3 n cv3]) (by simp [results, Try.f8, go_sem, r0, r1]) rfl ?_
      rw [Hne.out]
      exact ⟨_, rfl, Ho.out, HB.out⟩
end Go.Proofs.Ytknmjahipekgpaa
