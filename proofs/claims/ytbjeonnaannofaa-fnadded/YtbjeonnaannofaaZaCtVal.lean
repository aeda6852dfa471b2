/- A certificate of leavings by value: made, held against another, its size; the greatest High. -/
import Derived.Test.YtbjeonnaannofaaZaInts
import Derived.Test.YtbjeonnaannofaaZaDrawTx5
namespace Go.Proofs.Ytbjeonnaannofaa
open Go.RowKit
set_option linter.unusedVariables false

/-- Its value: its round, its names being vw, its Highs vh. -/
def tcV (r : Int) (vw vh : Value) : Value := .agg #[.int .i64 r, vw, vh]
theorem OwnS.olderC {base : Nat} {w : World} {v : Value} {l : List ByteArray} (h : OwnS base w v l) {g : Nat} (hg : g < base) (j : Nat) (u : Value) : OwnS base (w.setCell ⟨g, j, none⟩ u) v l :=
  row_set h g j u (fun k hk => by have := h.ge k hk; omega)
theorem OwnI.olderC {base : Nat} {w : World} {v : Value} {l : List Int} (h : OwnI base w v l) {g : Nat} (hg : g < base) (j : Nat) (u : Value) : OwnI base (w.setCell ⟨g, j, none⟩ u) v l :=
  row_set h g j u (fun k hk => by have := h.ge k hk; omega)
theorem Blk.setC {W : World} {B : Nat} {t : TypeId} {cs : List Value} (h : Blk W B t cs) (j : Nat) (u : Value) : Blk (W.setCell ⟨B, j, none⟩ u) B t (cs.set j u) := by
  have e := heap_setCell_same W B j cs.toArray t u h
  simpa [Blk] using e
theorem Blk.otherC {W : World} {B : Nat} {t : TypeId} {cs : List Value} (h : Blk W B t cs) (g j : Nat) (u : Value) (hne : B ≠ g) : Blk (W.setCell ⟨g, j, none⟩ u) B t cs := (heap_setCell_other W ⟨g, j, none⟩ B u hne).trans h
set_option maxRecDepth 20000 in
set_option maxHeartbeats 1000000 in
theorem toTc_any (r : Int) (vw vh : Value) (ws : List ByteArray) (hs : List Int) (w : World) (hrw : RdS w vw ws) (hrh : RdI w vh hs) (hlw : ws.length ≤ 4000000) (hlh : hs.length ≤ 4000000) :
    Calls Try.prog 82 #[tcV r vw vh] w fun en w' => ∃ vw' vh', en = .returned (tcV r vw' vh') ∧ OwnS w.heap.size w' vw' ws ∧ OwnI w.heap.size w' vh' hs ∧ Below w.heap.size w w' := by
  obtain ⟨aw, cw, rfl⟩ := hrw.shape
  obtain ⟨ah, ch, rfl⟩ := hrh.shape
  have Hrw := hide hrw
  have Hrh := hide hrh
  clear hrw hrh
  simp only [tcV] at *
  go_enter Try.func82, Try.ntmps82
  go_wp2_with fail
  obtain ⟨w3, hw3⟩ : ∃ w3, ((w.alloc (.cells #[.int .i64 r, .slice aw ws.length cw, .slice ah hs.length ch] 58)).alloc (.cells #[.int .i64 0, .slice none 0 0, .slice none 0 0] 33)).alloc (.cells #[.int .i64 r, .slice none 0 0, .slice none 0 0] 33) = w3 := ⟨_, rfl⟩
  rw [hw3]
  have hb3 : Below w.heap.size w w3 := by rw [← hw3]; exact (((Below.refl _ w).alloc (Nat.le_refl _) _).alloc (by simp) _).alloc (by simp; omega) _
  have hs3 : w3.heap.size = w.heap.size + 3 := by rw [← hw3]; simp
  have kP : Blk w3 w.heap.size 58 [.int .i64 r, .slice aw ws.length cw, .slice ah hs.length ch] := by
    rw [← hw3]
    exact (Blk.new w 58 [.int .i64 r, .slice aw ws.length cw, .slice ah hs.length ch]).below (((Below.refl (w.heap.size + 1) _).alloc (by simp) _).alloc (by simp) _) (by omega)
  have kO : Blk w3 (w.heap.size + 1 + 1) 33 [.int .i64 r, .slice none 0 0, .slice none 0 0] := by
    rw [← hw3]
    have h := Blk.new ((w.alloc (.cells #[.int .i64 r, .slice aw ws.length cw, .slice ah hs.length ch] 58)).alloc (.cells #[.int .i64 0, .slice none 0 0, .slice none 0 0] 33)) 33 [.int .i64 r, .slice none 0 0, .slice none 0 0]
    simp only [World.size_alloc] at h
    exact h
  have kR : Blk w3 (w.heap.size + 1) 33 [.int .i64 0, .slice none 0 0, .slice none 0 0] := by
    rw [← hw3]
    have h := Blk.new (w.alloc (.cells #[.int .i64 r, .slice aw ws.length cw, .slice ah hs.length ch] 58)) 33 [.int .i64 0, .slice none 0 0, .slice none 0 0]
    simp only [World.size_alloc] at h
    exact h.below ((Below.refl (w.heap.size + 2) _).alloc (by simp) _) (by omega)
  refine (toStringS_any _ ws _ (Hrw.out.below hb3 (Nat.le_refl _)) hlw).mono ?_
  rintro en w4 ⟨v4, rfl, o4, hb4⟩
  obtain ⟨a4, c4, rfl⟩ := o4.rd.shape
  have kP4 := kP.below hb4 (by omega)
  have kO4 := kO.below hb4 (by omega)
  have kR4 := kR.below hb4 (by omega)
  have hs4 := hb4.size
  have c0 := kO4.cell 0
  have c1 := kO4.cell 1
  have c2 := kO4.cell 2
  have g1 := kO4.frozen 1
  have p2 := kP4.cell 2
  simp only [List.getElem?_cons_zero, List.getElem?_cons_succ] at c0 c1 c2 p2
  obtain ⟨w5, hw5⟩ : ∃ x, w4.setCell ⟨w.heap.size + 1 + 1, 1, none⟩ (.slice a4 ws.length c4) = x := ⟨_, rfl⟩
  have kO5 : Blk w5 (w.heap.size + 1 + 1) 33 [.int .i64 r, .slice a4 ws.length c4, .slice none 0 0] := by rw [← hw5]; exact kO4.setC 1 _
  have kR5 : Blk w5 (w.heap.size + 1) 33 [.int .i64 0, .slice none 0 0, .slice none 0 0] := by rw [← hw5]; exact kR4.otherC _ 1 _ (by omega)
  have kP5 : Blk w5 w.heap.size 58 [.int .i64 r, .slice aw ws.length cw, .slice ah hs.length ch] := by rw [← hw5]; exact kP4.otherC _ 1 _ (by omega)
  have o5 : OwnS w3.heap.size w5 (.slice a4 ws.length c4) ws := by rw [← hw5]; exact o4.olderC (by omega) _ _
  have hb5 : Below w.heap.size w w5 := by rw [← hw5]; exact (hb3.trans (hb4.mono hb3.size)).setCell (p := ⟨w.heap.size + 1 + 1, 1, none⟩) (show w.heap.size ≤ w.heap.size + 1 + 1 by omega) _
  have hs5 : w5.heap.size = w4.heap.size := by rw [← hw5]; simp
  have HI := hide (toIntS_any _ hs w5 (Hrh.out.below hb5 (Nat.le_refl _)) hlh)
  have q2 := kP5.cell 2
  simp only [List.getElem?_cons_zero, List.getElem?_cons_succ] at q2
  have O5 := hide o5
  have KO := hide kO5
  have KR := hide kR5
  have HB := hide hb5
  have HS := hide hs5
  clear o4 hb4 kO kR kP kO4 kR4 kP4 hw3 hb3 o5 kO5 kR5 kP5 hb5 hs5
  go_wp2_with fail
  refine HI.out.mono ?_
  rintro en w6 ⟨v6, rfl, o6, hb6⟩
  obtain ⟨a6, c6, rfl⟩ := o6.rd.shape
  have hs5 := HS.out
  have k6 := KO.out.below hb6 KO.out.lt
  have r6 := KR.out.below hb6 KR.out.lt
  have d0 := k6.cell 0
  have d1 := k6.cell 1
  have d2 := k6.cell 2
  have f2 := k6.frozen 2
  have e0 := r6.cell 0
  have e1 := r6.cell 1
  have e2 := r6.cell 2
  have f3 := r6.frozen 0
  have f4 := r6.frozen 1
  have f5 := r6.frozen 2
  simp only [List.getElem?_cons_zero, List.getElem?_cons_succ] at d0 d1 d2 e0 e1 e2
  have HoW := hide (((((O5.out.below hb6 (Nat.le_refl _)).olderC (g := w.heap.size + 1 + 1) (by omega) 2 (.slice a6 hs.length c6)).olderC (g := w.heap.size + 1) (by omega) 0 (.int .i64 r)).olderC (g := w.heap.size + 1) (by omega) 1 (.slice a4 ws.length c4)).olderC (g := w.heap.size + 1) (by omega) 2 (.slice a6 hs.length c6))
  have HoH := hide ((((o6.olderC (g := w.heap.size + 1 + 1) (by omega) 2 (.slice a6 hs.length c6)).olderC (g := w.heap.size + 1) (by omega) 0 (.int .i64 r)).olderC (g := w.heap.size + 1) (by omega) 1 (.slice a4 ws.length c4)).olderC (g := w.heap.size + 1) (by omega) 2 (.slice a6 hs.length c6))
  have HB6 := hide (((((HB.out.trans (hb6.mono HB.out.size)).setCell (p := ⟨w.heap.size + 1 + 1, 2, none⟩) (show w.heap.size ≤ w.heap.size + 1 + 1 by omega) (.slice a6 hs.length c6)).setCell (p := ⟨w.heap.size + 1, 0, none⟩) (show w.heap.size ≤ w.heap.size + 1 by omega) (.int .i64 r)).setCell (p := ⟨w.heap.size + 1, 1, none⟩) (show w.heap.size ≤ w.heap.size + 1 by omega) (.slice a4 ws.length c4)).setCell (p := ⟨w.heap.size + 1, 2, none⟩) (show w.heap.size ≤ w.heap.size + 1 by omega) (.slice a6 hs.length c6))
  have hb3 : w.heap.size ≤ w3.heap.size := by omega
  have hb4 : w.heap.size ≤ w5.heap.size := by omega
  clear o6 hb6 k6 r6 hs5 O5 HI
  go_wp2
  refine bodyPost_ret (v := .agg #[.int .i64 r, .slice a4 ws.length c4, .slice a6 hs.length c6]) (by simp [results, Try.f82, go_sem, e0, e1, e2]) rfl ?_
  exact ⟨_, _, rfl, HoW.out.mono hb3, HoH.out.mono hb4, HB6.out⟩
set_option maxRecDepth 20000 in
set_option maxHeartbeats 1000000 in
theorem eqTc_any (r : Int) (vw1 vh1 vw2 vh2 : Value) (ws : List ByteArray) (hs : List Int) (w : World) (h1 : RdS w vw1 ws) (h2 : RdI w vh1 hs) (h3 : RdS w vw2 ws) (h4 : RdI w vh2 hs) (hlw : ws.length ≤ 4000000) (hlh : hs.length ≤ 4000000) :
    Calls Try.prog 63 #[tcV r vw1 vh1, tcV r vw2 vh2] w fun en w' => en = .returned (.bool true) ∧ Below w.heap.size w w' := by
  obtain ⟨a1, c1, rfl⟩ := h1.shape
  obtain ⟨a2, c2, rfl⟩ := h2.shape
  obtain ⟨a3, c3, rfl⟩ := h3.shape
  obtain ⟨a4, c4, rfl⟩ := h4.shape
  simp only [tcV] at *
  obtain ⟨w2, hw2⟩ : ∃ w2, (w.alloc (.cells #[.int .i64 r, .slice a1 ws.length c1, .slice a2 hs.length c2] 33)).alloc (.cells #[.int .i64 r, .slice a3 ws.length c3, .slice a4 hs.length c4] 33) = w2 := ⟨_, rfl⟩
  have hb2 : Below w.heap.size w w2 := by rw [← hw2]; exact ((Below.refl _ w).alloc (Nat.le_refl _) _).alloc (by simp) _
  have kA : Blk w2 w.heap.size 33 [.int .i64 r, .slice a1 ws.length c1, .slice a2 hs.length c2] := by
    rw [← hw2]
    exact (Blk.new w 33 [.int .i64 r, .slice a1 ws.length c1, .slice a2 hs.length c2]).below ((Below.refl (w.heap.size + 1) _).alloc (by simp) _) (by omega)
  have kB : Blk w2 (w.heap.size + 1) 33 [.int .i64 r, .slice a3 ws.length c3, .slice a4 hs.length c4] := by
    rw [← hw2]
    have h := Blk.new (w.alloc (.cells #[.int .i64 r, .slice a1 ws.length c1, .slice a2 hs.length c2] 33)) 33 [.int .i64 r, .slice a3 ws.length c3, .slice a4 hs.length c4]
    simp only [World.size_alloc] at h
    exact h
  have HE := hide (eqStringS_any _ _ ws ws w2 (h1.below hb2 (Nat.le_refl _)) (h3.below hb2 (Nat.le_refl _)) hlw hlw)
  rw [decide_eq_true rfl] at HE
  have HF := hide (fun V (hb : Below w.heap.size w V) => eqIntS_any (.slice a2 hs.length c2) (.slice a4 hs.length c4) hs hs V (h2.below hb (Nat.le_refl _)) (h4.below hb (Nat.le_refl _)) hlh hlh)
  rw [decide_eq_true rfl] at HF
  have x0 := kA.cell 0
  have x1 := kA.cell 1
  have x2 := kA.cell 2
  have y0 := kB.cell 0
  have y1 := kB.cell 1
  have y2 := kB.cell 2
  simp only [List.getElem?_cons_zero, List.getElem?_cons_succ] at x0 x1 x2 y0 y1 y2
  clear h1 h2 h3 h4
  go_enter Try.func63, Try.ntmps63
  go_wp2_with fail
  refine HE.out.mono ?_
  rintro en w3 ⟨rfl, hb3⟩
  have kA3 := kA.below (hb3 w2.heap.size) kA.lt
  have kB3 := kB.below (hb3 w2.heap.size) kB.lt
  have hB3 := hb2.trans (hb3 w.heap.size)
  have u2 := kA3.cell 2
  have z2 := kB3.cell 2
  simp only [List.getElem?_cons_zero, List.getElem?_cons_succ] at u2 z2
  clear x0 x1 x2 y0 y1 y2 kA kB kA3 kB3 hb3
  go_wp2_with fail
  refine (HF.out _ hB3).mono ?_
  rintro en w4 ⟨rfl, hb4⟩
  have hB4 := hB3.trans (hb4 w.heap.size)
  go_wp2
  go_ret
  exact ⟨rfl, hB4⟩
set_option maxRecDepth 20000 in
set_option maxHeartbeats 1000000 in
theorem szTcM_any (r : Int) (vw vh : Value) (ws : List ByteArray) (hs : List Int) (m : Nat) (w : World) (hrw : RdS w vw ws) (hrh : RdI w vh hs) (hm : m ≤ 100000000) (hlw : ws.length ≤ 9223372036854775807) (hsw : ∀ s ∈ ws, s.size ≤ 9223372036854775807) (hlh : hs.length ≤ 9223372036854775807) :
    Calls Try.prog 78 #[tcV r vw vh, .int .i64 (m : Int)] w fun en w' => ∃ q : Int, en = .returned (.int .i64 q) ∧ (0 ≤ q → ws.length + tot ws + hs.length ≤ m ∧ q ≤ (m : Int)) ∧ Below w.heap.size w w' := by
  obtain ⟨a1, c1, rfl⟩ := hrw.shape
  obtain ⟨a2, c2, rfl⟩ := hrh.shape
  simp only [tcV] at *
  obtain ⟨w1, hw1⟩ : ∃ w1, w.alloc (.cells #[.int .i64 r, .slice a1 ws.length c1, .slice a2 hs.length c2] 58) = w1 := ⟨_, rfl⟩
  have hb1 : Below w.heap.size w w1 := by rw [← hw1]; exact (Below.refl _ w).alloc (Nat.le_refl _) _
  have kA : Blk w1 w.heap.size 58 [.int .i64 r, .slice a1 ws.length c1, .slice a2 hs.length c2] := by rw [← hw1]; exact Blk.new w _ _
  have HZ := hide (szStringS_any _ ws m w1 (hrw.below hb1 (Nat.le_refl _)) hm hlw hsw)
  have Hok : Hid (0 ≤ szR ws m → szR ws m = ((m - (ws.length + tot ws) : Nat) : Int) ∧ ws.length + tot ws ≤ m) := hide (fun h => by unfold szR at h ⊢; split at h <;> rename_i h' <;> first | (rw [if_pos h']; omega) | omega)
  have Hh := hide (fun (k : Nat) hk => szIntS_any (.slice a2 hs.length c2) hs k w1 (hrh.below hb1 (Nat.le_refl _)) hk hlh)
  have x1 := kA.cell 1
  have x2 := kA.cell 2
  simp only [List.getElem?_cons_zero, List.getElem?_cons_succ] at x1 x2
  generalize szR ws m = z at HZ Hok
  clear hrw hrh hsw
  by_cases hz : z < 0
  · clear Hok Hh
    go_enter Try.func78, Try.ntmps78
    go_wp2_with fail
    refine HZ.out.mono ?_
    rintro en w2 ⟨rfl, hw2⟩
    subst hw2
    go_wp2
    go_ret
    exact ⟨_, rfl, fun h => by omega, hb1⟩
  · obtain ⟨hz1, hz2⟩ := Hok.out (by omega)
    obtain ⟨k, hk⟩ : ∃ k, m - (ws.length + tot ws) = k := ⟨_, rfl⟩
    rw [hk] at hz1
    subst hz1
    have hkm : ws.length + tot ws + k = m := by omega
    have Hkm := hide hkm
    have Hk := hide (Hh.out k (by omega))
    clear Hok Hh hk hkm hz2
    go_enter Try.func78, Try.ntmps78
    go_wp2_with fail
    refine HZ.out.mono ?_
    rintro en w2 ⟨rfl, hw2⟩
    obtain rfl : w2 = w1 := hw2
    go_wp2_with fail
    refine Hk.out.mono ?_
    rintro en w3 ⟨q, rfl, hq, hw3⟩
    obtain rfl : w3 = w2 := hw3
    by_cases hq0 : q < 0
    · clear hq
      go_wp2
      go_ret
      exact ⟨_, rfl, fun h => by omega, hb1⟩
    · have Hq := hide (hq (by omega))
      clear hq
      go_wp2
      go_ret
      exact ⟨_, rfl, fun _ => ⟨by have := Hq.out; have := Hkm.out; omega, by have := Hq.out; have := Hkm.out; omega⟩, hb1⟩
theorem szTc_any (r : Int) (vw vh : Value) (ws : List ByteArray) (hs : List Int) (m : Nat) (w : World) (hrw : RdS w vw ws) (hrh : RdI w vh hs) (hm : m ≤ 100000000) (hlw : ws.length ≤ 9223372036854775807) (hsw : ∀ s ∈ ws, s.size ≤ 9223372036854775807) (hlh : hs.length ≤ 9223372036854775807) :
    Calls Try.prog 78 #[tcV r vw vh, .int .i64 (m : Int)] w fun en w' => ∃ q : Int, en = .returned (.int .i64 q) ∧ (0 ≤ q → ws.length + tot ws + hs.length ≤ m) ∧ Below w.heap.size w w' :=
  (szTcM_any r vw vh ws hs m w hrw hrh hm hlw hsw hlh).mono fun en w' ⟨q, h1, h2, h3⟩ => ⟨q, h1, fun h => (h2 h).1, h3⟩
/-- The greatest of the numbers; 0. -/
def highI (hs : List Int) : Int := hs.foldl (fun n x => if n < x then x else n) 0
theorem high_snoc (hs : List Int) (k : Nat) (h : k < hs.length) : (hs.take (k + 1)).foldl (fun (n x : Int) => if n < x then x else n) 0 = (if (hs.take k).foldl (fun (n x : Int) => if n < x then x else n) 0 < hs[k] then hs[k] else (hs.take k).foldl (fun (n x : Int) => if n < x then x else n) 0) := by
  rw [List.take_succ_eq_append_getElem h, List.foldl_append]; rfl
end Go.Proofs.Ytbjeonnaannofaa
