/- Ledgers drawn. A block of five cells that is written. -/
import Derived.Test.YtbbkeebfginlfaaGreatDoorZgDrawAny
import Derived.Test.YtbbkeebfginlfaaGreatDoorZgLgApF
import Derived.Deep.RegionHeldLaw
import Derived.Test.YtbbkeebfginlfaaGreatDoorZgTxVal
import Derived.Test.YtbbkeebfginlfaaGreatDoorZgAcMem
namespace Go.Proofs.YtbbkeebfginlfaaGreatDoor
open Go.RowKit
set_option linter.unusedVariables false

/-- A ledger that is drawn: its accounts few and small; the cursor goes on. -/
def LDrawn (w0 w : World) (g : Nat) (cv : Value) (code : List UInt8) (en : Ending) (w' : World) : Prop := ∃ (e : Int) (v : Value) (Z : List (Ac × Value)), en = .returned (lgV e v) ∧ DrA w.heap.size w' v Z ∧ SmallZ Z ∧ Cur w0 w' g cv code ∧ w.grownBy w' (some g)
theorem DrA.mono {base base' : Nat} {w : World} {v : Value} {Z : List (Ac × Value)} (h : DrA base w v Z) (hB : base' ≤ base) : DrA base' w v Z := by
  refine ⟨h.1, ⟨h.2.1.1, ?_⟩, fun q hq => (h.2.2 q hq).mono hB⟩
  rcases h.2.1.2 with h' | ⟨g', cap', cur, hv, hbb, r⟩
  · exact .inl h'
  · exact .inr ⟨g', cap', cur, hv, by omega, r⟩
theorem DrA.other {base : Nat} {w : World} {v : Value} {Z : List (Ac × Value)} (h : DrA base w v Z) (b j : Nat) (u : Value) (h1 : ∀ r, v.ownBlock = some r → r ≠ b) (h2 : ∀ q ∈ Z, ∀ r, q.2.ownBlock = some r → r ≠ b) : DrA base (w.setCell ⟨b, j, none⟩ u) v Z :=
  ⟨h.1, row_set h.2.1 b j u h1, fun q hq => row_set (h.2.2 q hq) b j u (h2 q hq)⟩
set_option maxRecDepth 20000 in
set_option maxHeartbeats 1000000 in
theorem l6Draw_any (w0 w : World) (g : Nat) (cv : Value) (code : List UInt8) (hc : Cur w0 w g cv code) (hl : code.length ≤ 1048576) :
    Calls Tryz.prog 49 #[.pointer (some ⟨g, 0, none⟩)] w fun en w' => LDrawn w0 w g cv code en w' := by
  have hgl := hc.lt
  obtain ⟨w1, hw1⟩ : ∃ w1, w.alloc (.cells #[.int .i64 0, .slice none 0 0] 33) = w1 := ⟨_, rfl⟩
  have b1 : Below w.heap.size w w1 := by rw [← hw1]; exact (Below.refl _ w).alloc (Nat.le_refl _) _
  have k1 : Blk w1 w.heap.size 33 [.int .i64 0, .slice none 0 0] := by rw [← hw1]; exact Blk.new w _ _
  have s1 : w1.heap.size = w.heap.size + 1 := by rw [← hw1]; simp
  have hc1 := hc.below b1 hgl
  have Hc := hide hc1
  clear hc hc1
  go_enter Tryz.func49, Tryz.ntmps49
  go_wp2_with fail
  refine (l1Below_any w0 w1 g cv code 3 Hc.out hl (by omega) (by omega)).mono ?_
  rintro en w2 ⟨x, rfl, -, -, hc2, hg2⟩
  have z2 := hg2.size
  have k2 := k1.notg hg2 (by omega)
  have Hc2 := hide hc2
  clear hc2 Hc k1
  go_wp2_with fail
  refine (l4Draw_any w0 w2 g cv code Hc2.out hl).mono ?_
  rintro en w3 ⟨G, cap, Z, rfl, hrow, hlv, hZ5, hZs, hc3, hg3⟩
  have z3 := hg3.size
  have k3 := k2.notg hg3 (by omega)
  have r0 := k3.cell 0
  have r1 := k3.cell 1
  have g0 := k3.frozen 0
  have g1 := k3.frozen 1
  simp only [List.getElem?_cons_zero, List.getElem?_cons_succ] at r0 r1
  have HD := hide (DrA.of hrow hlv)
  have HC3 := hide hc3
  have HG := hide (grownS_trans hg2 hg3)
  have HS : Hid (SmallZ Z) := hide ⟨by omega, fun q hq => ⟨(hZs q hq).1, by have := (hZs q hq).2; omega⟩⟩
  have hgg : ∀ j, (Value.slice (some ⟨G, 0, none⟩) Z.length cap).ownBlock = some j → w2.heap.size ≤ j := fun j hj => hrow.ge j hj
  clear hrow hlv hc3 hg2 hg3 k2 k3 hZs
  go_wp2
  refine bodyPost_ret (v := .agg #[.int .i64 (x : Int), .slice (some ⟨G, 0, none⟩) Z.length cap]) (by simp [results, Tryz.f49, go_sem, r0, r1]) rfl ?_
  refine ⟨x, .slice (some ⟨G, 0, none⟩) Z.length cap, Z, rfl, ?_, HS.out, ?_, ?_⟩
  · exact ((HD.out.notg (grown_set w3 w.heap.size 0 _) (by omega)).notg (grown_set _ w.heap.size 1 _) (by omega)).mono (by omega)
  · exact HC3.out.below (((Below.refl w.heap.size w3).setCell (p := ⟨w.heap.size, 0, none⟩) (Nat.le_refl _) _).setCell (p := ⟨w.heap.size, 1, none⟩) (Nat.le_refl _) _) hgl
  · exact grw_below (grw_trans (grw_of_below (some g) b1 (Nat.le_refl _)) HG.out) (((Below.refl w.heap.size w3).setCell (p := ⟨w.heap.size, 0, none⟩) (Nat.le_refl _) _).setCell (p := ⟨w.heap.size, 1, none⟩) (Nat.le_refl _) _) (Nat.le_refl _)
set_option maxRecDepth 20000 in
set_option maxHeartbeats 1000000 in
theorem l6Any_any (w0 w : World) (g : Nat) (cv : Value) (code : List UInt8) (hc : Cur w0 w g cv code) (hl : code.length ≤ 1048576) :
    Calls Tryz.prog 33 #[.pointer (some ⟨g, 0, none⟩)] w fun en w' => LDrawn w0 w g cv code en w' := by
  have hgl := hc.lt
  obtain ⟨w1, hw1⟩ : ∃ w1, w.alloc (.cells #[.int .i64 0, .slice none 0 0] 33) = w1 := ⟨_, rfl⟩
  have b1 : Below w.heap.size w w1 := by rw [← hw1]; exact (Below.refl _ w).alloc (Nat.le_refl _) _
  have k1 : Blk w1 w.heap.size 33 [.int .i64 0, .slice none 0 0] := by rw [← hw1]; exact Blk.new w _ _
  have s1 : w1.heap.size = w.heap.size + 1 := by rw [← hw1]; simp
  have hc1 := hc.below b1 hgl
  have Hc := hide hc1
  clear hc hc1
  go_enter Tryz.func33, Tryz.ntmps33
  go_wp2_with fail
  refine (l6Draw_any w0 w1 g cv code Hc.out hl).mono ?_
  rintro en w2 ⟨e, v, Z, rfl, hd2, hs2, hc2, hg2⟩
  unfold lgV
  have z2 := hg2.size
  have k2 := k1.notg hg2 (by omega)
  obtain ⟨⟨G, cap, rfl⟩, -⟩ := id hd2
  obtain ⟨w3, hw3⟩ : ∃ w3, w2.alloc (.cells #[.int .i64 e, .slice (some ⟨G, 0, none⟩) Z.length cap] 33) = w3 := ⟨_, rfl⟩
  have b3 : Below w2.heap.size w2 w3 := by rw [← hw3]; exact (Below.refl _ w2).alloc (Nat.le_refl _) _
  have kL : Blk w3 w2.heap.size 33 [.int .i64 e, .slice (some ⟨G, 0, none⟩) Z.length cap] := by rw [← hw3]; exact Blk.new w2 _ _
  have s3 : w3.heap.size = w2.heap.size + 1 := by rw [← hw3]; simp
  have hfa : (∀ r, (Value.slice (some ⟨G, 0, none⟩) Z.length cap).ownBlock = some r → r ≠ w2.heap.size) ∧ ∀ q ∈ Z, ∀ r, q.2.ownBlock = some r → r ≠ w2.heap.size := ⟨fun r hr => by have := (World.ownsRow.lt hd2.2.1 r hr).2; omega, fun q hq r hr => by have := (hd2.2.2 q hq).lt r hr; omega⟩
  have k3 := k2.below b3 k2.lt
  have hd3 := hd2.below b3 (Nat.le_refl _)
  have hc3 := hc2.below b3 (by have := hc2.lt; omega)
  have HG3 := hide (grw_below (grw_trans (grw_of_below (some g) b1 (Nat.le_refl _)) hg2) b3 (by omega))
  have Hc3 := hide hc3
  clear hc2 hc3 Hc k1 k2 hd2 hg2
  go_wp2_with fail
  refine (l1Below_any w0 w3 g cv code 10 Hc3.out hl (by omega) (by omega)).mono ?_
  rintro en w4 ⟨x, rfl, hx, -, hc4, hg4⟩
  have hx10 : x < 10 := by have := hx (by omega); omega
  have z4 := hg4.size
  have k4 := k3.notg hg4 (by omega)
  have kL4 := kL.notg hg4 (by omega)
  have hd4 := hd3.notg hg4 (by omega)
  have HG4 := hide (grw_trans HG3.out hg4)
  have Hc4 := hide hc4
  clear hc4 k3 kL hd3 hg4 hx
  by_cases hx0 : x = 0
  · subst hx0
    obtain ⟨w5, hw5⟩ : ∃ w5, w4.alloc (.cells #[.int .i64 (-1), .int .i64 900, .int .i64 901] 3) = w5 := ⟨_, rfl⟩
    have b5 : Below w4.heap.size w4 w5 := by rw [← hw5]; exact (Below.refl _ w4).alloc (Nat.le_refl _) _
    have hI5 : IntsAt w5 w4.heap.size [-1, 900, 901] := by rw [← hw5]; exact ints_new w4 [-1, 900, 901] 3
    have hc5 := hide (Hc4.out.below b5 Hc4.out.lt)
    go_wp2_with fail
    refine (l1Int_any w0 _ g w4.heap.size cv code [-1, 900, 901] hc5.out hl hI5 (by have := Hc4.out.lt; omega) (by simp) (by simp) 3).mono ?_
    rintro en w6 ⟨E, rfl, -, hc6, hg6⟩
    have z5 := b5.size
    have z6 := hg6.size
    have k6 := (k4.below b5 k4.lt).notg hg6 (by omega)
    have kL6 := (kL4.below b5 kL4.lt).notg hg6 (by have := Hc4.out.lt; have := hgl; omega)
    have hd6 := (hd4.below b5 (Nat.le_refl _)).notg hg6 (by omega)
    have y0 := kL6.cell 0
    have y0f := kL6.frozen 0
    simp only [List.getElem?_cons_zero] at y0
    obtain ⟨w7, hw7⟩ : ∃ w7, w6.setCell ⟨w2.heap.size, 0, none⟩ (.int .i64 E) = w7 := ⟨_, rfl⟩
    have kL7 : Blk w7 w2.heap.size 33 [.int .i64 E, .slice (some ⟨G, 0, none⟩) Z.length cap] := by rw [← hw7]; exact kL6.set 0 _
    have k7 : Blk w7 w.heap.size 33 [.int .i64 0, .slice none 0 0] := by rw [← hw7]; exact k6.other _ _ _ (by omega)
    have hd7 : DrA w1.heap.size w7 (.slice (some ⟨G, 0, none⟩) Z.length cap) Z := by rw [← hw7]; exact hd6.other _ _ _ hfa.1 hfa.2
    have hc7 : Cur w0 w7 g cv code := by rw [← hw7]; exact hc6.below ((Below.refl w.heap.size w6).setCell (p := ⟨w2.heap.size, 0, none⟩) (show w.heap.size ≤ w2.heap.size by omega) _) hgl
    have hg7 : w.grownBy w7 (some g) := by rw [← hw7]; exact grw_below (grw_trans (grw_below HG4.out b5 (by omega)) hg6) ((Below.refl w.heap.size w6).setCell (p := ⟨w2.heap.size, 0, none⟩) (show w.heap.size ≤ w2.heap.size by omega) _) (Nat.le_refl _)
    have r0 := k7.cell 0
    have r1 := k7.cell 1
    have g0 := k7.frozen 0
    have g1 := k7.frozen 1
    have i0 := kL7.cell 0
    have i1 := kL7.cell 1
    simp only [List.getElem?_cons_zero, List.getElem?_cons_succ] at r0 r1 i0 i1
    have HDx := hide ((((hd7).notg (grown_set w7 w.heap.size 0 (.int .i64 E)) (by omega)).notg (grown_set _ w.heap.size 1 (.slice (some ⟨G, 0, none⟩) Z.length cap)) (by omega)).mono (show w.heap.size ≤ _ by omega))
    have HCx := hide ((hc7).below (((Below.refl w.heap.size w7).setCell (p := ⟨w.heap.size, 0, none⟩) (Nat.le_refl _) (.int .i64 E)).setCell (p := ⟨w.heap.size, 1, none⟩) (Nat.le_refl _) (.slice (some ⟨G, 0, none⟩) Z.length cap)) hgl)
    have HGx := hide (grw_below (hg7) (((Below.refl w.heap.size w7).setCell (p := ⟨w.heap.size, 0, none⟩) (Nat.le_refl _) (.int .i64 E)).setCell (p := ⟨w.heap.size, 1, none⟩) (Nat.le_refl _) (.slice (some ⟨G, 0, none⟩) Z.length cap)) (Nat.le_refl _))
    clear k7 kL7 hd7 hc7 hg7 k6 kL6 hd6 hc6 hg6 k4 kL4 hd4 hI5
    go_wp2
    refine bodyPost_ret (v := .agg #[.int .i64 E, .slice (some ⟨G, 0, none⟩) Z.length cap]) (by simp [results, Tryz.f33, go_sem, r0, r1]) rfl ?_
    exact ⟨E, .slice (some ⟨G, 0, none⟩) Z.length cap, Z, rfl, HDx.out, hs2, HCx.out, HGx.out⟩
  · by_cases hx1 : x = 1
    · subst hx1
      go_wp2_with fail
      refine (l4Any_any w0 w4 g cv code Hc4.out hl).mono ?_
      rintro en w5 ⟨v5, Y, rfl, hd5, hs5, hc5, hg5⟩
      have z5 := hg5.size
      have k5 := k4.notg hg5 (by omega)
      have kL5 := kL4.notg hg5 (by omega)
      obtain ⟨⟨G', cap', rfl⟩, -⟩ := id hd5
      have y1 := kL5.cell 1
      have y1f := kL5.frozen 1
      simp only [List.getElem?_cons_zero, List.getElem?_cons_succ] at y1
      obtain ⟨w6, hw6⟩ : ∃ w6, w5.setCell ⟨w2.heap.size, 1, none⟩ (.slice (some ⟨G', 0, none⟩) Y.length cap') = w6 := ⟨_, rfl⟩
      have kL6 : Blk w6 w2.heap.size 33 [.int .i64 e, .slice (some ⟨G', 0, none⟩) Y.length cap'] := by rw [← hw6]; exact kL5.set 1 _
      have k6 : Blk w6 w.heap.size 33 [.int .i64 0, .slice none 0 0] := by rw [← hw6]; exact k5.other _ _ _ (by omega)
      have hd6 : DrA w4.heap.size w6 (.slice (some ⟨G', 0, none⟩) Y.length cap') Y := by rw [← hw6]; exact hd5.notg (grown_set _ _ _ _) (by omega)
      have hc6 : Cur w0 w6 g cv code := by rw [← hw6]; exact hc5.below ((Below.refl w.heap.size w5).setCell (p := ⟨w2.heap.size, 1, none⟩) (show w.heap.size ≤ w2.heap.size by omega) _) hgl
      have hg6 : w.grownBy w6 (some g) := by rw [← hw6]; exact grw_below (grw_trans HG4.out hg5) ((Below.refl w.heap.size w5).setCell (p := ⟨w2.heap.size, 1, none⟩) (show w.heap.size ≤ w2.heap.size by omega) _) (Nat.le_refl _)
      have r0 := k6.cell 0
      have r1 := k6.cell 1
      have g0 := k6.frozen 0
      have g1 := k6.frozen 1
      have i0 := kL6.cell 0
      have i1 := kL6.cell 1
      simp only [List.getElem?_cons_zero, List.getElem?_cons_succ] at r0 r1 i0 i1
      have HDx := hide ((((hd6).notg (grown_set w6 w.heap.size 0 (.int .i64 e)) (by omega)).notg (grown_set _ w.heap.size 1 (.slice (some ⟨G', 0, none⟩) Y.length cap')) (by omega)).mono (show w.heap.size ≤ _ by omega))
      have HCx := hide ((hc6).below (((Below.refl w.heap.size w6).setCell (p := ⟨w.heap.size, 0, none⟩) (Nat.le_refl _) (.int .i64 e)).setCell (p := ⟨w.heap.size, 1, none⟩) (Nat.le_refl _) (.slice (some ⟨G', 0, none⟩) Y.length cap')) hgl)
      have HGx := hide (grw_below (hg6) (((Below.refl w.heap.size w6).setCell (p := ⟨w.heap.size, 0, none⟩) (Nat.le_refl _) (.int .i64 e)).setCell (p := ⟨w.heap.size, 1, none⟩) (Nat.le_refl _) (.slice (some ⟨G', 0, none⟩) Y.length cap')) (Nat.le_refl _))
      clear k6 kL6 hd6 hc6 hg6 k5 kL5 hd5 hc5 hg5 k4 kL4 hd4
      go_wp2
      refine bodyPost_ret (v := .agg #[.int .i64 e, .slice (some ⟨G', 0, none⟩) Y.length cap']) (by simp [results, Tryz.f33, go_sem, r0, r1]) rfl ?_
      exact ⟨e, .slice (some ⟨G', 0, none⟩) Y.length cap', Y, rfl, HDx.out, hs5, HCx.out, HGx.out⟩
    · have hq0 : ((x : Int) == 0) = false := by rw [beq_eq_false_iff_ne]; omega
      have hq1 : ((x : Int) == 1) = false := by rw [beq_eq_false_iff_ne]; omega
      clear hx0 hx1
      have r0 := k4.cell 0
      have r1 := k4.cell 1
      have g0 := k4.frozen 0
      have g1 := k4.frozen 1
      have i0 := kL4.cell 0
      have i1 := kL4.cell 1
      simp only [List.getElem?_cons_zero, List.getElem?_cons_succ] at r0 r1 i0 i1
      have HDx := hide ((((hd4).notg (grown_set w4 w.heap.size 0 (.int .i64 e)) (by omega)).notg (grown_set _ w.heap.size 1 (.slice (some ⟨G, 0, none⟩) Z.length cap)) (by omega)).mono (show w.heap.size ≤ _ by omega))
      have HCx := hide ((Hc4.out).below (((Below.refl w.heap.size w4).setCell (p := ⟨w.heap.size, 0, none⟩) (Nat.le_refl _) (.int .i64 e)).setCell (p := ⟨w.heap.size, 1, none⟩) (Nat.le_refl _) (.slice (some ⟨G, 0, none⟩) Z.length cap)) hgl)
      have HGx := hide (grw_below (HG4.out) (((Below.refl w.heap.size w4).setCell (p := ⟨w.heap.size, 0, none⟩) (Nat.le_refl _) (.int .i64 e)).setCell (p := ⟨w.heap.size, 1, none⟩) (Nat.le_refl _) (.slice (some ⟨G, 0, none⟩) Z.length cap)) (Nat.le_refl _))
      clear k4 kL4 hd4
      go_wp2
      refine bodyPost_ret (v := .agg #[.int .i64 e, .slice (some ⟨G, 0, none⟩) Z.length cap]) (by simp [results, Tryz.f33, go_sem, r0, r1]) rfl ?_
      exact ⟨e, .slice (some ⟨G, 0, none⟩) Z.length cap, Z, rfl, HDx.out, hs2, HCx.out, HGx.out⟩
end Go.Proofs.YtbbkeebfginlfaaGreatDoor

namespace Go.Proofs.YtbbkeebfginlfaaGreatDoor
open Go.RowKit
set_option linter.unusedVariables false

theorem blk_put5 {W : World} {B : Nat} {t : TypeId} {a0 a1 a2 a3 a4 : Value} (h : Blk W B t [a0, a1, a2, a3, a4]) (y0 y1 y2 y3 y4 : Value) :
    Blk (((((W.setCell ⟨B, 0, none⟩ y0).setCell ⟨B, 1, none⟩ y1).setCell ⟨B, 2, none⟩ y2).setCell ⟨B, 3, none⟩ y3).setCell ⟨B, 4, none⟩ y4) B t [y0, y1, y2, y3, y4] := by
  have e0 : Blk (W.setCell ⟨B, 0, none⟩ y0) B t [y0, a1, a2, a3, a4] := heap_setCell_same W B 0 #[a0, a1, a2, a3, a4] t y0 h
  have e1 : Blk ((W.setCell ⟨B, 0, none⟩ y0).setCell ⟨B, 1, none⟩ y1) B t [y0, y1, a2, a3, a4] := heap_setCell_same _ B 1 #[y0, a1, a2, a3, a4] t y1 e0
  have e2 : Blk (((W.setCell ⟨B, 0, none⟩ y0).setCell ⟨B, 1, none⟩ y1).setCell ⟨B, 2, none⟩ y2) B t [y0, y1, y2, a3, a4] := heap_setCell_same _ B 2 #[y0, y1, a2, a3, a4] t y2 e1
  have e3 : Blk ((((W.setCell ⟨B, 0, none⟩ y0).setCell ⟨B, 1, none⟩ y1).setCell ⟨B, 2, none⟩ y2).setCell ⟨B, 3, none⟩ y3) B t [y0, y1, y2, y3, a4] := heap_setCell_same _ B 3 #[y0, y1, y2, a3, a4] t y3 e2
  exact heap_setCell_same _ B 4 #[y0, y1, y2, y3, a4] t y4 e3
theorem blk_other5 {W : World} {B b : Nat} {t : TypeId} {cs : List Value} (h : Blk W B t cs) (hne : B ≠ b) (y0 y1 y2 y3 y4 : Value) :
    Blk (((((W.setCell ⟨b, 0, none⟩ y0).setCell ⟨b, 1, none⟩ y1).setCell ⟨b, 2, none⟩ y2).setCell ⟨b, 3, none⟩ y3).setCell ⟨b, 4, none⟩ y4) B t cs := by
  unfold Blk
  rw [heap_setCell_other _ ⟨b, 4, none⟩ B _ hne, heap_setCell_other _ ⟨b, 3, none⟩ B _ hne, heap_setCell_other _ ⟨b, 2, none⟩ B _ hne, heap_setCell_other _ ⟨b, 1, none⟩ B _ hne, heap_setCell_other _ ⟨b, 0, none⟩ B _ hne]
  exact h
end Go.Proofs.YtbbkeebfginlfaaGreatDoor
