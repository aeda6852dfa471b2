/- Ledgers drawn. A ledger drawn for its root. The model's ledgers that are right, and copies of them. The landed code's contracts of chapter 4: what is within, what leaves, an account. The landed code's contracts of chapter 4: places, all that accounts have together, accounts that are right. The landed code's ledgers that are right, and copies of them. PutNum: the program's and the model's lay the same bytes behind what was there, in memory of their own. -/
import Derived.Test.YtdelegamcebflaaDoorJoin7
import Derived.Test.YtdelegamcebflaaDoorJoin8
import Derived.Deep.RegionHeldLaw
import Derived.Test.YtdelegamcebflaaDoorAcsOk
import Derived.Test.YtdelegamcebflaaDoorJoin6
import Derived.Lib.QuietBelow
import Derived.BigQuiet
import Derived.Test.YtdelegamcebflaaDoorJoin2
namespace Go.Proofs.YtdelegamcebflaaDoor
open Go.RowKit
set_option linter.unusedVariables false

/-- A ledger that is drawn: its accounts few and small; the cursor goes on. -/
def LDrawn (w0 w : World) (g : Nat) (cv : Value) (code : List UInt8) (en : Ending) (w' : World) : Prop := ∃ (e : Int) (v : Value) (Z : List (Ac × Value)), en = .returned (lgV e v) ∧ DrA w.heap.size w' v Z ∧ SmallZ Z ∧ Cur w0 w' g cv code ∧ w.grownBy w' (some g)
theorem DrA.mono {base base' : Nat} {w : World} {v : Value} {Z : List (Ac × Value)} (h : DrA base w v Z) (hB : base' ≤ base) : DrA base' w v Z := by
  refine ⟨h.1, ⟨h.2.1.1, ?_⟩, fun q hq => (h.2.2 q hq).mono hB⟩
  rcases h.2.1.2 with h' | ⟨g', cap', cur, hv, hbb, r⟩
  · exact .inl h'
  · exact .inr ⟨g', cap', cur, hv, by omega, r⟩
theorem DrA.other {base : Nat} {w : World} {v : Value} {Z : List (Ac × Value)} (h : DrA base w v Z) (b j : Nat) (u : Value) (h1 : ∀ r, v.ownBlock = some r → r ≠ b) (h2 : ∀ q ∈ Z, ∀ r, q.2.ownBlock = some r → r ≠ b) : DrA base (w.setCell ⟨b, j, none⟩ u) v Z :=
  ⟨h.1, row_set h.2.1 b j u h1, fun q hq => row_set (h.2.2 q hq) b j u (h2 q hq)⟩
set_option maxRecDepth 20000 in
set_option maxHeartbeats 1000000 in
theorem l6Draw_any (w0 w : World) (g : Nat) (cv : Value) (code : List UInt8) (hc : Cur w0 w g cv code) (hl : code.length ≤ 1048576) :
    Calls Tryd.prog 27 #[.pointer (some ⟨g, 0, none⟩)] w fun en w' => LDrawn w0 w g cv code en w' := by
  have hgl := hc.lt
  obtain ⟨w1, hw1⟩ : ∃ w1, w.alloc (.cells #[.int .i64 0, .slice none 0 0] 26) = w1 := ⟨_, rfl⟩
  have b1 : Below w.heap.size w w1 := by rw [← hw1]; exact (Below.refl _ w).alloc (Nat.le_refl _) _
  have k1 : Blk w1 w.heap.size 26 [.int .i64 0, .slice none 0 0] := by rw [← hw1]; exact Blk.new w _ _
  have s1 : w1.heap.size = w.heap.size + 1 := by rw [← hw1]; simp
  have hc1 := hc.below b1 hgl
  have Hc := hide hc1
  clear hc hc1
  go_enter Tryd.func27, Tryd.ntmps27
  go_wp2_with fail
  refine (l1Below_any w0 w1 g cv code 3 Hc.out hl (by omega) (by omega)).mono ?_
  rintro en w2 ⟨x, rfl, -, -, hc2, hg2⟩
  have z2 := hg2.size
  have k2 := k1.notg hg2 (by omega)
  have Hc2 := hide hc2
  clear hc2 Hc k1
  go_wp2_with fail
  refine (l4Draw_any w0 w2 g cv code Hc2.out hl).mono ?_
  rintro en w3 ⟨G, cap, Z, rfl, hrow, hlv, hZ5, hZs, hc3, hg3⟩
  have z3 := hg3.size
  have k3 := k2.notg hg3 (by omega)
  have r0 := k3.cell 0
  have r1 := k3.cell 1
  have g0 := k3.frozen 0
  have g1 := k3.frozen 1
  simp only [List.getElem?_cons_zero, List.getElem?_cons_succ] at r0 r1
  have HD := hide (DrA.of hrow hlv)
  have HC3 := hide hc3
  have HG := hide (grownS_trans hg2 hg3)
  have HS : Hid (SmallZ Z) := hide ⟨by omega, fun q hq => ⟨(hZs q hq).1, by have := (hZs q hq).2; omega⟩⟩
  have hgg : ∀ j, (Value.slice (some ⟨G, 0, none⟩) Z.length cap).ownBlock = some j → w2.heap.size ≤ j := fun j hj => hrow.ge j hj
  clear hrow hlv hc3 hg2 hg3 k2 k3 hZs
  go_wp2
  refine bodyPost_ret (v := .agg #[.int .i64 (x : Int), .slice (some ⟨G, 0, none⟩) Z.length cap]) (by simp [results, Tryd.f27, go_sem, r0, r1]) rfl ?_
  refine ⟨x, .slice (some ⟨G, 0, none⟩) Z.length cap, Z, rfl, ?_, HS.out, ?_, ?_⟩
  · exact ((HD.out.notg (grown_set w3 w.heap.size 0 _) (by omega)).notg (grown_set _ w.heap.size 1 _) (by omega)).mono (by omega)
  · exact HC3.out.below (((Below.refl w.heap.size w3).setCell (p := ⟨w.heap.size, 0, none⟩) (Nat.le_refl _) _).setCell (p := ⟨w.heap.size, 1, none⟩) (Nat.le_refl _) _) hgl
  · exact grw_below (grw_trans (grw_of_below (some g) b1 (Nat.le_refl _)) HG.out) (((Below.refl w.heap.size w3).setCell (p := ⟨w.heap.size, 0, none⟩) (Nat.le_refl _) _).setCell (p := ⟨w.heap.size, 1, none⟩) (Nat.le_refl _) _) (Nat.le_refl _)
set_option maxRecDepth 20000 in
set_option maxHeartbeats 1000000 in
theorem l6Any_any (w0 w : World) (g : Nat) (cv : Value) (code : List UInt8) (hc : Cur w0 w g cv code) (hl : code.length ≤ 1048576) :
    Calls Tryd.prog 14 #[.pointer (some ⟨g, 0, none⟩)] w fun en w' => LDrawn w0 w g cv code en w' := by
  have hgl := hc.lt
  obtain ⟨w1, hw1⟩ : ∃ w1, w.alloc (.cells #[.int .i64 0, .slice none 0 0] 26) = w1 := ⟨_, rfl⟩
  have b1 : Below w.heap.size w w1 := by rw [← hw1]; exact (Below.refl _ w).alloc (Nat.le_refl _) _
  have k1 : Blk w1 w.heap.size 26 [.int .i64 0, .slice none 0 0] := by rw [← hw1]; exact Blk.new w _ _
  have s1 : w1.heap.size = w.heap.size + 1 := by rw [← hw1]; simp
  have hc1 := hc.below b1 hgl
  have Hc := hide hc1
  clear hc hc1
  go_enter Tryd.func14, Tryd.ntmps14
  go_wp2_with fail
  refine (l6Draw_any w0 w1 g cv code Hc.out hl).mono ?_
  rintro en w2 ⟨e, v, Z, rfl, hd2, hs2, hc2, hg2⟩
  unfold lgV
  have z2 := hg2.size
  have k2 := k1.notg hg2 (by omega)
  obtain ⟨⟨G, cap, rfl⟩, -⟩ := id hd2
  obtain ⟨w3, hw3⟩ : ∃ w3, w2.alloc (.cells #[.int .i64 e, .slice (some ⟨G, 0, none⟩) Z.length cap] 26) = w3 := ⟨_, rfl⟩
  have b3 : Below w2.heap.size w2 w3 := by rw [← hw3]; exact (Below.refl _ w2).alloc (Nat.le_refl _) _
  have kL : Blk w3 w2.heap.size 26 [.int .i64 e, .slice (some ⟨G, 0, none⟩) Z.length cap] := by rw [← hw3]; exact Blk.new w2 _ _
  have s3 : w3.heap.size = w2.heap.size + 1 := by rw [← hw3]; simp
  have hfa : (∀ r, (Value.slice (some ⟨G, 0, none⟩) Z.length cap).ownBlock = some r → r ≠ w2.heap.size) ∧ ∀ q ∈ Z, ∀ r, q.2.ownBlock = some r → r ≠ w2.heap.size := ⟨fun r hr => by have := (World.ownsRow.lt hd2.2.1 r hr).2; omega, fun q hq r hr => by have := (hd2.2.2 q hq).lt r hr; omega⟩
  have k3 := k2.below b3 k2.lt
  have hd3 := hd2.below b3 (Nat.le_refl _)
  have hc3 := hc2.below b3 (by have := hc2.lt; omega)
  have HG3 := hide (grw_below (grw_trans (grw_of_below (some g) b1 (Nat.le_refl _)) hg2) b3 (by omega))
  have Hc3 := hide hc3
  clear hc2 hc3 Hc k1 k2 hd2 hg2
  go_wp2_with fail
  refine (l1Below_any w0 w3 g cv code 10 Hc3.out hl (by omega) (by omega)).mono ?_
  rintro en w4 ⟨x, rfl, hx, -, hc4, hg4⟩
  have hx10 : x < 10 := by have := hx (by omega); omega
  have z4 := hg4.size
  have k4 := k3.notg hg4 (by omega)
  have kL4 := kL.notg hg4 (by omega)
  have hd4 := hd3.notg hg4 (by omega)
  have HG4 := hide (grw_trans HG3.out hg4)
  have Hc4 := hide hc4
  clear hc4 k3 kL hd3 hg4 hx
  by_cases hx0 : x = 0
  · subst hx0
    obtain ⟨w5, hw5⟩ : ∃ w5, w4.alloc (.cells #[.int .i64 (-1), .int .i64 900, .int .i64 901] 3) = w5 := ⟨_, rfl⟩
    have b5 : Below w4.heap.size w4 w5 := by rw [← hw5]; exact (Below.refl _ w4).alloc (Nat.le_refl _) _
    have hI5 : IntsAt w5 w4.heap.size [-1, 900, 901] := by rw [← hw5]; exact ints_new w4 [-1, 900, 901] 3
    have hc5 := hide (Hc4.out.below b5 Hc4.out.lt)
    go_wp2_with fail
    refine (l1Int_any w0 _ g w4.heap.size cv code [-1, 900, 901] hc5.out hl hI5 (by have := Hc4.out.lt; omega) (by simp) (by simp) 3).mono ?_
    rintro en w6 ⟨E, rfl, -, hc6, hg6⟩
    have z5 := b5.size
    have z6 := hg6.size
    have k6 := (k4.below b5 k4.lt).notg hg6 (by omega)
    have kL6 := (kL4.below b5 kL4.lt).notg hg6 (by have := Hc4.out.lt; have := hgl; omega)
    have hd6 := (hd4.below b5 (Nat.le_refl _)).notg hg6 (by omega)
    have y0 := kL6.cell 0
    have y0f := kL6.frozen 0
    simp only [List.getElem?_cons_zero] at y0
    obtain ⟨w7, hw7⟩ : ∃ w7, w6.setCell ⟨w2.heap.size, 0, none⟩ (.int .i64 E) = w7 := ⟨_, rfl⟩
    have kL7 : Blk w7 w2.heap.size 26 [.int .i64 E, .slice (some ⟨G, 0, none⟩) Z.length cap] := by rw [← hw7]; exact kL6.set 0 _
    have k7 : Blk w7 w.heap.size 26 [.int .i64 0, .slice none 0 0] := by rw [← hw7]; exact k6.other _ _ _ (by omega)
    have hd7 : DrA w1.heap.size w7 (.slice (some ⟨G, 0, none⟩) Z.length cap) Z := by rw [← hw7]; exact hd6.other _ _ _ hfa.1 hfa.2
    have hc7 : Cur w0 w7 g cv code := by rw [← hw7]; exact hc6.below ((Below.refl w.heap.size w6).setCell (p := ⟨w2.heap.size, 0, none⟩) (show w.heap.size ≤ w2.heap.size by omega) _) hgl
    have hg7 : w.grownBy w7 (some g) := by rw [← hw7]; exact grw_below (grw_trans (grw_below HG4.out b5 (by omega)) hg6) ((Below.refl w.heap.size w6).setCell (p := ⟨w2.heap.size, 0, none⟩) (show w.heap.size ≤ w2.heap.size by omega) _) (Nat.le_refl _)
    have r0 := k7.cell 0
    have r1 := k7.cell 1
    have g0 := k7.frozen 0
    have g1 := k7.frozen 1
    have i0 := kL7.cell 0
    have i1 := kL7.cell 1
    simp only [List.getElem?_cons_zero, List.getElem?_cons_succ] at r0 r1 i0 i1
    have HDx := hide ((((hd7).notg (grown_set w7 w.heap.size 0 (.int .i64 E)) (by omega)).notg (grown_set _ w.heap.size 1 (.slice (some ⟨G, 0, none⟩) Z.length cap)) (by omega)).mono (show w.heap.size ≤ _ by omega))
    have HCx := hide ((hc7).below (((Below.refl w.heap.size w7).setCell (p := ⟨w.heap.size, 0, none⟩) (Nat.le_refl _) (.int .i64 E)).setCell (p := ⟨w.heap.size, 1, none⟩) (Nat.le_refl _) (.slice (some ⟨G, 0, none⟩) Z.length cap)) hgl)
    have HGx := hide (grw_below (hg7) (((Below.refl w.heap.size w7).setCell (p := ⟨w.heap.size, 0, none⟩) (Nat.le_refl _) (.int .i64 E)).setCell (p := ⟨w.heap.size, 1, none⟩) (Nat.le_refl _) (.slice (some ⟨G, 0, none⟩) Z.length cap)) (Nat.le_refl _))
    clear k7 kL7 hd7 hc7 hg7 k6 kL6 hd6 hc6 hg6 k4 kL4 hd4 hI5
    go_wp2
    refine bodyPost_ret (v := .agg #[.int .i64 E, .slice (some ⟨G, 0, none⟩) Z.length cap]) (by simp [results, Tryd.f14, go_sem, r0, r1]) rfl ?_
    exact ⟨E, .slice (some ⟨G, 0, none⟩) Z.length cap, Z, rfl, HDx.out, hs2, HCx.out, HGx.out⟩
  · by_cases hx1 : x = 1
    · subst hx1
      go_wp2_with fail
      refine (l4Any_any w0 w4 g cv code Hc4.out hl).mono ?_
      rintro en w5 ⟨v5, Y, rfl, hd5, hs5, hc5, hg5⟩
      have z5 := hg5.size
      have k5 := k4.notg hg5 (by omega)
      have kL5 := kL4.notg hg5 (by omega)
      obtain ⟨⟨G', cap', rfl⟩, -⟩ := id hd5
      have y1 := kL5.cell 1
      have y1f := kL5.frozen 1
      simp only [List.getElem?_cons_zero, List.getElem?_cons_succ] at y1
      obtain ⟨w6, hw6⟩ : ∃ w6, w5.setCell ⟨w2.heap.size, 1, none⟩ (.slice (some ⟨G', 0, none⟩) Y.length cap') = w6 := ⟨_, rfl⟩
      have kL6 : Blk w6 w2.heap.size 26 [.int .i64 e, .slice (some ⟨G', 0, none⟩) Y.length cap'] := by rw [← hw6]; exact kL5.set 1 _
      have k6 : Blk w6 w.heap.size 26 [.int .i64 0, .slice none 0 0] := by rw [← hw6]; exact k5.other _ _ _ (by omega)
      have hd6 : DrA w4.heap.size w6 (.slice (some ⟨G', 0, none⟩) Y.length cap') Y := by rw [← hw6]; exact hd5.notg (grown_set _ _ _ _) (by omega)
      have hc6 : Cur w0 w6 g cv code := by rw [← hw6]; exact hc5.below ((Below.refl w.heap.size w5).setCell (p := ⟨w2.heap.size, 1, none⟩) (show w.heap.size ≤ w2.heap.size by omega) _) hgl
      have hg6 : w.grownBy w6 (some g) := by rw [← hw6]; exact grw_below (grw_trans HG4.out hg5) ((Below.refl w.heap.size w5).setCell (p := ⟨w2.heap.size, 1, none⟩) (show w.heap.size ≤ w2.heap.size by omega) _) (Nat.le_refl _)
      have r0 := k6.cell 0
      have r1 := k6.cell 1
      have g0 := k6.frozen 0
      have g1 := k6.frozen 1
      have i0 := kL6.cell 0
      have i1 := kL6.cell 1
      simp only [List.getElem?_cons_zero, List.getElem?_cons_succ] at r0 r1 i0 i1
      have HDx := hide ((((hd6).notg (grown_set w6 w.heap.size 0 (.int .i64 e)) (by omega)).notg (grown_set _ w.heap.size 1 (.slice (some ⟨G', 0, none⟩) Y.length cap')) (by omega)).mono (show w.heap.size ≤ _ by omega))
      have HCx := hide ((hc6).below (((Below.refl w.heap.size w6).setCell (p := ⟨w.heap.size, 0, none⟩) (Nat.le_refl _) (.int .i64 e)).setCell (p := ⟨w.heap.size, 1, none⟩) (Nat.le_refl _) (.slice (some ⟨G', 0, none⟩) Y.length cap')) hgl)
      have HGx := hide (grw_below (hg6) (((Below.refl w.heap.size w6).setCell (p := ⟨w.heap.size, 0, none⟩) (Nat.le_refl _) (.int .i64 e)).setCell (p := ⟨w.heap.size, 1, none⟩) (Nat.le_refl _) (.slice (some ⟨G', 0, none⟩) Y.length cap')) (Nat.le_refl _))
      clear k6 kL6 hd6 hc6 hg6 k5 kL5 hd5 hc5 hg5 k4 kL4 hd4
      go_wp2
      refine bodyPost_ret (v := .agg #[.int .i64 e, .slice (some ⟨G', 0, none⟩) Y.length cap']) (by simp [results, Tryd.f14, go_sem, r0, r1]) rfl ?_
      exact ⟨e, .slice (some ⟨G', 0, none⟩) Y.length cap', Y, rfl, HDx.out, hs5, HCx.out, HGx.out⟩
    · have hq0 : ((x : Int) == 0) = false := by rw [beq_eq_false_iff_ne]; omega
      have hq1 : ((x : Int) == 1) = false := by rw [beq_eq_false_iff_ne]; omega
      clear hx0 hx1
      have r0 := k4.cell 0
      have r1 := k4.cell 1
      have g0 := k4.frozen 0
      have g1 := k4.frozen 1
      have i0 := kL4.cell 0
      have i1 := kL4.cell 1
      simp only [List.getElem?_cons_zero, List.getElem?_cons_succ] at r0 r1 i0 i1
      have HDx := hide ((((hd4).notg (grown_set w4 w.heap.size 0 (.int .i64 e)) (by omega)).notg (grown_set _ w.heap.size 1 (.slice (some ⟨G, 0, none⟩) Z.length cap)) (by omega)).mono (show w.heap.size ≤ _ by omega))
      have HCx := hide ((Hc4.out).below (((Below.refl w.heap.size w4).setCell (p := ⟨w.heap.size, 0, none⟩) (Nat.le_refl _) (.int .i64 e)).setCell (p := ⟨w.heap.size, 1, none⟩) (Nat.le_refl _) (.slice (some ⟨G, 0, none⟩) Z.length cap)) hgl)
      have HGx := hide (grw_below (HG4.out) (((Below.refl w.heap.size w4).setCell (p := ⟨w.heap.size, 0, none⟩) (Nat.le_refl _) (.int .i64 e)).setCell (p := ⟨w.heap.size, 1, none⟩) (Nat.le_refl _) (.slice (some ⟨G, 0, none⟩) Z.length cap)) (Nat.le_refl _))
      clear k4 kL4 hd4
      go_wp2
      refine bodyPost_ret (v := .agg #[.int .i64 e, .slice (some ⟨G, 0, none⟩) Z.length cap]) (by simp [results, Tryd.f14, go_sem, r0, r1]) rfl ?_
      exact ⟨e, .slice (some ⟨G, 0, none⟩) Z.length cap, Z, rfl, HDx.out, hs2, HCx.out, HGx.out⟩
end Go.Proofs.YtdelegamcebflaaDoor

namespace Go.Proofs.YtdelegamcebflaaDoor
open Go.RowKit
set_option linter.unusedVariables false

set_option maxRecDepth 20000 in
theorem drawStateRoot_any (w : World) (cv : Value) (code : List UInt8) (hr : RdB w cv code) (hl : code.length ≤ 1048576) :
    Calls Tryd.prog 5 #[cv] w fun en w' => ∃ (e : Int) (v : Value) (l : List Ac), en = .returned (lgV e v) ∧ RdA w' v l ∧ l.length ≤ 6 ∧ (∀ a ∈ l, a.1.size ≤ 9 ∧ a.2.2.2.2.length ≤ 4) ∧ Below w.heap.size w w' := by
  obtain ⟨w1, hw1⟩ : ∃ w1, w.alloc (.cells #[.int .i64 0, .slice none 0 0] 26) = w1 := ⟨_, rfl⟩
  have b1 : Below w.heap.size w w1 := by rw [← hw1]; exact (Below.refl _ w).alloc (Nat.le_refl _) _
  have k1 : Blk w1 w.heap.size 26 [.int .i64 0, .slice none 0 0] := by rw [← hw1]; exact Blk.new w _ _
  have s1 : w1.heap.size = w.heap.size + 1 := by rw [← hw1]; simp
  have Hr := hide (hr.below b1 (Nat.le_refl _))
  have HN := hide (l1New_any w1 cv code Hr.out hl)
  rw [s1] at HN
  clear hr
  go_enter Tryd.func5, Tryd.ntmps5
  go_wp2_with fail
  refine HN.out.mono ?_
  rintro en w2 ⟨rfl, hc2, hb2⟩
  have k2 := k1.below hb2 (by omega)
  have z2 := hb2.size
  go_wp2_with fail
  refine (l6Any_any w1 w2 (w.heap.size + 1) cv code hc2 hl).mono ?_
  rintro en w3 ⟨e, v, Z, rfl, hd3, hs3, hc3, hg3⟩
  unfold lgV
  have k3 := k2.notg hg3 (by omega)
  have z3 := hg3.size
  obtain ⟨⟨G, cap, rfl⟩, -⟩ := id hd3
  have r0 := k3.cell 0
  have r1 := k3.cell 1
  have g0 := k3.frozen 0
  have g1 := k3.frozen 1
  simp only [List.getElem?_cons_zero, List.getElem?_cons_succ] at r0 r1
  have HDx := hide ((hd3.notg (grown_set w3 w.heap.size 0 (.int .i64 e)) (by omega)).notg (grown_set _ w.heap.size 1 (.slice (some ⟨G, 0, none⟩) Z.length cap)) (by omega))
  have hB2 : Below w.heap.size w w2 := b1.trans (hb2.mono (by omega))
  have hB3 : Below w.heap.size w w3 := hB2.grown hg3 (by omega) (fun k hk => by cases hk; omega)
  have HBx := hide ((hB3.setCell (p := ⟨w.heap.size, 0, none⟩) (Nat.le_refl _) (.int .i64 e)).setCell (p := ⟨w.heap.size, 1, none⟩) (Nat.le_refl _) (.slice (some ⟨G, 0, none⟩) Z.length cap))
  clear k1 k2 k3 hd3 hc2 hc3 hg3 hb2 hB2 hB3
  go_wp2
  refine bodyPost_ret (v := .agg #[.int .i64 e, .slice (some ⟨G, 0, none⟩) Z.length cap]) (by simp [results, Tryd.f5, go_sem, r0, r1]) rfl ?_
  exact ⟨e, _, Z.map (·.1), rfl, HDx.out.rd, by simpa using hs3.1, fun a ha => by obtain ⟨q, hq, rfl⟩ := List.mem_map.1 ha; exact hs3.2 q hq, HBx.out⟩
end Go.Proofs.YtdelegamcebflaaDoor

namespace Go.Proofs.YtdelegamcebflaaDoor
open Go.RowKit
set_option linter.unusedVariables false

/-- Whether a ledger is right. -/
def lgB (e : Int) (l : List Ac) : Bool := inB e 0 900 && acsB l
set_option maxRecDepth 20000 in
set_option maxHeartbeats 1000000 in
theorem specLedgerOk_any (e : Int) (v : Value) (l : List Ac) (w : World) (hr : RdA w v l) (hl : l.length ≤ 4000000) (hall : ∀ a ∈ l, a.1.size ≤ maxLen ∧ a.2.2.2.2.length ≤ 4000000) :
    Calls Tryd.prog 7 #[lgV e v] w fun en w' => en = .returned (.bool (lgB e l)) ∧ Below w.heap.size w w' := by
  obtain ⟨a1, cv1, rfl⟩ := hr.shape
  simp only [lgV] at *
  have hb3 : Below w.heap.size w (w.alloc (.cells #[.int .i64 e, .slice a1 l.length cv1] 26)) := (Below.refl _ w).alloc (Nat.le_refl _) _
  have HE := hide (specAcctsOk_any _ l _ (hr.below hb3 (Nat.le_refl _)) hl hall)
  have Hb3 := hide hb3
  have Hx : Hid (lgB e l = (inB e 0 900 && acsB l)) := hide rfl
  clear hb3 hr hall
  generalize lgB e l = X at Hx
  generalize acsB l = A at Hx HE
  cases h0 : inB e 0 900
  · rw [h0, Bool.false_and] at Hx
    go_enter Tryd.func7, Tryd.ntmps7
    go_wp2_with (go_at_call 17; refine (l1In_any _ _ _ _).mono ?_; rintro en w1 ⟨rfl, rfl⟩)
    go_ret
    exact ⟨ret_bool Hx.out.symm, Hb3.out⟩
  · rw [h0, Bool.true_and] at Hx
    go_enter Tryd.func7, Tryd.ntmps7
    go_wp2_with (first
      | (go_at_call 17; refine (l1In_any _ _ _ _).mono ?_; rintro en w1 ⟨rfl, rfl⟩)
      | (go_at_call 18; refine HE.out.mono ?_; rintro en w2 ⟨rfl, hb2⟩))
    go_ret
    exact ⟨ret_bool Hx.out.symm, Hb3.out.trans (hb2.mono Hb3.out.size)⟩
theorem keep2 {W : World} {B G : Nat} {x y u v : Value} (h : W.cell? ⟨B, 0, none⟩ = some x ∧ W.cell? ⟨B, 1, none⟩ = some y) (hne : B ≠ G) : ((W.setCell ⟨G, 0, none⟩ u).setCell ⟨G, 1, none⟩ v).cell? ⟨B, 0, none⟩ = some x ∧ ((W.setCell ⟨G, 0, none⟩ u).setCell ⟨G, 1, none⟩ v).cell? ⟨B, 1, none⟩ = some y := by
  have e : ((W.setCell ⟨G, 0, none⟩ u).setCell ⟨G, 1, none⟩ v).heap[B]? = W.heap[B]? := by
    rw [heap_setCell_other _ ⟨G, 1, none⟩ B _ hne, heap_setCell_other _ ⟨G, 0, none⟩ B _ hne]
  exact ⟨(World.cell?_of_block e).trans h.1, (World.cell?_of_block e).trans h.2⟩
end Go.Proofs.YtdelegamcebflaaDoor

namespace Go.Proofs.YtdelegamcebflaaDoor
open Go.RowKit
set_option linter.unusedVariables false

theorem implWithin_any (x a b : Int) (w : World) :
    Calls Tryd.prog 19 #[.int .i64 x, .int .i64 a, .int .i64 b] w fun e w' => e = .returned (.bool (inB x a b)) ∧ w' = w := by
  by_cases h1 : a ≤ x
  · by_cases h2 : x ≤ b
    · have e : Hid (inB x a b = true) := hide (by simp [inB, h1, h2])
      go_enter Tryd.func19, Tryd.ntmps19
      go_wp2
      go_ret
      rw [e.out]; exact ⟨rfl, rfl⟩
    · have e : Hid (inB x a b = false) := hide (by simp [inB, h1, h2])
      go_enter Tryd.func19, Tryd.ntmps19
      go_wp2
      go_ret
      rw [e.out]; exact ⟨rfl, rfl⟩
  · have e : Hid (inB x a b = false) := hide (by simp [inB, h1])
    go_enter Tryd.func19, Tryd.ntmps19
    go_wp2
    go_ret
    rw [e.out]; exact ⟨rfl, rfl⟩
set_option maxRecDepth 20000 in
set_option maxHeartbeats 2000000 in
theorem implLeavesOk_any (lv : Value) (ls : List (Int × Int)) (w : World) (hr : RdL w lv ls) (hl : ls.length ≤ 4000000) :
    Calls Tryd.prog 54 #[lv] w fun e w' => e = .returned (.bool (decide (ls.length ≤ 4) && lvsB ls)) ∧ Below w.heap.size w w' := by
  have Hr' := hide hr
  obtain ⟨av, cv, rfl⟩ := hr.shape
  clear hr
  by_cases e4 : ls.length ≤ 4
  · have Hac : Hid ((decide (ls.length ≤ 4) && lvsB ls) = lvsB ls) := hide (by rw [decide_eq_true e4, Bool.true_and])
    have e4i : (ls.length : Int) ≤ 4 := by omega
    go_enter Tryd.func54, Tryd.ntmps54
    go_wp2
    go_loopw [10] (fun i wr => ∃ k : Nat, k ≤ ls.length ∧ i = .int .i64 k ∧ (∀ j, j < k → lvAt ls j = true) ∧ Below w.heap.size w wr) (fun i _ => ls.length - (intOf i).toNat)
    case atStart => exact ⟨0, Nat.zero_le _, rfl, fun j hj => by omega, Below.refl _ _⟩
    case round =>
      obtain ⟨k, hkl, rfl, hok, hb⟩ := hrel
      have Hok := hide hok
      clear hok
      by_cases hlt : k < ls.length
      · have hrr := Hr'.out
        rcases hrr with ⟨_, _, _, e, _⟩ | ⟨b, off, cap, h0, hv, h1, h2, h3, h4⟩
        · subst e; simp at hlt
        injection hv with ha _ hcap
        subst ha hcap
        have hc1 := (hb.cell (p := ⟨b, off + k * 2, none⟩) h3).trans (h4 k hlt).1
        have hc2 := (hb.cell (p := ⟨b, off + k * 2 + 1, none⟩) h3).trans (h4 k hlt).2
        have hli : (k : Int) < (ls.length : Int) := by omega
        have hbb : b < wr.heap.size := Nat.lt_of_lt_of_le h3 hb.size
        have Hno := hide (lvs_no ls k hlt)
        have Hnx : Hid (lvAt ls k = true → ∀ j, j < k + 1 → lvAt ls j = true) := hide (fun h j hj => by
          by_cases e : j = k
          · subst e; exact h
          · exact Hok.out j (by omega))
        have Hat : Hid (lvAt ls k = (inB ls[k].1 1 1000000 && (inB ls[k].2 0 1000 && (decide (k = 0) || decide ((ls.getD (k - 1) (0, 0)).2 < ls[k].2))))) := hide (by unfold lvAt; rw [List.getD_eq_getElem?_getD, List.getElem?_eq_getElem hlt]; rfl)
        have Hpr : Hid (0 < k → wr.cell? ⟨b, off + (k - 1) * 2 + 1, none⟩ = some (.int .i64 (ls.getD (k - 1) (0, 0)).2)) := hide (fun h => by
          have := (hb.cell (p := ⟨b, off + (k - 1) * 2 + 1, none⟩) h3).trans (h4 (k - 1) (by omega)).2
          rw [List.getD_eq_getElem?_getD, List.getElem?_eq_getElem (show k - 1 < ls.length by omega)]
          exact this)
        clear h4 Hok
        generalize ls[k] = p at hc1 hc2 Hat
        obtain ⟨x, y⟩ := p
        simp only at hc1 hc2 Hat
        by_cases q1 : inB x 1 1000000 = true
        · by_cases q2 : inB y 0 1000 = true
          · rw [q1, q2, Bool.true_and, Bool.true_and] at Hat
            cases k with
            | zero =>
              rw [show decide (0 = 0) = true from rfl, Bool.true_or] at Hat
              rw [Nat.zero_mul, Nat.add_zero] at hc1 hc2
              have Hnx := hide (Hnx.out Hat.out)
              clear Hat Hno Hpr
              go_wp2
              go_quiet ((go_at_call 19; exact Calls.quiet_of_same (implWithin_any _ _ _ _)))
              go_wp2
              go_roundw
              case rel => exact ⟨0 + 1, by omega, by go_num, Hnx.out, below_drewN (hb.alloc hb.size _) _⟩
              case measure => simp [intOf]; omega
            | succ j =>
              rw [show decide (j + 1 = 0) = false from rfl, Bool.false_or] at Hat
              have hpr := Hpr.out (by omega)
              rw [show j + 1 - 1 = j from by omega] at hpr Hat
              generalize (ls.getD j (0, 0)).2 = z at hpr Hat
              by_cases q3 : z < y
              · rw [decide_eq_true q3] at Hat
                have Hnx := hide (Hnx.out Hat.out)
                clear Hat Hno Hpr
                go_wp2
                go_quiet ((go_at_call 19; exact Calls.quiet_of_same (implWithin_any _ _ _ _)))
                go_wp2
                go_roundw
                case rel => exact ⟨j + 1 + 1, by omega, by go_num, Hnx.out, below_drewN (hb.alloc hb.size _) _⟩
                case measure => simp [intOf]; omega
              · rw [decide_eq_false q3] at Hat
                have Hno := hide (Hac.out.trans (Hno.out Hat.out))
                clear Hat Hnx Hpr
                go_wp2
                go_quiet ((go_at_call 19; exact Calls.quiet_of_same (implWithin_any _ _ _ _)))
                go_wp2
                go_ret
                exact ⟨ret_bool Hno.out.symm, below_drewN (hb.alloc hb.size _) _⟩
          · have q2 : inB y 0 1000 = false := by simpa using q2
            rw [q1, q2, Bool.true_and, Bool.false_and] at Hat
            have Hno := hide (Hac.out.trans (Hno.out Hat.out))
            clear Hat Hnx Hpr
            go_wp2
            go_quiet ((go_at_call 19; exact Calls.quiet_of_same (implWithin_any _ _ _ _)))
            go_wp2
            go_ret
            exact ⟨ret_bool Hno.out.symm, below_drewN (hb.alloc hb.size _) _⟩
        · have q1 : inB x 1 1000000 = false := by simpa using q1
          rw [q1, Bool.false_and] at Hat
          have Hno := hide (Hac.out.trans (Hno.out Hat.out))
          clear Hat Hnx Hpr
          go_wp2
          go_quiet ((go_at_call 19; exact Calls.quiet_of_same (implWithin_any _ _ _ _)))
          go_wp2
          go_ret
          exact ⟨ret_bool Hno.out.symm, below_drewN (hb.alloc hb.size _) _⟩
      · have Hy := hide (Hac.out.trans (lvs_yes ls (fun j hj => Hok.out j (by omega))))
        go_wp2
        go_ret
        exact ⟨ret_bool Hy.out.symm, hb⟩
  · have Hac : Hid ((decide (ls.length ≤ 4) && lvsB ls) = false) := hide (by rw [decide_eq_false e4, Bool.false_and])
    have e4i : (4 : Int) < (ls.length : Int) := by omega
    clear e4
    go_enter Tryd.func54, Tryd.ntmps54
    go_wp2
    go_ret
    exact ⟨ret_bool Hac.out.symm, Below.refl _ _⟩
set_option maxRecDepth 20000 in
set_option maxHeartbeats 2000000 in
theorem implAcctOk_any (a : Ac) (lv : Value) (w : World) (hr : RdL w lv a.2.2.2.2) (hn : a.1.size ≤ maxLen) (hl : a.2.2.2.2.length ≤ 4000000) :
    Calls Tryd.prog 36 #[acV a lv] w fun e w' => e = .returned (.bool (acB a)) ∧ Below w.heap.size w w' := by
  obtain ⟨nm, fr, no, st, ls⟩ := a
  have HB := hide ((Below.refl _ w).alloc (Nat.le_refl _) (.cells #[.string nm, .int .i64 fr, .int .i64 no, .int .i64 st, lv] 33))
  have hk := Blk.new w 33 [.string nm, .int .i64 fr, .int .i64 no, .int .i64 st, lv]
  have Hr := hide (hr.below HB.out (Nat.le_refl _))
  obtain ⟨av, cv, rfl⟩ := hr.shape
  clear hr
  simp only [acV] at *
  obtain ⟨w0, hw0⟩ : ∃ w0, w.alloc (.cells #[.string nm, .int .i64 fr, .int .i64 no, .int .i64 st, .slice av ls.length cv] 33) = w0 := ⟨_, rfl⟩
  have hk' : Blk w0 w.heap.size 33 [.string nm, .int .i64 fr, .int .i64 no, .int .i64 st, .slice av ls.length cv] := by rw [← hw0]; exact hk
  have HB' : Hid (Below w.heap.size w w0) := hide (by rw [← hw0]; exact HB.out)
  have HL : Hid (Calls Tryd.prog 54 #[.slice av ls.length cv] w0 fun e w' => e = .returned (.bool (decide (ls.length ≤ 4) && lvsB ls)) ∧ Below w0.heap.size w0 w') := hide (implLeavesOk_any _ ls w0 (by rw [← hw0]; exact Hr.out) hl)
  have hlt0 := hk'.lt
  have k0 := hk'.cell 0
  have k1 := hk'.cell 1
  have k2 := hk'.cell 2
  have k3 := hk'.cell 3
  have k4 := hk'.cell 4
  simp only [List.getElem?_cons_zero, List.getElem?_cons_succ] at k0 k1 k2 k3 k4
  clear hk HB Hr
  have Hac : Hid (acB (nm, fr, no, st, ls) = (nmB nm && (inB fr 0 1000000 && (inB no 0 10000 && (inB st 0 1000000 && (decide (ls.length ≤ 4) && lvsB ls)))))) := hide rfl
  generalize (decide (ls.length ≤ 4) && lvsB ls) = L at HL Hac
  generalize acB (nm, fr, no, st, ls) = X at Hac
  by_cases e0 : nmB nm = true
  · by_cases e1 : inB fr 0 1000000 = true
    · by_cases e2 : inB no 0 10000 = true
      · by_cases e3 : inB st 0 1000000 = true
        · rw [e0, e1, e2, e3] at Hac
          simp only [Bool.true_and] at Hac
          go_enter Tryd.func36, Tryd.ntmps36
          go_wp2_with (first
            | (go_at_call 53; refine (implNameOk_any nm _ hn).mono ?_; rintro e w0 ⟨rfl, rfl⟩)
            | (go_at_call 19; refine (implWithin_any _ _ _ _).mono ?_; rintro e w0 ⟨rfl, rfl⟩)
            | (go_at_call 54; refine HL.out.mono ?_; rintro e w2 ⟨rfl, hb2⟩))
          go_ret
          exact ⟨ret_bool Hac.out.symm, HB'.out.trans (hb2.mono HB'.out.size)⟩
        · have e3 : inB st 0 1000000 = false := by simpa using e3
          rw [e0, e1, e2, e3] at Hac
          simp only [Bool.true_and, Bool.false_and] at Hac
          go_enter Tryd.func36, Tryd.ntmps36
          go_wp2_with (first
            | (go_at_call 53; refine (implNameOk_any nm _ hn).mono ?_; rintro e w0 ⟨rfl, rfl⟩)
            | (go_at_call 19; refine (implWithin_any _ _ _ _).mono ?_; rintro e w0 ⟨rfl, rfl⟩))
          go_ret
          exact ⟨ret_bool Hac.out.symm, HB'.out⟩
      · have e2 : inB no 0 10000 = false := by simpa using e2
        rw [e0, e1, e2] at Hac
        simp only [Bool.true_and, Bool.false_and] at Hac
        go_enter Tryd.func36, Tryd.ntmps36
        go_wp2_with (first
          | (go_at_call 53; refine (implNameOk_any nm _ hn).mono ?_; rintro e w0 ⟨rfl, rfl⟩)
          | (go_at_call 19; refine (implWithin_any _ _ _ _).mono ?_; rintro e w0 ⟨rfl, rfl⟩))
        go_ret
        exact ⟨ret_bool Hac.out.symm, HB'.out⟩
    · have e1 : inB fr 0 1000000 = false := by simpa using e1
      rw [e0, e1] at Hac
      simp only [Bool.true_and, Bool.false_and] at Hac
      go_enter Tryd.func36, Tryd.ntmps36
      go_wp2_with (first
        | (go_at_call 53; refine (implNameOk_any nm _ hn).mono ?_; rintro e w0 ⟨rfl, rfl⟩)
        | (go_at_call 19; refine (implWithin_any _ _ _ _).mono ?_; rintro e w0 ⟨rfl, rfl⟩))
      go_ret
      exact ⟨ret_bool Hac.out.symm, HB'.out⟩
  · have e0 : nmB nm = false := by simpa using e0
    rw [e0] at Hac
    simp only [Bool.false_and] at Hac
    go_enter Tryd.func36, Tryd.ntmps36
    go_wp2_with (first
      | (go_at_call 53; refine (implNameOk_any nm _ hn).mono ?_; rintro e w0 ⟨rfl, rfl⟩)
      | (go_at_call 19; refine (implWithin_any _ _ _ _).mono ?_; rintro e w0 ⟨rfl, rfl⟩))
    go_ret
    exact ⟨ret_bool Hac.out.symm, HB'.out⟩
end Go.Proofs.YtdelegamcebflaaDoor

namespace Go.Proofs.YtdelegamcebflaaDoor
open Go.RowKit Go.Sort
set_option linter.unusedVariables false


theorem wrap64_add (a b : Int) : wrap64 (a + wrap64 b) = wrap64 (a + b) := by unfold wrap64; omega
theorem wrap64_add' (a b : Int) : wrap64 (wrap64 a + b) = wrap64 (a + b) := by unfold wrap64; omega
theorem fold_shift (s : Int) : ∀ (l : List (Int × Int)) (z : Int), wrap64 (s + l.foldl (fun s p => wrap64 (s + p.1)) (wrap64 z)) = l.foldl (fun s p => wrap64 (s + p.1)) (wrap64 (s + wrap64 z))
  | [], z => rfl
  | p :: l, z => by
    have e := fold_shift s l (wrap64 z + p.1)
    rw [List.foldl_cons, List.foldl_cons, e]
    congr 1
    rw [wrap64_add, wrap64_add', ← Int.add_assoc]

set_option maxRecDepth 20000 in
set_option maxHeartbeats 2000000 in
theorem implWealth_any (v : Value) (l : List Ac) (w : World) (hr : RdA w v l) (hl : l.length ≤ 4000000) (hall : ∀ a ∈ l, a.2.2.2.2.length ≤ 4000000) :
    Calls Tryd.prog 37 #[v] w fun e w' => e = .returned (.int .i64 (wealthA l)) ∧ Below w.heap.size w w' := by
  rcases hr with ⟨a, cap, rfl, rfl, -⟩ | ⟨b, off, cap, h0, rfl, h1, h2, h3, h4⟩
  · go_enter Tryd.func37, Tryd.ntmps37
    go_wp2
    refine wp_loop_rounds 1 ?_
    rw [rounds_succ]
    go_wp2
    go_ret
    exact ⟨rfl, Below.refl _ _⟩
  · have H4 := hide h4
    have Hall := hide hall
    clear h4 hall
    go_enter Tryd.func37, Tryd.ntmps37
    go_wp2
    go_loopw [3, 10] (fun nv iv wr => ∃ k : Nat, k ≤ l.length ∧ iv = .int .i64 k ∧ nv = .int .i64 ((l.take k).foldl (fun s a => wrap64 (s + ofA a)) 0) ∧ Below w.heap.size w wr) (fun _ iv _ => l.length - (intOf iv).toNat)
    case atStart => exact ⟨0, Nat.zero_le _, rfl, rfl, Below.refl _ _⟩
    case round =>
      obtain ⟨k, hkl, rfl, rfl, hb⟩ := hrel
      by_cases hlt : k < l.length
      · obtain ⟨lv, hat, hrl⟩ := H4.out k hlt
        obtain ⟨c0, c1, c2, c3, c4⟩ := hat.below hb h3
        have hli : (k : Int) < (l.length : Int) := by omega
        have hbb : b < wr.heap.size := Nat.lt_of_lt_of_le h3 hb.size
        have Hf := hide (fold_snoc (fun s (a : Ac) => wrap64 (s + ofA a)) 0 l k hlt)
        have Hrl := hide (hrl.below hb (Nat.le_refl _))
        have hls := Hall.out l[k] (List.getElem_mem _)
        have hshape := hrl.shape
        clear hat hrl
        generalize (l.take k).foldl (fun s (a : Ac) => wrap64 (s + ofA a)) 0 = acc at Hf
        generalize l[k] = ak at c0 c1 c2 c3 Hf Hrl hshape hls
        obtain ⟨nm, fr, no, st, ls⟩ := ak
        obtain ⟨av, cv, rfl⟩ := hshape
        simp only at c0 c1 c2 c3 Hrl hls
        have Hof : Hid (wrap64 (acc + ofA (nm, fr, no, st, ls)) = ls.foldl (fun s p => wrap64 (s + p.1)) (wrap64 (acc + wrap64 (fr + st)))) := hide (fold_shift acc ls (fr + st))
        go_wp2
        obtain ⟨w1, hw1⟩ : ∃ w1, wr.alloc (.cells #[.string nm, .int .i64 fr, .int .i64 no, .int .i64 st, .slice av ls.length cv] 33) = w1 := ⟨_, rfl⟩
        have HB1 : Hid (Below w.heap.size w w1) := hide (by rw [← hw1]; exact hb.alloc hb.size _)
        have HL1 : Hid (RdL w1 (.slice av ls.length cv) ls) := hide (by rw [← hw1]; exact Hrl.out.below ((Below.refl _ wr).alloc (Nat.le_refl _) _) (Nat.le_refl _))
        rw [hw1]
        go_loopw [3, 24] (fun nv iv wq => ∃ j : Nat, j ≤ ls.length ∧ iv = .int .i64 j ∧ nv = .int .i64 ((ls.take j).foldl (fun s p => wrap64 (s + p.1)) (wrap64 (acc + wrap64 (fr + st)))) ∧ Below w1.heap.size w1 wq) (fun _ iv _ => ls.length - (intOf iv).toNat)
        case atStart => exact ⟨0, Nat.zero_le _, rfl, rfl, Below.refl _ _⟩
        case round =>
          obtain ⟨j, hjl, rfl, rfl, hq⟩ := hrel
          by_cases hjt : j < ls.length
          · have hrr := HL1.out
            rcases hrr with ⟨_, _, _, e, _⟩ | ⟨b', off', cap', g0, hv, g1, g2, g3, g4⟩
            · subst e; simp at hjt
            injection hv with ha _ hcap
            subst ha hcap
            have d1 := (hq.cell (p := ⟨b', off' + j * 2, none⟩) g3).trans (g4 j hjt).1
            have d2 := (hq.cell (p := ⟨b', off' + j * 2 + 1, none⟩) g3).trans (g4 j hjt).2
            have hji : (j : Int) < (ls.length : Int) := by omega
            have hbq : b' < wr.heap.size := Nat.lt_of_lt_of_le g3 hq.size
            have Hg := hide (fold_snoc (fun s (p : Int × Int) => wrap64 (s + p.1)) (wrap64 (acc + wrap64 (fr + st))) ls j hjt)
            clear g4
            generalize ls[j] = p at d1 d2 Hg
            obtain ⟨x, y⟩ := p
            simp only at d1 d2 Hg
            generalize (ls.take j).foldl (fun s (p : Int × Int) => wrap64 (s + p.1)) (wrap64 (acc + wrap64 (fr + st))) = acc2 at Hg
            go_wp2
            go_roundw
            case rel => exact ⟨j + 1, by omega, by go_num, by rw [Hg.out], hq.alloc hq.size _⟩
            case measure => simp [intOf]; omega
          · have Hg : Hid (wrap64 (acc + ofA (nm, fr, no, st, ls)) = (ls.take j).foldl (fun s p => wrap64 (s + p.1)) (wrap64 (acc + wrap64 (fr + st)))) := hide (by rw [Hof.out, List.take_of_length_le (by omega)])
            generalize (ls.take j).foldl (fun s (p : Int × Int) => wrap64 (s + p.1)) (wrap64 (acc + wrap64 (fr + st))) = acc2 at Hg
            go_wp2
            go_roundw
            case rel => exact ⟨k + 1, by omega, by go_num, by rw [Hf.out, Hg.out], HB1.out.trans (hq.mono HB1.out.size)⟩
            case measure => simp [intOf]; omega
      · have Hf : Hid (wealthA l = (l.take k).foldl (fun s a => wrap64 (s + ofA a)) 0) := hide (by unfold wealthA; rw [List.take_of_length_le (by omega)])
        generalize (l.take k).foldl (fun s (a : Ac) => wrap64 (s + ofA a)) 0 = acc at Hf
        go_wp2
        go_ret
        exact ⟨ret_int Hf.out.symm, hb⟩
set_option maxRecDepth 20000 in
set_option maxHeartbeats 2000000 in
theorem implAcctsOk_any (v : Value) (l : List Ac) (w : World) (hr : RdA w v l) (hl : l.length ≤ 4000000) (hall : ∀ a ∈ l, a.1.size ≤ maxLen ∧ a.2.2.2.2.length ≤ 4000000) :
    Calls Tryd.prog 20 #[v] w fun e w' => e = .returned (.bool (acsB l)) ∧ Below w.heap.size w w' := by
  have HW := hide (fun w h => implWealth_any v l w h hl (fun a ha => (hall a ha).2))
  have Hr := hide hr
  rcases hr with ⟨a, cap, rfl, rfl, -⟩ | ⟨b, off, cap, h0, rfl, h1, h2, h3, h4⟩
  · go_enter Tryd.func20, Tryd.ntmps20
    go_wp2
    refine wp_loop_rounds 1 ?_
    rw [rounds_succ]
    go_wp2_with fail
    refine (HW.out _ Hr.out).mono ?_
    rintro e w2 ⟨rfl, hb2⟩
    go_wp2
    go_ret
    exact ⟨rfl, hb2⟩
  · have H4 := hide h4
    have Hs := hide hall
    clear h4 hall
    by_cases h12 : l.length ≤ 12
    · have h12i : (l.length : Int) ≤ 12 := by omega
      go_enter Tryd.func20, Tryd.ntmps20
      go_wp2
      go_loopw [10] (fun i wr => ∃ k : Nat, k ≤ l.length ∧ i = .int .i64 k ∧ (∀ j, j < k → acAt l j = true) ∧ Below w.heap.size w wr) (fun i _ => l.length - (intOf i).toNat)
      case atStart => exact ⟨0, Nat.zero_le _, rfl, fun j hj => by omega, Below.refl _ _⟩
      case round =>
        obtain ⟨k, hk, rfl, hok, hb⟩ := hrel
        have Hall := hide hok
        clear hok
        by_cases hlt : k < l.length
        · obtain ⟨lv, hat, hrl⟩ := H4.out k hlt
          obtain ⟨c0, c1, c2, c3, c4⟩ := hat.below hb h3
          have hsz := Hs.out l[k] (List.getElem_mem hlt)
          have Hok := hide (acAt_eq l k l[k] hlt rfl)
          have Hno := hide (acs_no l k hlt)
          have hli : (k : Int) < (l.length : Int) := by omega
          have hbb : b < wr.heap.size := Nat.lt_of_lt_of_le h3 hb.size
          have Hnx : Hid (acAt l k = true → ∀ j, j < k + 1 → acAt l j = true) := hide (fun h j hj => by
            by_cases e : j = k
            · subst e; exact h
            · exact Hall.out j (by omega))
          have hprev : Hid (k ≥ 1 → wr.cell? ⟨b, off + (k - 1) * 5, none⟩ = some (.string (l.getD (k - 1) ac0).1)) := hide (fun hk1 => by
            obtain ⟨lv2, hat2, _⟩ := H4.out (k - 1) (by omega)
            rw [List.getD_eq_getElem?_getD, List.getElem?_eq_getElem (show k - 1 < l.length by omega)]
            exact (hat2.below hb h3).c0)
          have hshape := hrl.shape
          have Hrl := hide (hrl.below hb (Nat.le_refl _))
          clear hat hrl
          generalize l[k] = ak at c0 c1 c2 c3 Hok hshape Hrl hsz
          generalize (l.getD (k - 1) ac0).1 = pn at hprev Hok
          obtain ⟨nm, fr, no, st, ls⟩ := ak
          obtain ⟨av, cv, rfl⟩ := hshape
          simp only at c0 c1 c2 c3 Hok Hrl hsz
          obtain ⟨w1, hw1⟩ : ∃ w1, wr.alloc (.cells #[.string nm, .int .i64 fr, .int .i64 no, .int .i64 st, .slice av ls.length cv] 33) = w1 := ⟨_, rfl⟩
          have hA : Below wr.heap.size wr w1 := by rw [← hw1]; exact (Below.refl _ wr).alloc (Nat.le_refl _) _
          have HB1 : Hid (Below w.heap.size w w1) := hide (hb.trans (hA.mono hb.size))
          have hk1 : Blk w1 wr.heap.size 33 [.string nm, .int .i64 fr, .int .i64 no, .int .i64 st, .slice av ls.length cv] := by rw [← hw1]; exact Blk.new wr _ _
          have HQ := hide (fun (d : Nat) (os : Array Obj) => Calls.regrown_of (implAcctOk_any (nm, fr, no, st, ls) (.slice av ls.length cv) (grow (redrawn w1 d) os) ((Hrl.out.below hA (Nat.le_refl _)).below (below_regrown w1 d os) (Nat.le_refl _)) hsz.1 hsz.2))
          simp only [acV] at HQ
          have e0 := hk1.cell 0
          have e1 := hk1.cell 1
          have e2 := hk1.cell 2
          have e3 := hk1.cell 3
          have e4 := hk1.cell 4
          simp only [List.getElem?_cons_zero, List.getElem?_cons_succ] at e0 e1 e2 e3 e4
          have g0 := cell_regrown e0
          have g1 := cell_regrown e1
          have g2 := cell_regrown e2
          have g3 := cell_regrown e3
          have g4 := cell_regrown e4
          have hprev1 : Hid (k ≥ 1 → w1.cell? ⟨b, off + (k - 1) * 5, none⟩ = some (.string pn)) := hide (fun h => (hA.cell (p := ⟨b, off + (k - 1) * 5, none⟩) hbb).trans (hprev.out h))
          clear e0 e1 e2 e3 e4 hprev hsz Hrl hk1 hA
          cases hn : acB (nm, fr, no, st, ls)
          · have hf := hide (Hno.out (by rw [Hok.out, hn]; rfl))
            rw [hn] at HQ
            clear hn hprev1 Hnx
            go_wp2
            clear c0 c1 c2 c3 c4
            refine wp_region_quiet_below (by kernel_rfl) (by kernel_rfl) ?_
            repeat (go_big_quiet_step ((go_at_call 36; exact HQ.out _ _)))
            refine wpQuiet_nil ?_
            intro _ hw'
            obtain ⟨⟨dq, osq⟩, hw''⟩ := hw'
            subst hw''
            go_wp2
            go_ret
            exact ⟨ret_bool hf.out.symm, HB1.out.trans ((below_regrown w1 dq osq).mono HB1.out.size)⟩
          · rw [hn] at HQ
            by_cases hk1 : k < 1
            · have hd : decide (0 < k) = false := by simp; omega
              have hd2 : decide ((0 : Int) < (k : Int)) = false := by simp; omega
              have Hnx := hide (Hnx.out (by rw [Hok.out, hn, show k = 0 from by omega]; rfl))
              clear hn hprev1
              go_wp2
              clear c0 c1 c2 c3 c4
              refine wp_region_quiet_below (by kernel_rfl) (by kernel_rfl) ?_
              repeat (go_big_quiet_step ((go_at_call 36; exact HQ.out _ _)))
              refine wpQuiet_nil ?_
              intro _ hw'
              obtain ⟨⟨dq, osq⟩, hw''⟩ := hw'
              subst hw''
              go_wp2
              go_roundw
              case rel => exact ⟨k + 1, by omega, by go_num, Hnx.out, HB1.out.trans ((below_regrown w1 dq osq).mono HB1.out.size)⟩
              case measure => simp [intOf]; omega
            · have hcp := cell_regrown (hprev1.out (by omega))
              clear hprev1
              have hpos : (0 : Int) < (k : Int) := by omega
              have hposN : 0 < k := by omega
              have hd1 : decide (0 < k) = true := by simp; omega
              have hix : ((k : Int) - 1).toNat = k - 1 := by omega
              have hix1 : (0 : Int) ≤ (k : Int) - 1 := by omega
              have hix2 : (k : Int) - 1 < (l.length : Int) := by omega
              cases hless : Op.bytesLess pn.toList nm.toList
              · have hf := hide (Hno.out (by rw [Hok.out, hn, hless]; simp; omega))
                clear hn Hnx
                go_wp2
                clear c0 c1 c2 c3 c4
                refine wp_region_quiet_below (by kernel_rfl) (by kernel_rfl) ?_
                repeat (go_big_quiet_step ((go_at_call 36; exact HQ.out _ _)))
                refine wpQuiet_nil ?_
                intro _ hw'
                obtain ⟨⟨dq, osq⟩, hw''⟩ := hw'
                subst hw''
                go_wp2
                go_ret
                exact ⟨ret_bool hf.out.symm, HB1.out.trans ((below_regrown w1 dq osq).mono HB1.out.size)⟩
              · have Hnx := hide (Hnx.out (by rw [Hok.out, hn, hless]; simp))
                clear hn
                go_wp2
                clear c0 c1 c2 c3 c4
                refine wp_region_quiet_below (by kernel_rfl) (by kernel_rfl) ?_
                repeat (go_big_quiet_step ((go_at_call 36; exact HQ.out _ _)))
                refine wpQuiet_nil ?_
                intro _ hw'
                obtain ⟨⟨dq, osq⟩, hw''⟩ := hw'
                subst hw''
                go_wp2
                go_roundw
                case rel => exact ⟨k + 1, by omega, by go_num, Hnx.out, HB1.out.trans ((below_regrown w1 dq osq).mono HB1.out.size)⟩
                case measure => simp [intOf]; omega
        · have hf := hide (acs_yes l (fun j hj => Hall.out j (by omega)))
          have HW2 := hide (HW.out _ (Hr.out.below hb (Nat.le_refl _)))
          rw [decide_eq_true h12, Bool.true_and] at hf
          generalize wealthA l = W at hf HW2
          go_wp2_with fail
          refine HW2.out.mono ?_
          rintro e w2 ⟨rfl, hb2⟩
          go_wp2
          go_ret
          exact ⟨ret_bool hf.out.symm, hb.trans (hb2.mono hb.size)⟩
    · have h12i : (12 : Int) < (l.length : Int) := by omega
      have hf : Hid (acsB l = false) := hide (by unfold acsB; rw [decide_eq_false h12, Bool.false_and, Bool.and_false])
      clear h12
      go_enter Tryd.func20, Tryd.ntmps20
      go_wp2
      go_ret
      exact ⟨ret_bool hf.out.symm, Below.refl _ _⟩
end Go.Proofs.YtdelegamcebflaaDoor

namespace Go.Proofs.YtdelegamcebflaaDoor
open Go.RowKit
set_option linter.unusedVariables false

set_option maxRecDepth 20000 in
set_option maxHeartbeats 1000000 in
theorem implLedgerOk_any (e : Int) (v : Value) (l : List Ac) (w : World) (hr : RdA w v l) (hl : l.length ≤ 4000000) (hall : ∀ a ∈ l, a.1.size ≤ maxLen ∧ a.2.2.2.2.length ≤ 4000000) :
    Calls Tryd.prog 8 #[lgV e v] w fun en w' => en = .returned (.bool (lgB e l)) ∧ Below w.heap.size w w' := by
  obtain ⟨a1, cv1, rfl⟩ := hr.shape
  simp only [lgV] at *
  have hb3 : Below w.heap.size w (w.alloc (.cells #[.int .i64 e, .slice a1 l.length cv1] 26)) := (Below.refl _ w).alloc (Nat.le_refl _) _
  have HE := hide (implAcctsOk_any _ l _ (hr.below hb3 (Nat.le_refl _)) hl hall)
  have Hb3 := hide hb3
  have Hx : Hid (lgB e l = (inB e 0 900 && acsB l)) := hide rfl
  clear hb3 hr hall
  generalize lgB e l = X at Hx
  generalize acsB l = A at Hx HE
  cases h0 : inB e 0 900
  · rw [h0, Bool.false_and] at Hx
    go_enter Tryd.func8, Tryd.ntmps8
    go_wp2_with (go_at_call 19; refine (implWithin_any _ _ _ _).mono ?_; rintro en w1 ⟨rfl, rfl⟩)
    go_ret
    exact ⟨ret_bool Hx.out.symm, Hb3.out⟩
  · rw [h0, Bool.true_and] at Hx
    go_enter Tryd.func8, Tryd.ntmps8
    go_wp2_with (first
      | (go_at_call 19; refine (implWithin_any _ _ _ _).mono ?_; rintro en w1 ⟨rfl, rfl⟩)
      | (go_at_call 20; refine HE.out.mono ?_; rintro en w2 ⟨rfl, hb2⟩))
    go_ret
    exact ⟨ret_bool Hx.out.symm, Hb3.out.trans (hb2.mono Hb3.out.size)⟩
end Go.Proofs.YtdelegamcebflaaDoor

namespace Go.Proofs.YtdelegamcebflaaDoor
open Go.RowKit
set_option linter.unusedVariables false

theorem foldN_hi (n : Int) (h : 1000000000 < n) : foldN n = 2000000000 := by unfold foldN; rw [if_neg (by omega)]; omega
theorem foldN_lo (n : Int) (h : n < -1000000000) : foldN n = 1999999999 := by unfold foldN; rw [if_pos (by omega)]; omega
theorem foldN_pos (n : Int) (h : 0 ≤ n) (h' : n ≤ 1000000000) : (foldN n : Int) = 2 * n := by unfold foldN; rw [if_neg (by omega)]; omega
theorem foldN_neg (n : Int) (h : n < 0) (h' : -1000000000 ≤ n) : (foldN n : Int) = -2 * n - 1 := by unfold foldN; rw [if_pos (by omega)]; omega

theorem num_cases (n : Int) : 1000000000 < n ∨ n < -1000000000 ∨ (0 ≤ n ∧ n ≤ 1000000000) ∨ (n < 0 ∧ -1000000000 ≤ n) := by omega

set_option maxRecDepth 20000 in
theorem fold_any (n : Int) (w : World) (h1 : -9223372036854775808 ≤ n) (h2 : n ≤ 9223372036854775807) :
    Calls Tryd.prog 55 #[.int .i64 n] w fun e w' => e = .returned (.int .i64 (foldN n)) ∧ w' = w := by
  rcases num_cases n with h | h | ⟨h, h'⟩ | ⟨h, h'⟩
  · have hf := hide (foldN_hi n h)
    go_enter Tryd.func55, Tryd.ntmps55
    go_wp2
    go_ret
    exact ⟨ret_int (by rw [hf.out]; rfl), rfl⟩
  · have hf := hide (foldN_lo n h)
    go_enter Tryd.func55, Tryd.ntmps55
    go_wp2
    go_ret
    exact ⟨ret_int (by rw [hf.out]; rfl), rfl⟩
  · have hf := hide (foldN_pos n h h')
    go_enter Tryd.func55, Tryd.ntmps55
    go_wp2
    go_ret
    exact ⟨ret_int (by rw [hf.out]), rfl⟩
  · have hf := hide (foldN_neg n h h')
    go_enter Tryd.func55, Tryd.ntmps55
    go_wp2
    go_ret
    exact ⟨ret_int (by rw [hf.out]), rfl⟩

set_option maxRecDepth 20000 in
set_option maxHeartbeats 400000 in
theorem copied_any (v : Value) (l : List UInt8) (w : World) (hr : RdB w v l) (hl : l.length ≤ 50000000) :
    Calls Tryd.prog 38 #[v] w fun e w' => ∃ v', e = .returned v' ∧ OwnB w.heap.size w' v' l ∧ Below w.heap.size w w' := by
  have hb0 : Below w.heap.size w (w.alloc (.cells #[] 5)) := (Below.refl _ _).alloc (Nat.le_refl _) _
  have Hr := hide (hr.below hb0 (Nat.le_refl _))
  have Ho := hide (own_nil w w.heap.size (Nat.le_refl _))
  have Hb := hide hb0
  clear hr hb0
  go_enter Tryd.func38, Tryd.ntmps38
  go_wp2_with (at_builtin; refine app_own _ rfl _ _ rfl w.heap.size _ _ [] l rfl rfl Ho.out Hr.out (by simp; omega) (by simp) ?_; intro v' w1 ho1 hb1)
  go_ret
  exact ⟨_, rfl, ho1, Hb.out.trans hb1⟩

set_option maxRecDepth 20000 in
set_option maxHeartbeats 1000000 in
theorem appendNum_any (v : Value) (l : List UInt8) (n : Int) (base : Nat) (w : World) (ho : OwnB base w v l) (hbase : base ≤ w.heap.size) (hl : l.length ≤ 50000000) (h1 : -9223372036854775808 ≤ n) (h2 : n ≤ 9223372036854775807) :
    Calls Tryd.prog 39 #[v, .int .i64 n] w fun e w' => ∃ v', e = .returned v' ∧ OwnB base w' v' (l ++ numB n) ∧ Below base w w' := by
  have Hf := hide (fold_any n w h1 h2)
  have hM2 := foldN_le n
  have HN : Hid (numB n = putG 5 (foldN n)) := hide rfl
  generalize foldN n = M at Hf hM2 HN
  have Ho := hide ho
  clear ho
  go_enter Tryd.func39, Tryd.ntmps39
  go_wp2_with (go_at_call 55; refine Hf.out.mono ?_; rintro e w' ⟨rfl, rfl⟩)
  go_loopw [0, 5] (fun bv lv wr => ∃ (m f : Nat) (pre : List UInt8), lv = .int .i64 (m : Int) ∧ OwnB base wr bv (l ++ pre) ∧ Below base w' wr ∧ pre ++ putG f m = putG 5 M ∧ m < 128 ^ (f + 1) ∧ pre.length + f = 5 ∧ m ≤ 2000000000)
    (fun _ lv _ => (intOf lv).toNat)
  case atStart => exact ⟨M, 5, [], rfl, by simpa using Ho.out, Below.refl _ _, rfl, fold_pow M hM2, rfl, hM2⟩
  case round =>
    obtain ⟨m, f, pre, rfl, hown, hbel, hpre, hmf, hpf, hm2⟩ := hrel
    have hsz : base ≤ wr.heap.size := by have := hbel.size; omega
    have Hown := hide hown
    have Hbel := hide hbel
    have Hpre := hide hpre
    have Hmf := hide hmf
    have hpl : pre.length ≤ 5 := by omega
    have Hpf := hide hpf
    clear hown hbel hpre hmf hpf
    by_cases hm : m ≤ 127
    · have Hend : Hid (l ++ pre ++ [UInt8.ofNat m] = l ++ numB n) := hide (by
        rw [HN.out, ← Hpre.out, putG_last f m hm, List.append_assoc])
      go_wp2_with (at_builtin; refine app_own _ rfl _ _ rfl base _ _ (l ++ pre) [UInt8.ofNat m] rfl rfl (Hown.out.alloc _) (rd_one _ _ _ (by have := byte_of m (by omega); omega)) (by simp; omega) (by simp; omega) ?_; intro v' w1 ho1 hb1)
      go_ret
      rw [Hend.out] at ho1
      exact ⟨_, rfl, ho1, (Hbel.out.alloc hsz _).trans hb1⟩
    · obtain ⟨f', hf'⟩ : ∃ f', f = f' + 1 := by
        cases f with
        | zero => have := Hmf.out; simp at this; omega
        | succ f' => exact ⟨f', rfl⟩
      subst hf'
      have Hnext : Hid ((pre ++ [UInt8.ofNat (m % 128 + 128)]) ++ putG f' (m / 128) = putG 5 M) := hide (by
        rw [← Hpre.out, putG_more f' m hm]; simp)
      have Hdiv := hide (div_lt_pow m f' Hmf.out)
      go_wp2_with (at_builtin; refine app_own _ rfl _ _ rfl base _ _ (l ++ pre) [UInt8.ofNat (m % 128 + 128)] rfl rfl (Hown.out.alloc _) (rd_one _ _ _ (by have := byte_of (m % 128 + 128) (by omega); omega)) (by simp; omega) (by simp; omega) ?_; intro v' w1 ho1 hb1)
      go_roundw
      case rel => exact ⟨m / 128, f', pre ++ [UInt8.ofNat (m % 128 + 128)], by go_num, by rw [← List.append_assoc]; exact ho1, (Hbel.out.alloc hsz _).trans hb1, Hnext.out, Hdiv.out, by have := Hpf.out; simp; omega, by omega⟩
      case measure => simp [intOf]; omega

/-- A slice of one number, new at the top of this world. -/
theorem one_cell (w : World) (n : Int) (t : TypeId) : (w.alloc (.cells #[.int .i64 n] t)).cell? ⟨w.heap.size, 0, none⟩ = some (.int .i64 n) := by
  simp [World.cell?_alloc_at]

set_option maxRecDepth 20000 in
set_option maxHeartbeats 1000000 in
theorem putNums_any (v : Value) (l : List UInt8) (n : Int) (g : Nat) (w : World) (hr : RdB w v l) (hl : l.length ≤ 40000000) (hg : g < w.heap.size) (hc : w.cell? ⟨g, 0, none⟩ = some (.int .i64 n)) (h1 : -9223372036854775808 ≤ n) (h2 : n ≤ 9223372036854775807) :
    Calls Tryd.prog 21 #[v, .slice (some ⟨g, 0, none⟩) 1 1] w fun e w' => ∃ v', e = .returned v' ∧ OwnB w.heap.size w' v' (l ++ numB n) ∧ Below w.heap.size w w' := by
  have Hc := hide (copied_any v l w hr (by omega))
  clear hr
  go_enter Tryd.func21, Tryd.ntmps21
  go_wp2_with (go_at_call 38; refine Hc.out.mono ?_; rintro e w1 ⟨v1, rfl, ho1, hb1⟩)
  go_loopw [5, 12] (fun bv iv wr => ∃ k : Nat, k ≤ 1 ∧ iv = .int .i64 (k : Int) ∧ OwnB w.heap.size wr bv (l ++ (if k = 0 then [] else numB n)) ∧ Below w.heap.size w wr) (fun _ iv _ => 1 - (intOf iv).toNat)
  case atStart => exact ⟨0, by omega, rfl, by simpa using ho1, hb1⟩
  case round =>
    obtain ⟨k, hk, rfl, ho, hb⟩ := hrel
    by_cases hk0 : k < 1
    · have hk1 : k = 0 := by omega
      subst hk1
      have hcr : wr.cell? ⟨g, 0, none⟩ = some (.int .i64 n) := (hb.cell (p := ⟨g, 0, none⟩) hg).trans hc
      have ho' := ho
      rw [if_pos rfl, List.append_nil] at ho'
      have Ha := hide (appendNum_any _ l n w.heap.size wr ho' (by have := hb.size; omega) (by omega) h1 h2)
      have Hb := hide hb
      clear ho ho' hb ho1 hb1
      go_wp2_with (go_at_call 39; refine Ha.out.mono ?_; rintro e w2 ⟨v2, rfl, ho2, hb2⟩)
      go_roundw
      case rel => exact ⟨1, by omega, by go_num, by simpa using ho2, Hb.out.trans hb2⟩
      case measure => simp [intOf]
    · have hk1 : k = 1 := by omega
      subst hk1
      have ho' := ho
      rw [if_neg (by decide)] at ho'
      go_wp2
      go_ret
      exact ⟨_, rfl, ho', hb⟩

set_option maxRecDepth 20000 in
theorem implPutNum_any (v : Value) (l : List UInt8) (n : Int) (w : World) (hr : RdB w v l) (hl : l.length ≤ 40000000) (h1 : -9223372036854775808 ≤ n) (h2 : n ≤ 9223372036854775807) :
    Calls Tryd.prog 9 #[v, .int .i64 n] w fun e w' => ∃ v', e = .returned v' ∧ OwnB w.heap.size w' v' (l ++ numB n) ∧ Below w.heap.size w w' := by
  have hb0 : Below w.heap.size w (w.alloc (.cells #[.int .i64 n] 3)) := (Below.refl _ _).alloc (Nat.le_refl _) _
  have Hp := hide (putNums_any v l n w.heap.size (w.alloc (.cells #[.int .i64 n] 3)) (hr.below hb0 (Nat.le_refl _)) hl (by simp) (one_cell w n 3) h1 h2)
  have Hb := hide hb0
  clear hr hb0
  go_enter Tryd.func9, Tryd.ntmps9
  go_wp2_with fail
  refine Hp.out.mono ?_
  rintro e w1 ⟨v1, rfl, ho1, hb1⟩
  go_wp2
  go_ret
  simp only [World.size_alloc] at ho1 hb1
  exact ⟨_, rfl, ho1.mono (by omega), Hb.out.trans (hb1.mono (by omega))⟩

end Go.Proofs.YtdelegamcebflaaDoor
