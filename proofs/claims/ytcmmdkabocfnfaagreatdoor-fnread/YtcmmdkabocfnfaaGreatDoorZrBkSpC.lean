/- The model's GetBlock. -/
import Derived.Test.YtcmmdkabocfnfaaGreatDoorZrBkFew
import Derived.Test.YtcmmdkabocfnfaaGreatDoorZrBkGetO
import Derived.Test.YtcmmdkabocfnfaaGreatDoorZrBkPutW
import Derived.Deep.RegionWith
import Derived.Deep.CutBlock
import Derived.Deep.DeepCutAuto
import Derived.Lib.QuietBelow
import Derived.BigQuiet
namespace Go.Proofs.YtcmmdkabocfnfaaGreatDoor
open Go.RowKit
set_option linter.unusedVariables false

theorem gS_bad {l : List UInt8} {s12 s15 : St} {ts : List Tx5} {ns : List Vl} (hE : (ts = rL (rX l) (sX l) (few (rN l (y10 l)) 5) (j11 l) ∧ s12 = j12 l) ∨ (s12 = none ∧ j12 l = none)) (hE2 : (ns = rL (rV l) (sV l) (few (rN l (sN l s12)) 13) (sN l (sN l s12)) ∧ s15 = sL (sV l) (few (rN l (sN l s12)) 13) (sN l (sN l s12))) ∨ (s15 = none ∧ sL (sV l) (few (rN l (sN l s12)) 13) (sN l (sN l s12)) = none)) (h : sT l s15 = none) : gS l = (bk0, false) := by
  have hj : j16 l = none := by
    unfold j16 j15 j14 j13
    rcases hE with ⟨-, e⟩ | ⟨-, e⟩
    · rw [← e]
      rcases hE2 with ⟨-, e2⟩ | ⟨-, e2⟩
      · rw [← e2]; exact h
      · rw [e2]; rfl
    · rw [e]
      show sT l (sL (sV l) (few (rN l (sN l none)) 13) none) = none
      rw [sL_none (sV l) rfl]; rfl
  unfold gS; rw [hj]; rfl
theorem gS_good {l : List UInt8} {s12 s15 : St} {ts : List Tx5} {ns : List Vl} {p : Int} (hl : l.length ≤ 4000000) (hE : (ts = rL (rX l) (sX l) (few (rN l (y10 l)) 5) (j11 l) ∧ s12 = j12 l) ∨ (s12 = none ∧ j12 l = none)) (hE2 : (ns = rL (rV l) (sV l) (few (rN l (sN l s12)) 13) (sN l (sN l s12)) ∧ s15 = sL (sV l) (few (rN l (sN l s12)) 13) (sN l (sN l s12))) ∨ (s15 = none ∧ sL (sV l) (few (rN l (sN l s12)) 13) (sN l (sN l s12)) = none)) (h : sT l s15 = some p) : gS l = (if (blB (⟨rN l (some 0), rN l (y1 l), rN l (y2 l), rT l (y3 l), rN l (y4 l), rN l (y5 l), rS l (y6 l), rN l (y7 l), rS l (y8 l), rL (rN l) (sN l) (rS l (y8 l)).length (y9 l), ts, rN l s12 == 1, ns, rT l s15⟩ : Bk) && decide (blP (⟨rN l (some 0), rN l (y1 l), rN l (y2 l), rT l (y3 l), rN l (y4 l), rN l (y5 l), rS l (y6 l), rN l (y7 l), rS l (y8 l), rL (rN l) (sN l) (rS l (y8 l)).length (y9 l), ts, rN l s12 == 1, ns, rT l s15⟩ : Bk) = l)) = true then ((⟨rN l (some 0), rN l (y1 l), rN l (y2 l), rT l (y3 l), rN l (y4 l), rN l (y5 l), rS l (y6 l), rN l (y7 l), rS l (y8 l), rL (rN l) (sN l) (rS l (y8 l)).length (y9 l), ts, rN l s12 == 1, ns, rT l s15⟩ : Bk), true) else (bk0, false)) ∧ FewK (⟨rN l (some 0), rN l (y1 l), rN l (y2 l), rT l (y3 l), rN l (y4 l), rN l (y5 l), rS l (y6 l), rN l (y7 l), rS l (y8 l), rL (rN l) (sN l) (rS l (y8 l)).length (y9 l), ts, rN l s12 == 1, ns, rT l s15⟩ : Bk) := by
  rcases hE2 with ⟨rfl, rfl⟩ | ⟨e, -⟩
  · rcases hE with ⟨rfl, rfl⟩ | ⟨e, -⟩
    · have hj : j16 l = some p := h
      have hf := few_bS l hl
      refine ⟨?_, hf⟩
      show (if ((j16 l).isSome && (blB (bS l) && decide (blP (bS l) = l))) = true then (bS l, true) else (bk0, false)) = _
      rw [hj]; rfl
    · subst e
      rw [show sL (sV l) (few (rN l (sN l none)) 13) (sN l (sN l none)) = none from sL_none (sV l) rfl _] at h
      cases h
  · subst e; cases h
set_option maxRecDepth 20000 in
set_option maxHeartbeats 8000000 in
theorem specGetBlock_any (v : Value) (l : List UInt8) (W : World) (hr : RdB W v l) (hl : l.length ≤ 1048576) :
    Calls Tryz.prog 6 #[v] W fun e W' => ∃ u, e = .returned (.tuple #[bkV (gS l).1 u, .bool (gS l).2]) ∧ OwnK W.heap.size W' (gS l).1 u ∧ Below W.heap.size W W' := by
  obtain ⟨av, cv, rfl⟩ := hr.shape
  go_enter Tryz.func6, Tryz.ntmps6
  go_wp2_with fail
  obtain ⟨w3, hw3⟩ : ∃ x, ((W.alloc (.cells #[.int .i64 0, .int .i64 0, .int .i64 0, .string { data := #[] }, .int .i64 0, .int .i64 0, .slice none 0 0, .int .i64 0, .slice none 0 0, .slice none 0 0, .slice none 0 0, .bool false, .slice none 0 0, .string { data := #[] }] 32)).alloc (.cells #[.slice av l.length cv, .int .i64 0, .bool false] 46)).alloc (.cells #[.int .i64 0, .int .i64 0, .int .i64 0, .string { data := #[] }, .int .i64 0, .int .i64 0, .slice none 0 0, .int .i64 0, .slice none 0 0, .slice none 0 0, .slice none 0 0, .bool false, .slice none 0 0, .string { data := #[] }] 32) = x := ⟨_, rfl⟩
  rw [hw3]
  have hO : Below W.heap.size W w3 := by rw [← hw3]; exact (((Below.refl _ W).alloc (Nat.le_refl _) _).alloc (by simp) _).alloc (by simp; omega) _
  have s3 : w3.heap.size = W.heap.size + 3 := by rw [← hw3]; simp
  have mR : Blk w3 W.heap.size 32 [.int .i64 0, .int .i64 0, .int .i64 0, .string { data := #[] }, .int .i64 0, .int .i64 0, .slice none 0 0, .int .i64 0, .slice none 0 0, .slice none 0 0, .slice none 0 0, .bool false, .slice none 0 0, .string { data := #[] }] := by
    rw [← hw3]
    exact (Blk.new W 32 [.int .i64 0, .int .i64 0, .int .i64 0, .string { data := #[] }, .int .i64 0, .int .i64 0, .slice none 0 0, .int .i64 0, .slice none 0 0, .slice none 0 0, .slice none 0 0, .bool false, .slice none 0 0, .string { data := #[] }]).below (((Below.refl (W.heap.size + 1) _).alloc (by simp) _).alloc (by simp) _) (by omega)
  have kS : Spr w3 (W.heap.size + 1) (.slice av l.length cv) 0 false := by
    rw [← hw3]
    have h := Blk.new (W.alloc (.cells #[.int .i64 0, .int .i64 0, .int .i64 0, .string { data := #[] }, .int .i64 0, .int .i64 0, .slice none 0 0, .int .i64 0, .slice none 0 0, .slice none 0 0, .slice none 0 0, .bool false, .slice none 0 0, .string { data := #[] }] 32)) 46 [.slice av l.length cv, .int .i64 0, .bool false]
    simp only [World.size_alloc] at h
    exact Blk.below h ((Below.refl (W.heap.size + 2) _).alloc (by simp) _) (by omega)
  have mQ : Blk w3 (W.heap.size + 1 + 1) 32 [.int .i64 0, .int .i64 0, .int .i64 0, .string { data := #[] }, .int .i64 0, .int .i64 0, .slice none 0 0, .int .i64 0, .slice none 0 0, .slice none 0 0, .slice none 0 0, .bool false, .slice none 0 0, .string { data := #[] }] := by
    rw [← hw3]
    have h := Blk.new ((W.alloc (.cells #[.int .i64 0, .int .i64 0, .int .i64 0, .string { data := #[] }, .int .i64 0, .int .i64 0, .slice none 0 0, .int .i64 0, .slice none 0 0, .slice none 0 0, .slice none 0 0, .bool false, .slice none 0 0, .string { data := #[] }] 32)).alloc (.cells #[.slice av l.length cv, .int .i64 0, .bool false] 46)) 32 [.int .i64 0, .int .i64 0, .int .i64 0, .string { data := #[] }, .int .i64 0, .int .i64 0, .slice none 0 0, .int .i64 0, .slice none 0 0, .slice none 0 0, .slice none 0 0, .bool false, .slice none 0 0, .string { data := #[] }]
    simp only [World.size_alloc] at h
    exact h
  have hR : Sp9 W w3 (W.heap.size + 1) (.slice av l.length cv) l (some 0) := ⟨⟨0, false, kS, rfl, Int.le_refl _, by omega⟩, hr, hO, by omega, by omega⟩
  clear kS hr s3
  have C := spNum_any (w0 := W) (W := w3) (s := some 0) hR
  rw [show sN l (some 0) = y1 l from rfl] at C
  refine C.mono ?_
  clear hR
  rintro e w4 ⟨rfl, hR, hO9⟩
  clear C hw3
  replace mR := mR.oth hO9 (by omega)
  replace mQ := mQ.oth hO9 (by omega)
  replace hO := hO.trans (hO9.below (B := W.heap.size) (fun g e => by omega) hO.size)
  have q0 := mQ.cell 0
  have f0 := mQ.frozen 0
  simp only [List.getElem?_cons_zero] at q0
  replace hR := hR.set (g := W.heap.size + 1 + 1) (by omega) (by omega) 0 (.int .i64 (rN l (some 0)))
  replace mR := mR.otherC (W.heap.size + 1 + 1) 0 (.int .i64 (rN l (some 0))) (by omega)
  replace mQ := mQ.setC 0 (.int .i64 (rN l (some 0)))
  replace hO := hO.setCell (p := ⟨W.heap.size + 1 + 1, 0, none⟩) (show W.heap.size ≤ W.heap.size + 1 + 1 by omega) (.int .i64 (rN l (some 0)))
  simp only [List.set_cons_zero] at mQ
  obtain ⟨w5, hw5⟩ : ∃ x, w4.setCell ⟨W.heap.size + 1 + 1, 0, none⟩ (.int .i64 (rN l (some 0))) = x := ⟨_, rfl⟩
  rw [hw5] at hR mR mQ hO
  clear hO9
  go_wp2_with fail
  have C := spNum_any (w0 := W) (W := w5) (s := y1 l) hR
  rw [show sN l (y1 l) = y2 l from rfl] at C
  refine C.mono ?_
  clear hR
  rintro e w6 ⟨rfl, hR, hO9⟩
  clear C hw5
  replace mR := mR.oth hO9 (by omega)
  replace mQ := mQ.oth hO9 (by omega)
  replace hO := hO.trans (hO9.below (B := W.heap.size) (fun g e => by omega) hO.size)
  have q1 := mQ.cell 1
  have f1 := mQ.frozen 1
  simp only [List.getElem?_cons_zero, List.getElem?_cons_succ] at q1
  replace hR := hR.set (g := W.heap.size + 1 + 1) (by omega) (by omega) 1 (.int .i64 (rN l (y1 l)))
  replace mR := mR.otherC (W.heap.size + 1 + 1) 1 (.int .i64 (rN l (y1 l))) (by omega)
  replace mQ := mQ.setC 1 (.int .i64 (rN l (y1 l)))
  replace hO := hO.setCell (p := ⟨W.heap.size + 1 + 1, 1, none⟩) (show W.heap.size ≤ W.heap.size + 1 + 1 by omega) (.int .i64 (rN l (y1 l)))
  simp only [List.set_cons_zero, List.set_cons_succ] at mQ
  obtain ⟨w7, hw7⟩ : ∃ x, w6.setCell ⟨W.heap.size + 1 + 1, 1, none⟩ (.int .i64 (rN l (y1 l))) = x := ⟨_, rfl⟩
  rw [hw7] at hR mR mQ hO
  clear hO9
  go_wp2_with fail
  have C := spNum_any (w0 := W) (W := w7) (s := y2 l) hR
  rw [show sN l (y2 l) = y3 l from rfl] at C
  refine C.mono ?_
  clear hR
  rintro e w8 ⟨rfl, hR, hO9⟩
  clear C hw7
  replace mR := mR.oth hO9 (by omega)
  replace mQ := mQ.oth hO9 (by omega)
  replace hO := hO.trans (hO9.below (B := W.heap.size) (fun g e => by omega) hO.size)
  have q2 := mQ.cell 2
  have f2 := mQ.frozen 2
  simp only [List.getElem?_cons_zero, List.getElem?_cons_succ] at q2
  replace hR := hR.set (g := W.heap.size + 1 + 1) (by omega) (by omega) 2 (.int .i64 (rN l (y2 l)))
  replace mR := mR.otherC (W.heap.size + 1 + 1) 2 (.int .i64 (rN l (y2 l))) (by omega)
  replace mQ := mQ.setC 2 (.int .i64 (rN l (y2 l)))
  replace hO := hO.setCell (p := ⟨W.heap.size + 1 + 1, 2, none⟩) (show W.heap.size ≤ W.heap.size + 1 + 1 by omega) (.int .i64 (rN l (y2 l)))
  simp only [List.set_cons_zero, List.set_cons_succ] at mQ
  obtain ⟨w9, hw9⟩ : ∃ x, w8.setCell ⟨W.heap.size + 1 + 1, 2, none⟩ (.int .i64 (rN l (y2 l))) = x := ⟨_, rfl⟩
  rw [hw9] at hR mR mQ hO
  clear hO9
  go_wp2_with fail
  have C := spText_any (w0 := W) (W := w9) (s := y3 l) hR
  rw [show sT l (y3 l) = y4 l from rfl] at C
  refine C.mono ?_
  clear hR
  rintro e w10 ⟨rfl, hR, hO9⟩
  clear C hw9
  replace mR := mR.oth hO9 (by omega)
  replace mQ := mQ.oth hO9 (by omega)
  replace hO := hO.trans (hO9.below (B := W.heap.size) (fun g e => by omega) hO.size)
  have q3 := mQ.cell 3
  have f3 := mQ.frozen 3
  simp only [List.getElem?_cons_zero, List.getElem?_cons_succ] at q3
  replace hR := hR.set (g := W.heap.size + 1 + 1) (by omega) (by omega) 3 (.string (rT l (y3 l)))
  replace mR := mR.otherC (W.heap.size + 1 + 1) 3 (.string (rT l (y3 l))) (by omega)
  replace mQ := mQ.setC 3 (.string (rT l (y3 l)))
  replace hO := hO.setCell (p := ⟨W.heap.size + 1 + 1, 3, none⟩) (show W.heap.size ≤ W.heap.size + 1 + 1 by omega) (.string (rT l (y3 l)))
  simp only [List.set_cons_zero, List.set_cons_succ] at mQ
  obtain ⟨w11, hw11⟩ : ∃ x, w10.setCell ⟨W.heap.size + 1 + 1, 3, none⟩ (.string (rT l (y3 l))) = x := ⟨_, rfl⟩
  rw [hw11] at hR mR mQ hO
  clear hO9
  go_wp2_with fail
  have C := spNum_any (w0 := W) (W := w11) (s := y4 l) hR
  rw [show sN l (y4 l) = y5 l from rfl] at C
  refine C.mono ?_
  clear hR
  rintro e w12 ⟨rfl, hR, hO9⟩
  clear C hw11
  replace mR := mR.oth hO9 (by omega)
  replace mQ := mQ.oth hO9 (by omega)
  replace hO := hO.trans (hO9.below (B := W.heap.size) (fun g e => by omega) hO.size)
  have q4 := mQ.cell 4
  have f4 := mQ.frozen 4
  simp only [List.getElem?_cons_zero, List.getElem?_cons_succ] at q4
  replace hR := hR.set (g := W.heap.size + 1 + 1) (by omega) (by omega) 4 (.int .i64 (rN l (y4 l)))
  replace mR := mR.otherC (W.heap.size + 1 + 1) 4 (.int .i64 (rN l (y4 l))) (by omega)
  replace mQ := mQ.setC 4 (.int .i64 (rN l (y4 l)))
  replace hO := hO.setCell (p := ⟨W.heap.size + 1 + 1, 4, none⟩) (show W.heap.size ≤ W.heap.size + 1 + 1 by omega) (.int .i64 (rN l (y4 l)))
  simp only [List.set_cons_zero, List.set_cons_succ] at mQ
  obtain ⟨w13, hw13⟩ : ∃ x, w12.setCell ⟨W.heap.size + 1 + 1, 4, none⟩ (.int .i64 (rN l (y4 l))) = x := ⟨_, rfl⟩
  rw [hw13] at hR mR mQ hO
  clear hO9
  go_wp2_with fail
  have C := spNum_any (w0 := W) (W := w13) (s := y5 l) hR
  rw [show sN l (y5 l) = y6 l from rfl] at C
  refine C.mono ?_
  clear hR
  rintro e w14 ⟨rfl, hR, hO9⟩
  clear C hw13
  replace mR := mR.oth hO9 (by omega)
  replace mQ := mQ.oth hO9 (by omega)
  replace hO := hO.trans (hO9.below (B := W.heap.size) (fun g e => by omega) hO.size)
  have q5 := mQ.cell 5
  have f5 := mQ.frozen 5
  simp only [List.getElem?_cons_zero, List.getElem?_cons_succ] at q5
  replace hR := hR.set (g := W.heap.size + 1 + 1) (by omega) (by omega) 5 (.int .i64 (rN l (y5 l)))
  replace mR := mR.otherC (W.heap.size + 1 + 1) 5 (.int .i64 (rN l (y5 l))) (by omega)
  replace mQ := mQ.setC 5 (.int .i64 (rN l (y5 l)))
  replace hO := hO.setCell (p := ⟨W.heap.size + 1 + 1, 5, none⟩) (show W.heap.size ≤ W.heap.size + 1 + 1 by omega) (.int .i64 (rN l (y5 l)))
  simp only [List.set_cons_zero, List.set_cons_succ] at mQ
  obtain ⟨w15, hw15⟩ : ∃ x, w14.setCell ⟨W.heap.size + 1 + 1, 5, none⟩ (.int .i64 (rN l (y5 l))) = x := ⟨_, rfl⟩
  rw [hw15] at hR mR mQ hO
  clear hO9
  go_wp2_with fail
  have C := spNames_any (w0 := W) (W := w15) (s := y6 l) hR
  have zB15 := mQ.lt
  rw [show sS l (y6 l) = y7 l from rfl] at C
  refine C.mono ?_
  clear hR
  rintro e w16 ⟨vq, rfl, oq, hR, hO9⟩
  clear C hw15
  obtain ⟨aq, cq, rfl⟩ := oq.rd.shape
  replace mR := mR.oth hO9 (by omega)
  replace mQ := mQ.oth hO9 (by omega)
  replace hO := hO.trans (hO9.below (B := W.heap.size) (fun g e => by omega) hO.size)
  have q6 := mQ.cell 6
  have f6 := mQ.frozen 6
  simp only [List.getElem?_cons_zero, List.getElem?_cons_succ] at q6
  replace hR := hR.set (g := W.heap.size + 1 + 1) (by omega) (by omega) 6 (.slice aq (rS l (y6 l)).length cq)
  replace mR := mR.otherC (W.heap.size + 1 + 1) 6 (.slice aq (rS l (y6 l)).length cq) (by omega)
  replace mQ := mQ.setC 6 (.slice aq (rS l (y6 l)).length cq)
  replace hO := hO.setCell (p := ⟨W.heap.size + 1 + 1, 6, none⟩) (show W.heap.size ≤ W.heap.size + 1 + 1 by omega) (.slice aq (rS l (y6 l)).length cq)
  replace oq := oq.olderC (g := W.heap.size + 1 + 1) (by omega) 6 (.slice aq (rS l (y6 l)).length cq)
  simp only [List.set_cons_zero, List.set_cons_succ] at mQ
  obtain ⟨w17, hw17⟩ : ∃ x, w16.setCell ⟨W.heap.size + 1 + 1, 6, none⟩ (.slice aq (rS l (y6 l)).length cq) = x := ⟨_, rfl⟩
  rw [hw17] at hR mR mQ hO oq
  clear hO9
  go_wp2_with fail
  have C := spGetTc_any (w0 := W) (W := w17) (s := y7 l) hR
  have zB17 := mQ.lt
  simp only [tcV] at C
  rw [show sN l (y7 l) = y8 l from rfl] at C
  rw [show sS l (y8 l) = y9 l from rfl] at C
  rw [show sL (sN l) (rS l (y8 l)).length (y9 l) = y10 l from rfl] at C
  refine C.mono ?_
  clear hR
  rintro e w18 ⟨vw, vh, rfl, ow, oh, hR, hO9⟩
  clear C hw17
  obtain ⟨aw, cw, rfl⟩ := ow.rd.shape
  obtain ⟨ah, ch, rfl⟩ := oh.rd.shape
  replace mR := mR.oth hO9 (by omega)
  replace mQ := mQ.oth hO9 (by omega)
  replace hO := hO.trans (hO9.below (B := W.heap.size) (fun g e => by omega) hO.size)
  replace oq : OwnS w15.heap.size w18 (.slice aq (rS l (y6 l)).length cq) (rS l (y6 l)) := row_oth oq hO9 (fun g hg e => by have := (World.ownsRow.lt oq g hg).1; omega)
  have q7 := mQ.cell 7
  have f7 := mQ.frozen 7
  have q8 := mQ.cell 8
  have f8 := mQ.frozen 8
  have q9 := mQ.cell 9
  have f9 := mQ.frozen 9
  simp only [List.getElem?_cons_zero, List.getElem?_cons_succ] at q7 q8 q9
  replace hR := hR.set (g := W.heap.size + 1 + 1) (by omega) (by omega) 7 (.int .i64 (rN l (y7 l)))
  replace mR := mR.otherC (W.heap.size + 1 + 1) 7 (.int .i64 (rN l (y7 l))) (by omega)
  replace mQ := mQ.setC 7 (.int .i64 (rN l (y7 l)))
  replace hO := hO.setCell (p := ⟨W.heap.size + 1 + 1, 7, none⟩) (show W.heap.size ≤ W.heap.size + 1 + 1 by omega) (.int .i64 (rN l (y7 l)))
  replace oq := oq.olderC (g := W.heap.size + 1 + 1) (by omega) 7 (.int .i64 (rN l (y7 l)))
  replace ow := ow.olderC (g := W.heap.size + 1 + 1) (by omega) 7 (.int .i64 (rN l (y7 l)))
  replace oh := oh.olderC (g := W.heap.size + 1 + 1) (by omega) 7 (.int .i64 (rN l (y7 l)))
  replace hR := hR.set (g := W.heap.size + 1 + 1) (by omega) (by omega) 8 (.slice aw (rS l (y8 l)).length cw)
  replace mR := mR.otherC (W.heap.size + 1 + 1) 8 (.slice aw (rS l (y8 l)).length cw) (by omega)
  replace mQ := mQ.setC 8 (.slice aw (rS l (y8 l)).length cw)
  replace hO := hO.setCell (p := ⟨W.heap.size + 1 + 1, 8, none⟩) (show W.heap.size ≤ W.heap.size + 1 + 1 by omega) (.slice aw (rS l (y8 l)).length cw)
  replace oq := oq.olderC (g := W.heap.size + 1 + 1) (by omega) 8 (.slice aw (rS l (y8 l)).length cw)
  replace ow := ow.olderC (g := W.heap.size + 1 + 1) (by omega) 8 (.slice aw (rS l (y8 l)).length cw)
  replace oh := oh.olderC (g := W.heap.size + 1 + 1) (by omega) 8 (.slice aw (rS l (y8 l)).length cw)
  replace hR := hR.set (g := W.heap.size + 1 + 1) (by omega) (by omega) 9 (.slice ah (rL (rN l) (sN l) (rS l (y8 l)).length (y9 l)).length ch)
  replace mR := mR.otherC (W.heap.size + 1 + 1) 9 (.slice ah (rL (rN l) (sN l) (rS l (y8 l)).length (y9 l)).length ch) (by omega)
  replace mQ := mQ.setC 9 (.slice ah (rL (rN l) (sN l) (rS l (y8 l)).length (y9 l)).length ch)
  replace hO := hO.setCell (p := ⟨W.heap.size + 1 + 1, 9, none⟩) (show W.heap.size ≤ W.heap.size + 1 + 1 by omega) (.slice ah (rL (rN l) (sN l) (rS l (y8 l)).length (y9 l)).length ch)
  replace oq := oq.olderC (g := W.heap.size + 1 + 1) (by omega) 9 (.slice ah (rL (rN l) (sN l) (rS l (y8 l)).length (y9 l)).length ch)
  replace ow := ow.olderC (g := W.heap.size + 1 + 1) (by omega) 9 (.slice ah (rL (rN l) (sN l) (rS l (y8 l)).length (y9 l)).length ch)
  replace oh := oh.olderC (g := W.heap.size + 1 + 1) (by omega) 9 (.slice ah (rL (rN l) (sN l) (rS l (y8 l)).length (y9 l)).length ch)
  simp only [List.set_cons_zero, List.set_cons_succ] at mQ
  obtain ⟨w19, hw19⟩ : ∃ x, ((w18.setCell ⟨W.heap.size + 1 + 1, 7, none⟩ (.int .i64 (rN l (y7 l)))).setCell ⟨W.heap.size + 1 + 1, 8, none⟩ (.slice aw (rS l (y8 l)).length cw)).setCell ⟨W.heap.size + 1 + 1, 9, none⟩ (.slice ah (rL (rN l) (sN l) (rS l (y8 l)).length (y9 l)).length ch) = x := ⟨_, rfl⟩
  rw [hw19] at hR mR mQ hO oq ow oh
  clear hO9
  go_wp2_with fail
  have C := spNum_any (w0 := W) (W := w19) (s := y10 l) hR
  rw [show sN l (y10 l) = j11 l from rfl] at C
  refine C.mono ?_
  clear hR
  rintro e w20 ⟨rfl, hR, hO9⟩
  clear C hw19
  replace mR := mR.oth hO9 (by omega)
  replace mQ := mQ.oth hO9 (by omega)
  replace hO := hO.trans (hO9.below (B := W.heap.size) (fun g e => by omega) hO.size)
  replace oq : OwnS w15.heap.size w20 (.slice aq (rS l (y6 l)).length cq) (rS l (y6 l)) := row_oth oq hO9 (fun g hg e => by have := (World.ownsRow.lt oq g hg).1; omega)
  replace ow : OwnS w17.heap.size w20 (.slice aw (rS l (y8 l)).length cw) (rS l (y8 l)) := row_oth ow hO9 (fun g hg e => by have := (World.ownsRow.lt ow g hg).1; omega)
  replace oh : OwnI w17.heap.size w20 (.slice ah (rL (rN l) (sN l) (rS l (y8 l)).length (y9 l)).length ch) (rL (rN l) (sN l) (rS l (y8 l)).length (y9 l)) := row_oth oh hO9 (fun g hg e => by have := (World.ownsRow.lt oh g hg).1; omega)
  clear hO9
  have zT := mQ.lt
  have Hlq : Hid (∀ g, (Value.slice aq (rS l (y6 l)).length cq).ownBlock = some g → g < w20.heap.size) := hide (fun g hg => (World.ownsRow.lt oq g hg).2)
  have Hlw : Hid (∀ g, (Value.slice aw (rS l (y8 l)).length cw).ownBlock = some g → g < w20.heap.size) := hide (fun g hg => (World.ownsRow.lt ow g hg).2)
  have Hlh : Hid (∀ g, (Value.slice ah (rL (rN l) (sN l) (rS l (y8 l)).length (y9 l)).length ch).ownBlock = some g → g < w20.heap.size) := hide (fun g hg => (World.ownsRow.lt oh g hg).2)
  have Hfew : Hid (∀ k : Nat, k ≤ few (rN l (y10 l)) 5 → ¬ ((k : Int) < rN l (y10 l) ∧ (k : Int) < 5) → k = few (rN l (y10 l)) 5) := hide (fun k hk h => by unfold few at hk ⊢; omega)
  have Hfew5 : Hid (∀ k : Nat, (k : Int) < rN l (y10 l) → (k : Int) < 5 → k + 1 ≤ few (rN l (y10 l)) 5) := hide (fun k h1 h2 => by unfold few; omega)
  have Hmore := hide (fun k (hk : k ≤ few (rN l (y10 l)) 5) (h : sL (sX l) k (j11 l) = none) => sL_more (sX l) rfl (j11 l) k h _ hk)
  have Hj12 : Hid (j12 l = sL (sX l) (few (rN l (y10 l)) 5) (j11 l)) := hide rfl
  have HmQ := hide mQ
  have HmR := hide mR
  have Hoq := hide oq
  have How := hide ow
  have Hoh := hide oh
  have HhR := hide hR
  have HhO := hide hO
  clear mQ mR oq ow oh hR hO
  go_upto_block 0 with fail
  go_cut [7] (fun si wc => ∃ (ts : List Tx5) (s12 : St) (at_ : Option Addr) (ct : Nat), ((ts = rL (rX l) (sX l) (few (rN l (y10 l)) 5) (j11 l) ∧ s12 = j12 l) ∨ (s12 = none ∧ j12 l = none)) ∧ Blk wc (W.heap.size + 1 + 1) 32 [.int .i64 (rN l (some 0)), .int .i64 (rN l (y1 l)), .int .i64 (rN l (y2 l)), .string (rT l (y3 l)), .int .i64 (rN l (y4 l)), .int .i64 (rN l (y5 l)), .slice aq (rS l (y6 l)).length cq, .int .i64 (rN l (y7 l)), .slice aw (rS l (y8 l)).length cw, .slice ah (rL (rN l) (sN l) (rS l (y8 l)).length (y9 l)).length ch, .slice at_ ts.length ct, .bool false, .slice none 0 0, .string { data := #[] }] ∧ Blk wc W.heap.size 32 [.int .i64 0, .int .i64 0, .int .i64 0, .string { data := #[] }, .int .i64 0, .int .i64 0, .slice none 0 0, .int .i64 0, .slice none 0 0, .slice none 0 0, .slice none 0 0, .bool false, .slice none 0 0, .string { data := #[] }] ∧ OwnT w20.heap.size wc (.slice at_ ts.length ct) ts ∧ OwnS w15.heap.size wc (.slice aq (rS l (y6 l)).length cq) (rS l (y6 l)) ∧ OwnS w17.heap.size wc (.slice aw (rS l (y8 l)).length cw) (rS l (y8 l)) ∧ OwnI w17.heap.size wc (.slice ah (rL (rN l) (sN l) (rS l (y8 l)).length (y9 l)).length ch) (rL (rN l) (sN l) (rS l (y8 l)).length (y9 l)) ∧ Sp9 W wc (W.heap.size + 1) (.slice av l.length cv) l s12 ∧ Below W.heap.size W wc ∧ w20.heap.size ≤ wc.heap.size)
  case first =>
    go_wp2_with fail
    go_loopw [7] (fun iv wr => ∃ (k : Nat) (tv : Value), k ≤ few (rN l (y10 l)) 5 ∧ iv = .int .i64 (k : Int) ∧ Blk wr (W.heap.size + 1 + 1) 32 [.int .i64 (rN l (some 0)), .int .i64 (rN l (y1 l)), .int .i64 (rN l (y2 l)), .string (rT l (y3 l)), .int .i64 (rN l (y4 l)), .int .i64 (rN l (y5 l)), .slice aq (rS l (y6 l)).length cq, .int .i64 (rN l (y7 l)), .slice aw (rS l (y8 l)).length cw, .slice ah (rL (rN l) (sN l) (rS l (y8 l)).length (y9 l)).length ch, tv, .bool false, .slice none 0 0, .string { data := #[] }] ∧ Blk wr W.heap.size 32 [.int .i64 0, .int .i64 0, .int .i64 0, .string { data := #[] }, .int .i64 0, .int .i64 0, .slice none 0 0, .int .i64 0, .slice none 0 0, .slice none 0 0, .slice none 0 0, .bool false, .slice none 0 0, .string { data := #[] }] ∧ OwnT w20.heap.size wr tv (rL (rX l) (sX l) k (j11 l)) ∧ OwnS w15.heap.size wr (.slice aq (rS l (y6 l)).length cq) (rS l (y6 l)) ∧ OwnS w17.heap.size wr (.slice aw (rS l (y8 l)).length cw) (rS l (y8 l)) ∧ OwnI w17.heap.size wr (.slice ah (rL (rN l) (sN l) (rS l (y8 l)).length (y9 l)).length ch) (rL (rN l) (sN l) (rS l (y8 l)).length (y9 l)) ∧ Sp9 W wr (W.heap.size + 1) (.slice av l.length cv) l (sL (sX l) k (j11 l)) ∧ Below W.heap.size W wr ∧ w20.heap.size ≤ wr.heap.size) (fun iv _ => 5 - (intOf iv).toNat)
    case atStart => exact ⟨0, .slice none 0 0, Nat.zero_le _, rfl, HmQ.out, HmR.out, nil_ownT _ _, Hoq.out, How.out, Hoh.out, HhR.out, HhO.out, Nat.le_refl _⟩
    case round =>
      clear HmQ HmR Hoq How Hoh HhR HhO
      obtain ⟨k, tv, hk, rfl, mQ, mR, oT, oq, ow, oh, hR, hO, hz⟩ := hrel
      have hR0 := hR
      obtain ⟨⟨p, bad, hkS, hs, h0, h1⟩, h2, h3, h4, h5⟩ := hR
      have c2 := Blk.cell hkS 2
      simp only [List.getElem?_cons_zero, List.getElem?_cons_succ] at c2
      obtain ⟨a8, c8, hv8⟩ := oT.rd.shape
      subst hv8
      by_cases c1 : (k : Int) < rN l (y10 l)
      · by_cases c5 : (k : Int) < 5
        · cases bad
          · have Hnx : Hid (rL (rX l) (sX l) (k + 1) (j11 l) = rL (rX l) (sX l) k (j11 l) ++ [rX l (sL (sX l) k (j11 l))] ∧ sL (sX l) (k + 1) (j11 l) = sX l (sL (sX l) k (j11 l))) := hide ⟨rfl, rfl⟩
            rw [show sL (sX l) k (j11 l) = some p from hs] at Hnx
            have HF : Hid (rX l (some p) = (getX l p).1 ∧ sX l (some p) = if (getX l p).2.2 = true then some (getX l p).2.1 else none) := hide ⟨rfl, rfl⟩
            have Hlen := hide (rL_len (rX l) (sX l) (j11 l) k)
            have hk6 := Hfew5.out k c1 c5
            have hbd := getX_bd l p
            have hBl := Blk.lt hkS
            have hQl := mQ.lt
            have cc0 := Blk.cell hkS 0
            have cc1 := Blk.cell hkS 1
            simp only [List.getElem?_cons_zero, List.getElem?_cons_succ] at cc0 cc1
            have HC := hide (fun V (hV : Below wr.heap.size wr V) => specGetTx_any (.slice av l.length cv) l p V (h2.below (h3.trans (hV.mono h3.size)) (Nat.le_refl _)) h5 (by omega) (by omega))
            generalize rL (rX l) (sX l) k (j11 l) = L at Hnx Hlen oT mQ
            generalize rX l (some p) = RX at HF Hnx
            generalize sX l (some p) = T2 at HF Hnx
            generalize getX l p = G at HC HF hbd
            obtain ⟨⟨kd, fr, tt, am, no⟩, q, o⟩ := G
            simp only [txV] at HC HF hbd
            have HS1 : Hid (∀ V, Below wr.heap.size wr V → (V.cell? ⟨W.heap.size + 1, 0, none⟩ = some (.slice av l.length cv) ∧ V.cell? ⟨W.heap.size + 1, 1, none⟩ = some (.int .i64 p))) := hide (fun V hv => ⟨(hv.cell (p := ⟨W.heap.size + 1, 0, none⟩) hBl).trans cc0, (hv.cell (p := ⟨W.heap.size + 1, 1, none⟩) hBl).trans cc1⟩)
            have bD1 : Below wr.heap.size wr wr.drew := (Below.refl _ wr).drew
            have bE1 : Below wr.heap.size wr (wr.alloc (.cells #[.int .i64 0, .string { data := #[] }, .string { data := #[] }, .int .i64 0, .int .i64 0] 52)).drew := ((Below.refl _ wr).alloc (Nat.le_refl _) _).drew
            have nE1 : Blk (wr.alloc (.cells #[.int .i64 0, .string { data := #[] }, .string { data := #[] }, .int .i64 0, .int .i64 0] 52)).drew wr.heap.size 52 [.int .i64 0, .string { data := #[] }, .string { data := #[] }, .int .i64 0, .int .i64 0] := Blk.new wr _ _
            have HK := hide hkS
            have HmQ := hide mQ
            have HmR := hide mR
            have HoT := hide oT
            have Hoq := hide oq
            have How := hide ow
            have Hoh := hide oh
            have H2 := hide h2
            have H3 := hide h3
            have HO := hide hO
            clear mQ mR oT oq ow oh hR0 hO hkS h2 h3 hs
            go_upto_region 15 with fail
            clear cc0 cc1 c2
            go_cut [8, 9, 10] (fun sp sq so wc => ∃ Ba : Nat, sp = .pointer (some ⟨Ba, 0, none⟩) ∧ sq = .int .i64 q ∧ so = .bool o ∧ Blk wc Ba 52 [.int .i64 kd, .string fr, .string tt, .int .i64 am, .int .i64 no] ∧ Below wr.heap.size wr wc ∧ wr.heap.size ≤ Ba)
            case first =>
              go_region_held_law (fun w' => w'.cell? ⟨W.heap.size + 1, 0, none⟩ = some (.slice av l.length cv) ∧ w'.cell? ⟨W.heap.size + 1, 1, none⟩ = some (.int .i64 p)) ((refine HS1.out _ ?_; repeat (first | with_reducible exact bD1 | with_reducible exact bE1 | with_reducible exact cd1 | with_reducible exact Below.refl _ _ | refine Below.drew ?_ | refine Below.alloc ?_ (by first | omega | (simp; done) | (simp; omega)) _ | refine Below.setCell ?_ (by first | omega | (simp; done)) _))) ((first
                | (go_at_call 26; (with_reducible refine (HC.out wr.drew bD1).mono ?_); rintro en u1 ⟨rfl, hu1⟩; have cd1 := bD1.trans (hu1.mono bD1.size); have zz1 := cd1.size)
                | (go_at_call 26; (with_reducible refine (HC.out (wr.alloc (.cells #[.int .i64 0, .string { data := #[] }, .string { data := #[] }, .int .i64 0, .int .i64 0] 52)).drew bE1).mono ?_); rintro en u1 ⟨rfl, hu1⟩; have cd1 := bE1.trans (hu1.mono bE1.size); have zz1 := cd1.size; have nb1 := nE1.below hu1 nE1.lt; have n0 := nb1.cell 0; have n1 := nb1.cell 1; have n2 := nb1.cell 2; have n3 := nb1.cell 3; have n4 := nb1.cell 4; have m0 := nb1.frozen 0; have m1 := nb1.frozen 1; have m2 := nb1.frozen 2; have m3 := nb1.frozen 3; have m4 := nb1.frozen 4; simp only [List.getElem?_cons_zero, List.getElem?_cons_succ] at n0 n1 n2 n3 n4)))
              all_goals
                go_wp2_with fail
                go_meet
                case rel =>
                  first
                    | exact ⟨wr.heap.size, rfl, rfl, rfl, blk_put5 nb1 _ _ _ _ _, cd1.trans (below_put5 u1 wr.heap.size _ _ _ _ _), Nat.le_refl _⟩
                    | exact ⟨u1.heap.size, rfl, rfl, rfl, Blk.new u1 _ _, cd1.alloc zz1 _, zz1⟩
            obtain ⟨x2, rfl⟩ : ∃ x, x = wc := ⟨_, rfl⟩
            obtain ⟨Ba, rfl, rfl, rfl, kA, bW, hBa⟩ := hcut
            have k2 : Spr x2 (W.heap.size + 1) (.slice av l.length cv) p false := Blk.below HK.out bW hBl
            have d1 := Blk.cell k2 1
            have d2 := Blk.cell k2 2
            have g1 := Blk.frozen k2 1
            have g2 := Blk.frozen k2 2
            simp only [List.getElem?_cons_zero, List.getElem?_cons_succ] at d1 d2
            have hAlt := kA.lt
            have zx2 := bW.size
            have kA3 := (kA.otherC (W.heap.size + 1) 2 (.bool (!o)) (by omega)).otherC (W.heap.size + 1) 1 (.int .i64 q) (by omega)
            have mQ3 := ((HmQ.out.below bW hQl).otherC (W.heap.size + 1) 2 (.bool (!o)) (by omega)).otherC (W.heap.size + 1) 1 (.int .i64 q) (by omega)
            have mR3 := ((HmR.out.below bW HmR.out.lt).otherC (W.heap.size + 1) 2 (.bool (!o)) (by omega)).otherC (W.heap.size + 1) 1 (.int .i64 q) (by omega)
            have k3 : Spr ((x2.setCell ⟨W.heap.size + 1, 2, none⟩ (.bool (!o))).setCell ⟨W.heap.size + 1, 1, none⟩ (.int .i64 q)) (W.heap.size + 1) (.slice av l.length cv) q (!o) := (Blk.setC k2 2 (.bool (!o))).setC 1 (.int .i64 q)
            have O3 : Oth (fun g => g = W.heap.size + 1) wr ((x2.setCell ⟨W.heap.size + 1, 2, none⟩ (.bool (!o))).setCell ⟨W.heap.size + 1, 1, none⟩ (.int .i64 q)) := ((Oth.of_below (S := fun g => g = W.heap.size + 1) bW).set rfl 2 _).set rfl 1 _
            have e1 := Blk.cell k3 1
            obtain ⟨x3, hx3⟩ : ∃ x, (x2.setCell ⟨W.heap.size + 1, 2, none⟩ (.bool (!o))).setCell ⟨W.heap.size + 1, 1, none⟩ (.int .i64 q) = x := ⟨_, rfl⟩
            rw [hx3] at kA3 mQ3 mR3 k3 O3
            have d1' : (x2.setCell ⟨W.heap.size + 1, 2, none⟩ (.bool (!o))).cell? ⟨W.heap.size + 1, 1, none⟩ = some (.int .i64 p) := by have := Blk.cell (Blk.setC k2 2 (.bool (!o))) 1; simpa using this
            have g1' : (x2.setCell ⟨W.heap.size + 1, 2, none⟩ (.bool (!o))).frozen? ⟨W.heap.size + 1, 1, none⟩ = false := Blk.frozen (Blk.setC k2 2 (.bool (!o))) 1
            have zx3 : wr.heap.size ≤ x3.heap.size := O3.size
            have h9 : Sp9 W x3 (W.heap.size + 1) (.slice av l.length cv) l T2 := ⟨⟨q, !o, k3, by rw [HF.out.2]; cases o <;> rfl, hbd.1, hbd.2⟩, H2.out, low_of H3.out h4 O3, h4, h5⟩
            have hO3 := HO.out.trans (O3.below (B := W.heap.size) (fun g e => by omega) HO.out.size)
            have oT3 : OwnT w20.heap.size x3 (.slice a8 L.length c8) L := row_oth HoT.out O3 (fun g hg e => by have := (World.ownsRow.lt HoT.out g hg).1; omega)
            have oq3 : OwnS w15.heap.size x3 (.slice aq (rS l (y6 l)).length cq) (rS l (y6 l)) := row_oth Hoq.out O3 (fun g hg e => by have := (World.ownsRow.lt Hoq.out g hg).1; omega)
            have ow3 : OwnS w17.heap.size x3 (.slice aw (rS l (y8 l)).length cw) (rS l (y8 l)) := row_oth How.out O3 (fun g hg e => by have := (World.ownsRow.lt How.out g hg).1; omega)
            have oh3 : OwnI w17.heap.size x3 (.slice ah (rL (rN l) (sN l) (rS l (y8 l)).length (y9 l)).length ch) (rL (rN l) (sN l) (rS l (y8 l)).length (y9 l)) := row_oth Hoh.out O3 (fun g hg e => by have := (World.ownsRow.lt Hoh.out g hg).1; omega)
            have a0 := kA3.cell 0
            have a1 := kA3.cell 1
            have a2 := kA3.cell 2
            have a3 := kA3.cell 3
            have a4 := kA3.cell 4
            have x10 := mQ3.cell 10
            simp only [List.getElem?_cons_zero, List.getElem?_cons_succ] at a0 a1 a2 a3 a4 x10
            have bA : Below x3.heap.size x3 (x3.alloc (.cells #[.int .i64 kd, .string fr, .string tt, .int .i64 am, .int .i64 no] 52)) := (Below.refl _ x3).alloc (Nat.le_refl _) _
            have HoA : Hid (OwnT w20.heap.size (x3.alloc (.cells #[.int .i64 kd, .string fr, .string tt, .int .i64 am, .int .i64 no] 52)) (.slice a8 L.length c8) L) := hide (row_oth (S := fun _ => False) oT3 (Oth.of_below bA) (fun _ _ e => e))
            have HmQa := hide (mQ3.below bA mQ3.lt)
            have HmRa := hide (mR3.below bA mR3.lt)
            have Hqa : Hid (OwnS w15.heap.size (x3.alloc (.cells #[.int .i64 kd, .string fr, .string tt, .int .i64 am, .int .i64 no] 52)) (.slice aq (rS l (y6 l)).length cq) (rS l (y6 l))) := hide (row_oth (S := fun _ => False) oq3 (Oth.of_below bA) (fun _ _ e => e))
            have Hwa : Hid (OwnS w17.heap.size (x3.alloc (.cells #[.int .i64 kd, .string fr, .string tt, .int .i64 am, .int .i64 no] 52)) (.slice aw (rS l (y8 l)).length cw) (rS l (y8 l))) := hide (row_oth (S := fun _ => False) ow3 (Oth.of_below bA) (fun _ _ e => e))
            have Hha : Hid (OwnI w17.heap.size (x3.alloc (.cells #[.int .i64 kd, .string fr, .string tt, .int .i64 am, .int .i64 no] 52)) (.slice ah (rL (rN l) (sN l) (rS l (y8 l)).length (y9 l)).length ch) (rL (rN l) (sN l) (rS l (y8 l)).length (y9 l))) := hide (row_oth (S := fun _ => False) oh3 (Oth.of_below bA) (fun _ _ e => e))
            have H9a := hide (h9.bel bA)
            have HOa := hide (hO3.trans (bA.mono hO3.size))
            have zx4 := bA.size
            clear kA kA3 mQ3 mR3 k2 k3 O3 h9 hO3 oT3 oq3 ow3 oh3 bA e1 bW
            go_wp2_with (at_builtin; refine app_ownT9 _ rfl _ _ rfl w20.heap.size _ x3.heap.size L (kd, fr, tt, am, no) rfl rfl HoA.out (Blk.newR x3 _ [.int .i64 kd, .string fr, .string tt, .int .i64 am, .int .i64 no] _ rfl) (by have := Hlen.out; omega) (by omega) ?_; intro v5 w5 ho5 hg5; have hsh := ho5.rd.shape; rw [List.length_append, List.length_cons, List.length_nil, Nat.zero_add] at hsh; obtain ⟨a7, c7, hv7⟩ := hsh; subst hv7; have mQ5 := Blk.oth HmQa.out (Oth.of_grown (S := fun g => w20.heap.size ≤ g) hg5 (fun g e => (World.ownsRow.lt HoA.out g e).1)) (by omega); have yy10 := mQ5.cell 10; have gg10 := mQ5.frozen 10; simp only [List.getElem?_cons_zero, List.getElem?_cons_succ] at yy10)
            have O5 := Oth.of_grown (S := fun g => w20.heap.size ≤ g) hg5 (fun g e => (World.ownsRow.lt HoA.out g e).1)
            have mR5 := Blk.oth HmRa.out O5 (by omega)
            have oq5 : OwnS w15.heap.size w5 (.slice aq (rS l (y6 l)).length cq) (rS l (y6 l)) := row_oth Hqa.out O5 (fun g hg e => by have := Hlq.out g hg; omega)
            have ow5 : OwnS w17.heap.size w5 (.slice aw (rS l (y8 l)).length cw) (rS l (y8 l)) := row_oth Hwa.out O5 (fun g hg e => by have := Hlw.out g hg; omega)
            have oh5 : OwnI w17.heap.size w5 (.slice ah (rL (rN l) (sN l) (rS l (y8 l)).length (y9 l)).length ch) (rL (rN l) (sN l) (rS l (y8 l)).length (y9 l)) := row_oth Hha.out O5 (fun g hg e => by have := Hlh.out g hg; omega)
            have h95 := H9a.out.oth O5 (fun g e => ⟨by omega, by omega⟩)
            have hO5 := HOa.out.trans (O5.below (B := W.heap.size) (fun g e => by omega) HOa.out.size)
            have z5 := hg5.size
            have Hrel : Hid (∃ (kk : Nat) (tv : Value), kk ≤ few (rN l (y10 l)) 5 ∧ Value.int .i64 ((k : Int) + 1) = .int .i64 (kk : Int) ∧ Blk (w5.setCell ⟨W.heap.size + 1 + 1, 10, none⟩ (.slice a7 (L.length + 1) c7)) (W.heap.size + 1 + 1) 32 [.int .i64 (rN l (some 0)), .int .i64 (rN l (y1 l)), .int .i64 (rN l (y2 l)), .string (rT l (y3 l)), .int .i64 (rN l (y4 l)), .int .i64 (rN l (y5 l)), .slice aq (rS l (y6 l)).length cq, .int .i64 (rN l (y7 l)), .slice aw (rS l (y8 l)).length cw, .slice ah (rL (rN l) (sN l) (rS l (y8 l)).length (y9 l)).length ch, tv, .bool false, .slice none 0 0, .string { data := #[] }] ∧ Blk (w5.setCell ⟨W.heap.size + 1 + 1, 10, none⟩ (.slice a7 (L.length + 1) c7)) W.heap.size 32 [.int .i64 0, .int .i64 0, .int .i64 0, .string { data := #[] }, .int .i64 0, .int .i64 0, .slice none 0 0, .int .i64 0, .slice none 0 0, .slice none 0 0, .slice none 0 0, .bool false, .slice none 0 0, .string { data := #[] }] ∧ OwnT w20.heap.size (w5.setCell ⟨W.heap.size + 1 + 1, 10, none⟩ (.slice a7 (L.length + 1) c7)) tv (rL (rX l) (sX l) kk (j11 l)) ∧ OwnS w15.heap.size (w5.setCell ⟨W.heap.size + 1 + 1, 10, none⟩ (.slice a7 (L.length + 1) c7)) (.slice aq (rS l (y6 l)).length cq) (rS l (y6 l)) ∧ OwnS w17.heap.size (w5.setCell ⟨W.heap.size + 1 + 1, 10, none⟩ (.slice a7 (L.length + 1) c7)) (.slice aw (rS l (y8 l)).length cw) (rS l (y8 l)) ∧ OwnI w17.heap.size (w5.setCell ⟨W.heap.size + 1 + 1, 10, none⟩ (.slice a7 (L.length + 1) c7)) (.slice ah (rL (rN l) (sN l) (rS l (y8 l)).length (y9 l)).length ch) (rL (rN l) (sN l) (rS l (y8 l)).length (y9 l)) ∧ Sp9 W (w5.setCell ⟨W.heap.size + 1 + 1, 10, none⟩ (.slice a7 (L.length + 1) c7)) (W.heap.size + 1) (.slice av l.length cv) l (sL (sX l) kk (j11 l)) ∧ Below W.heap.size W (w5.setCell ⟨W.heap.size + 1 + 1, 10, none⟩ (.slice a7 (L.length + 1) c7)) ∧ w20.heap.size ≤ (w5.setCell ⟨W.heap.size + 1 + 1, 10, none⟩ (.slice a7 (L.length + 1) c7)).heap.size) := hide ⟨k + 1, .slice a7 (L.length + 1) c7, hk6, by go_num, mQ5.setC 10 (.slice a7 (L.length + 1) c7), mR5.otherC _ 10 _ (by omega), by rw [Hnx.out.1, HF.out.1]; exact ho5.olderC (by omega) 10 _, oq5.olderC (by omega) 10 _, ow5.olderC (by omega) 10 _, oh5.olderC (by omega) 10 _, by rw [Hnx.out.2]; exact h95.set (by omega) (by omega) 10 _, hO5.setCell (p := ⟨W.heap.size + 1 + 1, 10, none⟩) (show W.heap.size ≤ W.heap.size + 1 + 1 by omega) _, by simp; omega⟩
            clear mQ5 mR5 oq5 ow5 oh5 h95 hO5 z5 ho5 hg5 O5
            go_wp2
            go_roundw
            case rel => exact Hrel.out
            case measure => simp [intOf]; omega
          · have Hout : Hid (∃ (ts : List Tx5) (s12 : St) (at_ : Option Addr) (ct : Nat), ((ts = rL (rX l) (sX l) (few (rN l (y10 l)) 5) (j11 l) ∧ s12 = j12 l) ∨ (s12 = none ∧ j12 l = none)) ∧ Blk wr (W.heap.size + 1 + 1) 32 [.int .i64 (rN l (some 0)), .int .i64 (rN l (y1 l)), .int .i64 (rN l (y2 l)), .string (rT l (y3 l)), .int .i64 (rN l (y4 l)), .int .i64 (rN l (y5 l)), .slice aq (rS l (y6 l)).length cq, .int .i64 (rN l (y7 l)), .slice aw (rS l (y8 l)).length cw, .slice ah (rL (rN l) (sN l) (rS l (y8 l)).length (y9 l)).length ch, .slice at_ ts.length ct, .bool false, .slice none 0 0, .string { data := #[] }] ∧ Blk wr W.heap.size 32 [.int .i64 0, .int .i64 0, .int .i64 0, .string { data := #[] }, .int .i64 0, .int .i64 0, .slice none 0 0, .int .i64 0, .slice none 0 0, .slice none 0 0, .slice none 0 0, .bool false, .slice none 0 0, .string { data := #[] }] ∧ OwnT w20.heap.size wr (.slice at_ ts.length ct) ts ∧ OwnS w15.heap.size wr (.slice aq (rS l (y6 l)).length cq) (rS l (y6 l)) ∧ OwnS w17.heap.size wr (.slice aw (rS l (y8 l)).length cw) (rS l (y8 l)) ∧ OwnI w17.heap.size wr (.slice ah (rL (rN l) (sN l) (rS l (y8 l)).length (y9 l)).length ch) (rL (rN l) (sN l) (rS l (y8 l)).length (y9 l)) ∧ Sp9 W wr (W.heap.size + 1) (.slice av l.length cv) l s12 ∧ Below W.heap.size W wr ∧ w20.heap.size ≤ wr.heap.size) := hide ⟨_, _, a8, c8, .inr ⟨hs, by rw [Hj12.out]; exact Hmore.out k hk hs⟩, mQ, mR, oT, oq, ow, oh, hR0, hO, hz⟩
            clear mQ mR oT oq ow oh hR0 hO hkS h2 h3 hs
            go_wp2
            go_meet
            case rel => exact Hout.out
        · have hke := Hfew.out k hk (fun h => c5 h.2)
          have Hout : Hid (∃ (ts : List Tx5) (s12 : St) (at_ : Option Addr) (ct : Nat), ((ts = rL (rX l) (sX l) (few (rN l (y10 l)) 5) (j11 l) ∧ s12 = j12 l) ∨ (s12 = none ∧ j12 l = none)) ∧ Blk wr (W.heap.size + 1 + 1) 32 [.int .i64 (rN l (some 0)), .int .i64 (rN l (y1 l)), .int .i64 (rN l (y2 l)), .string (rT l (y3 l)), .int .i64 (rN l (y4 l)), .int .i64 (rN l (y5 l)), .slice aq (rS l (y6 l)).length cq, .int .i64 (rN l (y7 l)), .slice aw (rS l (y8 l)).length cw, .slice ah (rL (rN l) (sN l) (rS l (y8 l)).length (y9 l)).length ch, .slice at_ ts.length ct, .bool false, .slice none 0 0, .string { data := #[] }] ∧ Blk wr W.heap.size 32 [.int .i64 0, .int .i64 0, .int .i64 0, .string { data := #[] }, .int .i64 0, .int .i64 0, .slice none 0 0, .int .i64 0, .slice none 0 0, .slice none 0 0, .slice none 0 0, .bool false, .slice none 0 0, .string { data := #[] }] ∧ OwnT w20.heap.size wr (.slice at_ ts.length ct) ts ∧ OwnS w15.heap.size wr (.slice aq (rS l (y6 l)).length cq) (rS l (y6 l)) ∧ OwnS w17.heap.size wr (.slice aw (rS l (y8 l)).length cw) (rS l (y8 l)) ∧ OwnI w17.heap.size wr (.slice ah (rL (rN l) (sN l) (rS l (y8 l)).length (y9 l)).length ch) (rL (rN l) (sN l) (rS l (y8 l)).length (y9 l)) ∧ Sp9 W wr (W.heap.size + 1) (.slice av l.length cv) l s12 ∧ Below W.heap.size W wr ∧ w20.heap.size ≤ wr.heap.size) := hide ⟨_, _, a8, c8, .inl ⟨by rw [hke], by rw [Hj12.out, hke]⟩, mQ, mR, oT, oq, ow, oh, hR0, hO, hz⟩
          clear mQ mR oT oq ow oh hR0 hO hkS h2 h3 hs hke
          go_wp2
          go_meet
          case rel => exact Hout.out
      · have hke := Hfew.out k hk (fun h => c1 h.1)
        have Hout : Hid (∃ (ts : List Tx5) (s12 : St) (at_ : Option Addr) (ct : Nat), ((ts = rL (rX l) (sX l) (few (rN l (y10 l)) 5) (j11 l) ∧ s12 = j12 l) ∨ (s12 = none ∧ j12 l = none)) ∧ Blk wr (W.heap.size + 1 + 1) 32 [.int .i64 (rN l (some 0)), .int .i64 (rN l (y1 l)), .int .i64 (rN l (y2 l)), .string (rT l (y3 l)), .int .i64 (rN l (y4 l)), .int .i64 (rN l (y5 l)), .slice aq (rS l (y6 l)).length cq, .int .i64 (rN l (y7 l)), .slice aw (rS l (y8 l)).length cw, .slice ah (rL (rN l) (sN l) (rS l (y8 l)).length (y9 l)).length ch, .slice at_ ts.length ct, .bool false, .slice none 0 0, .string { data := #[] }] ∧ Blk wr W.heap.size 32 [.int .i64 0, .int .i64 0, .int .i64 0, .string { data := #[] }, .int .i64 0, .int .i64 0, .slice none 0 0, .int .i64 0, .slice none 0 0, .slice none 0 0, .slice none 0 0, .bool false, .slice none 0 0, .string { data := #[] }] ∧ OwnT w20.heap.size wr (.slice at_ ts.length ct) ts ∧ OwnS w15.heap.size wr (.slice aq (rS l (y6 l)).length cq) (rS l (y6 l)) ∧ OwnS w17.heap.size wr (.slice aw (rS l (y8 l)).length cw) (rS l (y8 l)) ∧ OwnI w17.heap.size wr (.slice ah (rL (rN l) (sN l) (rS l (y8 l)).length (y9 l)).length ch) (rL (rN l) (sN l) (rS l (y8 l)).length (y9 l)) ∧ Sp9 W wr (W.heap.size + 1) (.slice av l.length cv) l s12 ∧ Below W.heap.size W wr ∧ w20.heap.size ≤ wr.heap.size) := hide ⟨_, _, a8, c8, .inl ⟨by rw [hke], by rw [Hj12.out, hke]⟩, mQ, mR, oT, oq, ow, oh, hR0, hO, hz⟩
        clear mQ mR oT oq ow oh hR0 hO hkS h2 h3 hs hke
        go_wp2
        go_meet
        case rel => exact Hout.out
  clear HmQ HmR Hoq How Hoh HhR HhO Hfew Hfew5 Hmore Hlq Hlw Hlh
  obtain ⟨w21, rfl⟩ : ∃ x, x = wc := ⟨_, rfl⟩
  have hw21 := True.intro
  obtain ⟨ts, s12, at_, ct, hE, mQ, mR, oT, oq, ow, oh, hR, hO, hz⟩ := hcut
  have HE := hide hE
  clear hE
  go_wp2_with fail
  have C := spNum_any (w0 := W) (W := w21) (s := s12) hR
  refine C.mono ?_
  clear hR
  rintro e w22 ⟨rfl, hR, hO9⟩
  clear C hw21
  replace mR := mR.oth hO9 (by omega)
  replace mQ := mQ.oth hO9 (by omega)
  replace hO := hO.trans (hO9.below (B := W.heap.size) (fun g e => by omega) hO.size)
  replace oq : OwnS w15.heap.size w22 (.slice aq (rS l (y6 l)).length cq) (rS l (y6 l)) := row_oth oq hO9 (fun g hg e => by have := (World.ownsRow.lt oq g hg).1; omega)
  replace ow : OwnS w17.heap.size w22 (.slice aw (rS l (y8 l)).length cw) (rS l (y8 l)) := row_oth ow hO9 (fun g hg e => by have := (World.ownsRow.lt ow g hg).1; omega)
  replace oh : OwnI w17.heap.size w22 (.slice ah (rL (rN l) (sN l) (rS l (y8 l)).length (y9 l)).length ch) (rL (rN l) (sN l) (rS l (y8 l)).length (y9 l)) := row_oth oh hO9 (fun g hg e => by have := (World.ownsRow.lt oh g hg).1; omega)
  replace oT : OwnT w20.heap.size w22 (.slice at_ ts.length ct) ts := row_oth oT hO9 (fun g hg e => by have := (World.ownsRow.lt oT g hg).1; omega)
  have q11 := mQ.cell 11
  have f11 := mQ.frozen 11
  simp only [List.getElem?_cons_zero, List.getElem?_cons_succ] at q11
  replace hR := hR.set (g := W.heap.size + 1 + 1) (by omega) (by omega) 11 (.bool (rN l s12 == 1))
  replace mR := mR.otherC (W.heap.size + 1 + 1) 11 (.bool (rN l s12 == 1)) (by omega)
  replace mQ := mQ.setC 11 (.bool (rN l s12 == 1))
  replace hO := hO.setCell (p := ⟨W.heap.size + 1 + 1, 11, none⟩) (show W.heap.size ≤ W.heap.size + 1 + 1 by omega) (.bool (rN l s12 == 1))
  replace oq := oq.olderC (g := W.heap.size + 1 + 1) (by omega) 11 (.bool (rN l s12 == 1))
  replace ow := ow.olderC (g := W.heap.size + 1 + 1) (by omega) 11 (.bool (rN l s12 == 1))
  replace oh := oh.olderC (g := W.heap.size + 1 + 1) (by omega) 11 (.bool (rN l s12 == 1))
  replace oT := oT.olderC (g := W.heap.size + 1 + 1) (by omega) 11 (.bool (rN l s12 == 1))
  simp only [List.set_cons_zero, List.set_cons_succ] at mQ
  obtain ⟨w23, hw23⟩ : ∃ x, w22.setCell ⟨W.heap.size + 1 + 1, 11, none⟩ (.bool (rN l s12 == 1)) = x := ⟨_, rfl⟩
  rw [hw23] at hR mR mQ hO oq ow oh oT
  clear hO9
  go_wp2_with fail
  have C := spNum_any (w0 := W) (W := w23) (s := sN l s12) hR
  refine C.mono ?_
  clear hR
  rintro e w24 ⟨rfl, hR, hO9⟩
  clear C hw23
  replace mR := mR.oth hO9 (by omega)
  replace mQ := mQ.oth hO9 (by omega)
  replace hO := hO.trans (hO9.below (B := W.heap.size) (fun g e => by omega) hO.size)
  replace oq : OwnS w15.heap.size w24 (.slice aq (rS l (y6 l)).length cq) (rS l (y6 l)) := row_oth oq hO9 (fun g hg e => by have := (World.ownsRow.lt oq g hg).1; omega)
  replace ow : OwnS w17.heap.size w24 (.slice aw (rS l (y8 l)).length cw) (rS l (y8 l)) := row_oth ow hO9 (fun g hg e => by have := (World.ownsRow.lt ow g hg).1; omega)
  replace oh : OwnI w17.heap.size w24 (.slice ah (rL (rN l) (sN l) (rS l (y8 l)).length (y9 l)).length ch) (rL (rN l) (sN l) (rS l (y8 l)).length (y9 l)) := row_oth oh hO9 (fun g hg e => by have := (World.ownsRow.lt oh g hg).1; omega)
  replace oT : OwnT w20.heap.size w24 (.slice at_ ts.length ct) ts := row_oth oT hO9 (fun g hg e => by have := (World.ownsRow.lt oT g hg).1; omega)
  clear hO9
  have zT2 := mQ.lt
  have Hlq : Hid (∀ g, (Value.slice aq (rS l (y6 l)).length cq).ownBlock = some g → g < w24.heap.size) := hide (fun g hg => (World.ownsRow.lt oq g hg).2)
  have Hlw : Hid (∀ g, (Value.slice aw (rS l (y8 l)).length cw).ownBlock = some g → g < w24.heap.size) := hide (fun g hg => (World.ownsRow.lt ow g hg).2)
  have Hlh : Hid (∀ g, (Value.slice ah (rL (rN l) (sN l) (rS l (y8 l)).length (y9 l)).length ch).ownBlock = some g → g < w24.heap.size) := hide (fun g hg => (World.ownsRow.lt oh g hg).2)
  have Hlt : Hid (∀ g, (Value.slice at_ ts.length ct).ownBlock = some g → g < w24.heap.size) := hide (fun g hg => (World.ownsRow.lt oT g hg).2)
  have Hfew : Hid (∀ k : Nat, k ≤ few (rN l (sN l s12)) 13 → ¬ ((k : Int) < (rN l (sN l s12)) ∧ (k : Int) < 13) → k = few (rN l (sN l s12)) 13) := hide (fun k hk h => by unfold few at hk ⊢; omega)
  have Hfew5 : Hid (∀ k : Nat, (k : Int) < (rN l (sN l s12)) → (k : Int) < 13 → k + 1 ≤ few (rN l (sN l s12)) 13) := hide (fun k h1 h2 => by unfold few; omega)
  have Hmore := hide (fun k (hk : k ≤ few (rN l (sN l s12)) 13) (h : sL (sV l) k (sN l (sN l s12)) = none) => sL_more (sV l) rfl (sN l (sN l s12)) k h _ hk)
  have HmQ := hide mQ
  have HmR := hide mR
  have Hoq := hide oq
  have How := hide ow
  have Hoh := hide oh
  have HoT := hide oT
  have HhR := hide hR
  have HhO := hide hO
  clear mQ mR oq ow oh oT hR hO
  go_upto_block 2 with fail
  go_cut [12] (fun si wc => ∃ (ns : List Vl) (s15 : St) (an : Option Addr) (cn : Nat), ((ns = rL (rV l) (sV l) (few (rN l (sN l s12)) 13) (sN l (sN l s12)) ∧ s15 = sL (sV l) (few (rN l (sN l s12)) 13) (sN l (sN l s12))) ∨ (s15 = none ∧ sL (sV l) (few (rN l (sN l s12)) 13) (sN l (sN l s12)) = none)) ∧ Blk wc (W.heap.size + 1 + 1) 32 [.int .i64 (rN l (some 0)), .int .i64 (rN l (y1 l)), .int .i64 (rN l (y2 l)), .string (rT l (y3 l)), .int .i64 (rN l (y4 l)), .int .i64 (rN l (y5 l)), .slice aq (rS l (y6 l)).length cq, .int .i64 (rN l (y7 l)), .slice aw (rS l (y8 l)).length cw, .slice ah (rL (rN l) (sN l) (rS l (y8 l)).length (y9 l)).length ch, .slice at_ ts.length ct, .bool (rN l s12 == 1), .slice an ns.length cn, .string { data := #[] }] ∧ Blk wc W.heap.size 32 [.int .i64 0, .int .i64 0, .int .i64 0, .string { data := #[] }, .int .i64 0, .int .i64 0, .slice none 0 0, .int .i64 0, .slice none 0 0, .slice none 0 0, .slice none 0 0, .bool false, .slice none 0 0, .string { data := #[] }] ∧ OwnV w24.heap.size wc (.slice an ns.length cn) ns ∧ OwnS w15.heap.size wc (.slice aq (rS l (y6 l)).length cq) (rS l (y6 l)) ∧ OwnS w17.heap.size wc (.slice aw (rS l (y8 l)).length cw) (rS l (y8 l)) ∧ OwnI w17.heap.size wc (.slice ah (rL (rN l) (sN l) (rS l (y8 l)).length (y9 l)).length ch) (rL (rN l) (sN l) (rS l (y8 l)).length (y9 l)) ∧ OwnT w20.heap.size wc (.slice at_ ts.length ct) ts ∧ Sp9 W wc (W.heap.size + 1) (.slice av l.length cv) l s15 ∧ Below W.heap.size W wc ∧ w24.heap.size ≤ wc.heap.size)
  case first =>
    go_wp2_with fail
    go_loopw [12] (fun iv wr => ∃ (k : Nat) (tv : Value), k ≤ few (rN l (sN l s12)) 13 ∧ iv = .int .i64 (k : Int) ∧ Blk wr (W.heap.size + 1 + 1) 32 [.int .i64 (rN l (some 0)), .int .i64 (rN l (y1 l)), .int .i64 (rN l (y2 l)), .string (rT l (y3 l)), .int .i64 (rN l (y4 l)), .int .i64 (rN l (y5 l)), .slice aq (rS l (y6 l)).length cq, .int .i64 (rN l (y7 l)), .slice aw (rS l (y8 l)).length cw, .slice ah (rL (rN l) (sN l) (rS l (y8 l)).length (y9 l)).length ch, .slice at_ ts.length ct, .bool (rN l s12 == 1), tv, .string { data := #[] }] ∧ Blk wr W.heap.size 32 [.int .i64 0, .int .i64 0, .int .i64 0, .string { data := #[] }, .int .i64 0, .int .i64 0, .slice none 0 0, .int .i64 0, .slice none 0 0, .slice none 0 0, .slice none 0 0, .bool false, .slice none 0 0, .string { data := #[] }] ∧ OwnV w24.heap.size wr tv (rL (rV l) (sV l) k (sN l (sN l s12))) ∧ OwnS w15.heap.size wr (.slice aq (rS l (y6 l)).length cq) (rS l (y6 l)) ∧ OwnS w17.heap.size wr (.slice aw (rS l (y8 l)).length cw) (rS l (y8 l)) ∧ OwnI w17.heap.size wr (.slice ah (rL (rN l) (sN l) (rS l (y8 l)).length (y9 l)).length ch) (rL (rN l) (sN l) (rS l (y8 l)).length (y9 l)) ∧ OwnT w20.heap.size wr (.slice at_ ts.length ct) ts ∧ Sp9 W wr (W.heap.size + 1) (.slice av l.length cv) l (sL (sV l) k (sN l (sN l s12))) ∧ Below W.heap.size W wr ∧ w24.heap.size ≤ wr.heap.size) (fun iv _ => 13 - (intOf iv).toNat)
    case atStart => exact ⟨0, .slice none 0 0, Nat.zero_le _, rfl, HmQ.out, HmR.out, nil_ownV _ _, Hoq.out, How.out, Hoh.out, HoT.out, HhR.out, HhO.out, Nat.le_refl _⟩
    case round =>
      clear HmQ HmR Hoq How Hoh HoT HhR HhO
      obtain ⟨k, tv, hk, rfl, mQ, mR, oV, oq, ow, oh, oT, hR, hO, hz⟩ := hrel
      have hR0 := hR
      obtain ⟨⟨p, bad, hkS, hs, h0, h1⟩, h2, h3, h4, h5⟩ := hR
      have c2 := Blk.cell hkS 2
      simp only [List.getElem?_cons_zero, List.getElem?_cons_succ] at c2
      obtain ⟨a8, c8, hv8⟩ := oV.rd.shape
      subst hv8
      by_cases c1 : (k : Int) < (rN l (sN l s12))
      · by_cases c5 : (k : Int) < 13
        · cases bad
          · have Hnx : Hid (rL (rV l) (sV l) (k + 1) (sN l (sN l s12)) = rL (rV l) (sV l) k (sN l (sN l s12)) ++ [(rT l (sL (sV l) k (sN l (sN l s12))), rN l (sT l (sL (sV l) k (sN l (sN l s12)))))] ∧ sL (sV l) (k + 1) (sN l (sN l s12)) = sN l (sT l (sL (sV l) k (sN l (sN l s12))))) := hide ⟨rfl, rfl⟩
            have Hlen := hide (rL_len (rV l) (sV l) (sN l (sN l s12)) k)
            have hk6 := Hfew5.out k c1 c5
            have HT := hide (spText_any (w0 := W) (W := wr) hR0)
            have HN := hide (fun (V : World) (t : St) (hV : Sp9 W V (W.heap.size + 1) (.slice av l.length cv) l t) => spNum_any hV)
            generalize rL (rV l) (sV l) k (sN l (sN l s12)) = L at Hnx Hlen oV mQ
            generalize sL (sV l) k (sN l (sN l s12)) = T at Hnx HT hR0 hs
            have HmQ := hide mQ
            have HmR := hide mR
            have HoV := hide oV
            have Hoq := hide oq
            have How := hide ow
            have Hoh := hide oh
            have HoT := hide oT
            have HO := hide hO
            clear mQ mR oV oq ow oh oT hR0 hO hkS h2 h3 hs
            go_wp2_with fail
            refine HT.out.mono ?_
            rintro e u1 ⟨rfl, g1, O1⟩
            have zQ := HmQ.out.lt
            have zu1 := O1.size
            have g2 := g1.al (.cells #[.string (rT l T), .int .i64 0] 56)
            have HN2 := hide (HN.out _ _ g2)
            have OA : Oth (fun g => g = W.heap.size + 1 ∨ wr.heap.size ≤ g) wr (u1.alloc (.cells #[.string (rT l T), .int .i64 0] 56)) := O1.wide.trans (Oth.of_below ((Below.refl _ u1).alloc (Nat.le_refl _) _))
            have kV : Blk (u1.alloc (.cells #[.string (rT l T), .int .i64 0] 56)) u1.heap.size 56 [.string (rT l T), .int .i64 0] := Blk.new u1 _ _
            clear HT HN g1 g2 O1
            go_wp2_with fail
            refine HN2.out.mono ?_
            rintro e u2 ⟨rfl, g3, O3⟩
            clear HN2
            have kV2 := kV.oth O3 (by omega)
            have v1 := kV2.cell 1
            have fv1 := kV2.frozen 1
            simp only [List.getElem?_cons_zero, List.getElem?_cons_succ] at v1
            generalize rT l T = nm at *
            generalize rN l (sT l T) = wt at *
            generalize sN l (sT l T) = T3 at *
            have OB := (OA.trans O3.wide).set (g := u1.heap.size) (.inr zu1) 1 (.int .i64 wt)
            have kV3 : Blk (u2.setCell ⟨u1.heap.size, 1, none⟩ (.int .i64 wt)) u1.heap.size 56 [.string nm, .int .i64 wt] := kV2.setC 1 (.int .i64 wt)
            have g4 := g3.set (g := u1.heap.size) (by omega) (by omega) 1 (.int .i64 wt)
            obtain ⟨x3, hx3⟩ : ∃ x, u2.setCell ⟨u1.heap.size, 1, none⟩ (.int .i64 wt) = x := ⟨_, rfl⟩
            rw [hx3] at OB kV3 g4
            have zx3 : wr.heap.size ≤ x3.heap.size := OB.size
            have zu3 : u1.heap.size < x3.heap.size := kV3.lt
            have mQ3 := HmQ.out.oth OB (by omega)
            have mR3 := HmR.out.oth OB (by omega)
            have hO3 := HO.out.trans (OB.below (B := W.heap.size) (fun g e => by omega) HO.out.size)
            have oV3 : OwnV w24.heap.size x3 (.slice a8 L.length c8) L := row_oth HoV.out OB (fun g hg e => by have := World.ownsRow.lt HoV.out g hg; omega)
            have oq3 : OwnS w15.heap.size x3 (.slice aq (rS l (y6 l)).length cq) (rS l (y6 l)) := row_oth Hoq.out OB (fun g hg e => by have := World.ownsRow.lt Hoq.out g hg; omega)
            have ow3 : OwnS w17.heap.size x3 (.slice aw (rS l (y8 l)).length cw) (rS l (y8 l)) := row_oth How.out OB (fun g hg e => by have := World.ownsRow.lt How.out g hg; omega)
            have oh3 : OwnI w17.heap.size x3 (.slice ah (rL (rN l) (sN l) (rS l (y8 l)).length (y9 l)).length ch) (rL (rN l) (sN l) (rS l (y8 l)).length (y9 l)) := row_oth Hoh.out OB (fun g hg e => by have := World.ownsRow.lt Hoh.out g hg; omega)
            have oT3 : OwnT w20.heap.size x3 (.slice at_ ts.length ct) ts := row_oth HoT.out OB (fun g hg e => by have := World.ownsRow.lt HoT.out g hg; omega)
            have a0 := kV3.cell 0
            have a1 := kV3.cell 1
            have x12 := mQ3.cell 12
            simp only [List.getElem?_cons_zero, List.getElem?_cons_succ] at a0 a1 x12
            have bA : Below x3.heap.size x3 (x3.alloc (.cells #[.string nm, .int .i64 wt] 56)) := (Below.refl _ x3).alloc (Nat.le_refl _) _
            have HoA : Hid (OwnV w24.heap.size (x3.alloc (.cells #[.string nm, .int .i64 wt] 56)) (.slice a8 L.length c8) L) := hide (row_oth (S := fun _ => False) oV3 (Oth.of_below bA) (fun _ _ e => e))
            have HmQa := hide (mQ3.below bA mQ3.lt)
            have HmRa := hide (mR3.below bA mR3.lt)
            have Hqa : Hid (OwnS w15.heap.size (x3.alloc (.cells #[.string nm, .int .i64 wt] 56)) (.slice aq (rS l (y6 l)).length cq) (rS l (y6 l))) := hide (row_oth (S := fun _ => False) oq3 (Oth.of_below bA) (fun _ _ e => e))
            have Hwa : Hid (OwnS w17.heap.size (x3.alloc (.cells #[.string nm, .int .i64 wt] 56)) (.slice aw (rS l (y8 l)).length cw) (rS l (y8 l))) := hide (row_oth (S := fun _ => False) ow3 (Oth.of_below bA) (fun _ _ e => e))
            have Hha : Hid (OwnI w17.heap.size (x3.alloc (.cells #[.string nm, .int .i64 wt] 56)) (.slice ah (rL (rN l) (sN l) (rS l (y8 l)).length (y9 l)).length ch) (rL (rN l) (sN l) (rS l (y8 l)).length (y9 l))) := hide (row_oth (S := fun _ => False) oh3 (Oth.of_below bA) (fun _ _ e => e))
            have Hta : Hid (OwnT w20.heap.size (x3.alloc (.cells #[.string nm, .int .i64 wt] 56)) (.slice at_ ts.length ct) ts) := hide (row_oth (S := fun _ => False) oT3 (Oth.of_below bA) (fun _ _ e => e))
            have H9a := hide (g4.bel bA)
            have HOa := hide (hO3.trans (bA.mono hO3.size))
            have zx4 := bA.size
            clear kV kV2 kV3 mQ3 mR3 OA OB O3 g3 g4 hO3 oV3 oq3 ow3 oh3 oT3 bA
            go_wp2_with (at_builtin; refine app_ownV _ rfl _ _ rfl w24.heap.size _ _ L [(nm, wt)] rfl rfl HoA.out (rd_one_v x3 _ nm wt rfl) (by have := Hlen.out; simp; omega) (by omega) ?_; intro v5 w5 ho5 hg5 hb5; have hsh := ho5.rd.shape; rw [List.length_append, List.length_cons, List.length_nil, Nat.zero_add] at hsh; obtain ⟨a7, c7, hv7⟩ := hsh; subst hv7; have mQ5 := Blk.oth HmQa.out (Oth.of_grown (S := fun g => w24.heap.size ≤ g) hg5 (fun g e => (World.ownsRow.lt HoA.out g e).1)) (by omega); have yy12 := mQ5.cell 12; have gg12 := mQ5.frozen 12; simp only [List.getElem?_cons_zero, List.getElem?_cons_succ] at yy12)
            have O5 := Oth.of_grown (S := fun g => w24.heap.size ≤ g) hg5 (fun g e => (World.ownsRow.lt HoA.out g e).1)
            have mR5 := Blk.oth HmRa.out O5 (by omega)
            have oq5 : OwnS w15.heap.size w5 (.slice aq (rS l (y6 l)).length cq) (rS l (y6 l)) := row_oth Hqa.out O5 (fun g hg e => by have := Hlq.out g hg; omega)
            have ow5 : OwnS w17.heap.size w5 (.slice aw (rS l (y8 l)).length cw) (rS l (y8 l)) := row_oth Hwa.out O5 (fun g hg e => by have := Hlw.out g hg; omega)
            have oh5 : OwnI w17.heap.size w5 (.slice ah (rL (rN l) (sN l) (rS l (y8 l)).length (y9 l)).length ch) (rL (rN l) (sN l) (rS l (y8 l)).length (y9 l)) := row_oth Hha.out O5 (fun g hg e => by have := Hlh.out g hg; omega)
            have oT5 : OwnT w20.heap.size w5 (.slice at_ ts.length ct) ts := row_oth Hta.out O5 (fun g hg e => by have := Hlt.out g hg; omega)
            have h95 := H9a.out.oth O5 (fun g e => ⟨by omega, by omega⟩)
            have hO5 := HOa.out.trans (O5.below (B := W.heap.size) (fun g e => by omega) HOa.out.size)
            have z5 := hg5.size
            have Hrel : Hid (∃ (kk : Nat) (tv : Value), kk ≤ few (rN l (sN l s12)) 13 ∧ Value.int .i64 ((k : Int) + 1) = .int .i64 (kk : Int) ∧ Blk (w5.setCell ⟨W.heap.size + 1 + 1, 12, none⟩ (.slice a7 (L.length + 1) c7)) (W.heap.size + 1 + 1) 32 [.int .i64 (rN l (some 0)), .int .i64 (rN l (y1 l)), .int .i64 (rN l (y2 l)), .string (rT l (y3 l)), .int .i64 (rN l (y4 l)), .int .i64 (rN l (y5 l)), .slice aq (rS l (y6 l)).length cq, .int .i64 (rN l (y7 l)), .slice aw (rS l (y8 l)).length cw, .slice ah (rL (rN l) (sN l) (rS l (y8 l)).length (y9 l)).length ch, .slice at_ ts.length ct, .bool (rN l s12 == 1), tv, .string { data := #[] }] ∧ Blk (w5.setCell ⟨W.heap.size + 1 + 1, 12, none⟩ (.slice a7 (L.length + 1) c7)) W.heap.size 32 [.int .i64 0, .int .i64 0, .int .i64 0, .string { data := #[] }, .int .i64 0, .int .i64 0, .slice none 0 0, .int .i64 0, .slice none 0 0, .slice none 0 0, .slice none 0 0, .bool false, .slice none 0 0, .string { data := #[] }] ∧ OwnV w24.heap.size (w5.setCell ⟨W.heap.size + 1 + 1, 12, none⟩ (.slice a7 (L.length + 1) c7)) tv (rL (rV l) (sV l) kk (sN l (sN l s12))) ∧ OwnS w15.heap.size (w5.setCell ⟨W.heap.size + 1 + 1, 12, none⟩ (.slice a7 (L.length + 1) c7)) (.slice aq (rS l (y6 l)).length cq) (rS l (y6 l)) ∧ OwnS w17.heap.size (w5.setCell ⟨W.heap.size + 1 + 1, 12, none⟩ (.slice a7 (L.length + 1) c7)) (.slice aw (rS l (y8 l)).length cw) (rS l (y8 l)) ∧ OwnI w17.heap.size (w5.setCell ⟨W.heap.size + 1 + 1, 12, none⟩ (.slice a7 (L.length + 1) c7)) (.slice ah (rL (rN l) (sN l) (rS l (y8 l)).length (y9 l)).length ch) (rL (rN l) (sN l) (rS l (y8 l)).length (y9 l)) ∧ OwnT w20.heap.size (w5.setCell ⟨W.heap.size + 1 + 1, 12, none⟩ (.slice a7 (L.length + 1) c7)) (.slice at_ ts.length ct) ts ∧ Sp9 W (w5.setCell ⟨W.heap.size + 1 + 1, 12, none⟩ (.slice a7 (L.length + 1) c7)) (W.heap.size + 1) (.slice av l.length cv) l (sL (sV l) kk (sN l (sN l s12))) ∧ Below W.heap.size W (w5.setCell ⟨W.heap.size + 1 + 1, 12, none⟩ (.slice a7 (L.length + 1) c7)) ∧ w24.heap.size ≤ (w5.setCell ⟨W.heap.size + 1 + 1, 12, none⟩ (.slice a7 (L.length + 1) c7)).heap.size) := hide ⟨k + 1, .slice a7 (L.length + 1) c7, hk6, by go_num, mQ5.setC 12 (.slice a7 (L.length + 1) c7), mR5.otherC _ 12 _ (by omega), by rw [Hnx.out.1]; exact ho5.olderC (by omega) 12 _, oq5.olderC (by omega) 12 _, ow5.olderC (by omega) 12 _, oh5.olderC (by omega) 12 _, oT5.olderC (by omega) 12 _, by rw [Hnx.out.2]; exact h95.set (by omega) (by omega) 12 _, hO5.setCell (p := ⟨W.heap.size + 1 + 1, 12, none⟩) (show W.heap.size ≤ W.heap.size + 1 + 1 by omega) _, by simp; omega⟩
            clear mQ5 mR5 oq5 ow5 oh5 oT5 h95 hO5 z5 ho5 hg5 hb5 O5
            go_wp2
            go_roundw
            case rel => exact Hrel.out
            case measure => simp [intOf]; omega
          · have Hout : Hid (∃ (ns : List Vl) (s15 : St) (an : Option Addr) (cn : Nat), ((ns = rL (rV l) (sV l) (few (rN l (sN l s12)) 13) (sN l (sN l s12)) ∧ s15 = sL (sV l) (few (rN l (sN l s12)) 13) (sN l (sN l s12))) ∨ (s15 = none ∧ sL (sV l) (few (rN l (sN l s12)) 13) (sN l (sN l s12)) = none)) ∧ Blk wr (W.heap.size + 1 + 1) 32 [.int .i64 (rN l (some 0)), .int .i64 (rN l (y1 l)), .int .i64 (rN l (y2 l)), .string (rT l (y3 l)), .int .i64 (rN l (y4 l)), .int .i64 (rN l (y5 l)), .slice aq (rS l (y6 l)).length cq, .int .i64 (rN l (y7 l)), .slice aw (rS l (y8 l)).length cw, .slice ah (rL (rN l) (sN l) (rS l (y8 l)).length (y9 l)).length ch, .slice at_ ts.length ct, .bool (rN l s12 == 1), .slice an ns.length cn, .string { data := #[] }] ∧ Blk wr W.heap.size 32 [.int .i64 0, .int .i64 0, .int .i64 0, .string { data := #[] }, .int .i64 0, .int .i64 0, .slice none 0 0, .int .i64 0, .slice none 0 0, .slice none 0 0, .slice none 0 0, .bool false, .slice none 0 0, .string { data := #[] }] ∧ OwnV w24.heap.size wr (.slice an ns.length cn) ns ∧ OwnS w15.heap.size wr (.slice aq (rS l (y6 l)).length cq) (rS l (y6 l)) ∧ OwnS w17.heap.size wr (.slice aw (rS l (y8 l)).length cw) (rS l (y8 l)) ∧ OwnI w17.heap.size wr (.slice ah (rL (rN l) (sN l) (rS l (y8 l)).length (y9 l)).length ch) (rL (rN l) (sN l) (rS l (y8 l)).length (y9 l)) ∧ OwnT w20.heap.size wr (.slice at_ ts.length ct) ts ∧ Sp9 W wr (W.heap.size + 1) (.slice av l.length cv) l s15 ∧ Below W.heap.size W wr ∧ w24.heap.size ≤ wr.heap.size) := hide ⟨_, _, a8, c8, .inr ⟨hs, Hmore.out k hk hs⟩, mQ, mR, oV, oq, ow, oh, oT, hR0, hO, hz⟩
            clear mQ mR oV oq ow oh oT hR0 hO hkS h2 h3 hs
            go_wp2
            go_meet
            case rel => exact Hout.out
        · have hke := Hfew.out k hk (fun h => c5 h.2)
          have Hout : Hid (∃ (ns : List Vl) (s15 : St) (an : Option Addr) (cn : Nat), ((ns = rL (rV l) (sV l) (few (rN l (sN l s12)) 13) (sN l (sN l s12)) ∧ s15 = sL (sV l) (few (rN l (sN l s12)) 13) (sN l (sN l s12))) ∨ (s15 = none ∧ sL (sV l) (few (rN l (sN l s12)) 13) (sN l (sN l s12)) = none)) ∧ Blk wr (W.heap.size + 1 + 1) 32 [.int .i64 (rN l (some 0)), .int .i64 (rN l (y1 l)), .int .i64 (rN l (y2 l)), .string (rT l (y3 l)), .int .i64 (rN l (y4 l)), .int .i64 (rN l (y5 l)), .slice aq (rS l (y6 l)).length cq, .int .i64 (rN l (y7 l)), .slice aw (rS l (y8 l)).length cw, .slice ah (rL (rN l) (sN l) (rS l (y8 l)).length (y9 l)).length ch, .slice at_ ts.length ct, .bool (rN l s12 == 1), .slice an ns.length cn, .string { data := #[] }] ∧ Blk wr W.heap.size 32 [.int .i64 0, .int .i64 0, .int .i64 0, .string { data := #[] }, .int .i64 0, .int .i64 0, .slice none 0 0, .int .i64 0, .slice none 0 0, .slice none 0 0, .slice none 0 0, .bool false, .slice none 0 0, .string { data := #[] }] ∧ OwnV w24.heap.size wr (.slice an ns.length cn) ns ∧ OwnS w15.heap.size wr (.slice aq (rS l (y6 l)).length cq) (rS l (y6 l)) ∧ OwnS w17.heap.size wr (.slice aw (rS l (y8 l)).length cw) (rS l (y8 l)) ∧ OwnI w17.heap.size wr (.slice ah (rL (rN l) (sN l) (rS l (y8 l)).length (y9 l)).length ch) (rL (rN l) (sN l) (rS l (y8 l)).length (y9 l)) ∧ OwnT w20.heap.size wr (.slice at_ ts.length ct) ts ∧ Sp9 W wr (W.heap.size + 1) (.slice av l.length cv) l s15 ∧ Below W.heap.size W wr ∧ w24.heap.size ≤ wr.heap.size) := hide ⟨_, _, a8, c8, .inl ⟨by rw [hke], by rw [hke]⟩, mQ, mR, oV, oq, ow, oh, oT, hR0, hO, hz⟩
          clear mQ mR oV oq ow oh oT hR0 hO hkS h2 h3 hs hke
          go_wp2
          go_meet
          case rel => exact Hout.out
      · have hke := Hfew.out k hk (fun h => c1 h.1)
        have Hout : Hid (∃ (ns : List Vl) (s15 : St) (an : Option Addr) (cn : Nat), ((ns = rL (rV l) (sV l) (few (rN l (sN l s12)) 13) (sN l (sN l s12)) ∧ s15 = sL (sV l) (few (rN l (sN l s12)) 13) (sN l (sN l s12))) ∨ (s15 = none ∧ sL (sV l) (few (rN l (sN l s12)) 13) (sN l (sN l s12)) = none)) ∧ Blk wr (W.heap.size + 1 + 1) 32 [.int .i64 (rN l (some 0)), .int .i64 (rN l (y1 l)), .int .i64 (rN l (y2 l)), .string (rT l (y3 l)), .int .i64 (rN l (y4 l)), .int .i64 (rN l (y5 l)), .slice aq (rS l (y6 l)).length cq, .int .i64 (rN l (y7 l)), .slice aw (rS l (y8 l)).length cw, .slice ah (rL (rN l) (sN l) (rS l (y8 l)).length (y9 l)).length ch, .slice at_ ts.length ct, .bool (rN l s12 == 1), .slice an ns.length cn, .string { data := #[] }] ∧ Blk wr W.heap.size 32 [.int .i64 0, .int .i64 0, .int .i64 0, .string { data := #[] }, .int .i64 0, .int .i64 0, .slice none 0 0, .int .i64 0, .slice none 0 0, .slice none 0 0, .slice none 0 0, .bool false, .slice none 0 0, .string { data := #[] }] ∧ OwnV w24.heap.size wr (.slice an ns.length cn) ns ∧ OwnS w15.heap.size wr (.slice aq (rS l (y6 l)).length cq) (rS l (y6 l)) ∧ OwnS w17.heap.size wr (.slice aw (rS l (y8 l)).length cw) (rS l (y8 l)) ∧ OwnI w17.heap.size wr (.slice ah (rL (rN l) (sN l) (rS l (y8 l)).length (y9 l)).length ch) (rL (rN l) (sN l) (rS l (y8 l)).length (y9 l)) ∧ OwnT w20.heap.size wr (.slice at_ ts.length ct) ts ∧ Sp9 W wr (W.heap.size + 1) (.slice av l.length cv) l s15 ∧ Below W.heap.size W wr ∧ w24.heap.size ≤ wr.heap.size) := hide ⟨_, _, a8, c8, .inl ⟨by rw [hke], by rw [hke]⟩, mQ, mR, oV, oq, ow, oh, oT, hR0, hO, hz⟩
        clear mQ mR oV oq ow oh oT hR0 hO hkS h2 h3 hs hke
        go_wp2
        go_meet
        case rel => exact Hout.out
  clear HmQ HmR Hoq How Hoh HoT HhR HhO Hfew Hfew5 Hmore Hlq Hlw Hlh Hlt
  obtain ⟨w25, rfl⟩ : ∃ x, x = wc := ⟨_, rfl⟩
  have hw25 := True.intro
  obtain ⟨ns, s15, an, cn, hE2, mQ, mR, oV, oq, ow, oh, oT, hR, hO, hz2⟩ := hcut
  have HE2 := hide hE2
  clear hE2
  go_wp2_with fail
  have C := spText_any (w0 := W) (W := w25) (s := s15) hR
  refine C.mono ?_
  clear hR
  rintro e w26 ⟨rfl, hR, hO9⟩
  clear C hw25
  replace mR := mR.oth hO9 (by omega)
  replace mQ := mQ.oth hO9 (by omega)
  replace hO := hO.trans (hO9.below (B := W.heap.size) (fun g e => by omega) hO.size)
  replace oq : OwnS w15.heap.size w26 (.slice aq (rS l (y6 l)).length cq) (rS l (y6 l)) := row_oth oq hO9 (fun g hg e => by have := (World.ownsRow.lt oq g hg).1; omega)
  replace ow : OwnS w17.heap.size w26 (.slice aw (rS l (y8 l)).length cw) (rS l (y8 l)) := row_oth ow hO9 (fun g hg e => by have := (World.ownsRow.lt ow g hg).1; omega)
  replace oh : OwnI w17.heap.size w26 (.slice ah (rL (rN l) (sN l) (rS l (y8 l)).length (y9 l)).length ch) (rL (rN l) (sN l) (rS l (y8 l)).length (y9 l)) := row_oth oh hO9 (fun g hg e => by have := (World.ownsRow.lt oh g hg).1; omega)
  replace oT : OwnT w20.heap.size w26 (.slice at_ ts.length ct) ts := row_oth oT hO9 (fun g hg e => by have := (World.ownsRow.lt oT g hg).1; omega)
  replace oV : OwnV w24.heap.size w26 (.slice an ns.length cn) ns := row_oth oV hO9 (fun g hg e => by have := (World.ownsRow.lt oV g hg).1; omega)
  have q13 := mQ.cell 13
  have f13 := mQ.frozen 13
  simp only [List.getElem?_cons_zero, List.getElem?_cons_succ] at q13
  replace hR := hR.set (g := W.heap.size + 1 + 1) (by omega) (by omega) 13 (.string (rT l s15))
  replace mR := mR.otherC (W.heap.size + 1 + 1) 13 (.string (rT l s15)) (by omega)
  replace mQ := mQ.setC 13 (.string (rT l s15))
  replace hO := hO.setCell (p := ⟨W.heap.size + 1 + 1, 13, none⟩) (show W.heap.size ≤ W.heap.size + 1 + 1 by omega) (.string (rT l s15))
  replace oq := oq.olderC (g := W.heap.size + 1 + 1) (by omega) 13 (.string (rT l s15))
  replace ow := ow.olderC (g := W.heap.size + 1 + 1) (by omega) 13 (.string (rT l s15))
  replace oh := oh.olderC (g := W.heap.size + 1 + 1) (by omega) 13 (.string (rT l s15))
  replace oT := oT.olderC (g := W.heap.size + 1 + 1) (by omega) 13 (.string (rT l s15))
  replace oV := oV.olderC (g := W.heap.size + 1 + 1) (by omega) 13 (.string (rT l s15))
  simp only [List.set_cons_zero, List.set_cons_succ] at mQ
  obtain ⟨w27, hw27⟩ : ∃ x, w26.setCell ⟨W.heap.size + 1 + 1, 13, none⟩ (.string (rT l s15)) = x := ⟨_, rfl⟩
  rw [hw27] at hR mR mQ hO oq ow oh oT oV
  clear hO9
  obtain ⟨⟨p, bad, hkS, hs, h0, h1⟩, h2, h3, h4, h5⟩ := hR
  have c2 := Blk.cell hkS 2
  simp only [List.getElem?_cons_zero, List.getElem?_cons_succ] at c2
  have HGb := hide (fun h => gS_bad HE.out HE2.out h)
  have HGg := hide (fun (p : Int) h => gS_good (p := p) (show l.length ≤ 4000000 by omega) HE.out HE2.out h)
  have zW := hO.size
  have ok : OwnK (W.heap.size + 1) w27 (⟨rN l (some 0), rN l (y1 l), rN l (y2 l), rT l (y3 l), rN l (y4 l), rN l (y5 l), rS l (y6 l), rN l (y7 l), rS l (y8 l), rL (rN l) (sN l) (rS l (y8 l)).length (y9 l), ts, rN l s12 == 1, ns, rT l s15⟩ : Bk) ⟨.slice aq (rS l (y6 l)).length cq, .slice aw (rS l (y8 l)).length cw, .slice ah (rL (rN l) (sN l) (rS l (y8 l)).length (y9 l)).length ch, .slice at_ ts.length ct, .slice an ns.length cn⟩ := ⟨OwnS.mono oq (by omega), OwnS.mono ow (by omega), OwnI.mono oh (by omega), OwnT.mono oT (by omega), OwnV.mono oV (by omega)⟩
  cases bad
  · obtain ⟨hG, hF⟩ := HGg.out p hs
    have hT : -9223372036854775808 ≤ rN l (y7 l) ∧ rN l (y7 l) ≤ 9223372036854775807 := by have := rN_bd l (y7 l); omega
    have HBO := hide (fun V (hV : Below w27.heap.size w27 V) => specBlockOk_any (⟨rN l (some 0), rN l (y1 l), rN l (y2 l), rT l (y3 l), rN l (y4 l), rN l (y5 l), rS l (y6 l), rN l (y7 l), rS l (y8 l), rL (rN l) (sN l) (rS l (y8 l)).length (y9 l), ts, rN l s12 == 1, ns, rT l s15⟩ : Bk) ⟨.slice aq (rS l (y6 l)).length cq, .slice aw (rS l (y8 l)).length cw, .slice ah (rL (rN l) (sN l) (rS l (y8 l)).length (y9 l)).length ch, .slice at_ ts.length ct, .slice an ns.length cn⟩ V (ok.belowK hV).rd hF hT)
    have HPB := hide (fun V (hV : Below w27.heap.size w27 V) => specPutBlock_any (⟨rN l (some 0), rN l (y1 l), rN l (y2 l), rT l (y3 l), rN l (y4 l), rN l (y5 l), rS l (y6 l), rN l (y7 l), rS l (y8 l), rL (rN l) (sN l) (rS l (y8 l)).length (y9 l), ts, rN l s12 == 1, ns, rT l s15⟩ : Bk) ⟨.slice aq (rS l (y6 l)).length cq, .slice aw (rS l (y8 l)).length cw, .slice ah (rL (rN l) (sN l) (rS l (y8 l)).length (y9 l)).length ch, .slice at_ ts.length ct, .slice an ns.length cn⟩ V (ok.belowK hV).rd hF hT)
    have Hok := hide (fun V (hV : Below w27.heap.size w27 V) => ok.belowK hV)
    have HQc := hide (fun V (hV : Below w27.heap.size w27 V) => mQ.below hV mQ.lt)
    have HRc := hide (fun V (hV : Below w27.heap.size w27 V) => mR.below hV mR.lt)
    have HOb := hide (fun V (hV : Below w27.heap.size w27 V) => hO.trans (hV.mono hO.size))
    have HG := hide hG
    have HS : Hid (∀ V, Below w27.heap.size w27 V → (V.cell? ⟨W.heap.size + 1, 2, none⟩ = some (.bool false) ∧ V.cell? ⟨W.heap.size + 1 + 1, 0, none⟩ = some (.int .i64 (rN l (some 0))) ∧ V.cell? ⟨W.heap.size + 1 + 1, 1, none⟩ = some (.int .i64 (rN l (y1 l))) ∧ V.cell? ⟨W.heap.size + 1 + 1, 2, none⟩ = some (.int .i64 (rN l (y2 l))) ∧ V.cell? ⟨W.heap.size + 1 + 1, 3, none⟩ = some (.string (rT l (y3 l))) ∧ V.cell? ⟨W.heap.size + 1 + 1, 4, none⟩ = some (.int .i64 (rN l (y4 l))) ∧ V.cell? ⟨W.heap.size + 1 + 1, 5, none⟩ = some (.int .i64 (rN l (y5 l))) ∧ V.cell? ⟨W.heap.size + 1 + 1, 6, none⟩ = some (.slice aq (rS l (y6 l)).length cq) ∧ V.cell? ⟨W.heap.size + 1 + 1, 7, none⟩ = some (.int .i64 (rN l (y7 l))) ∧ V.cell? ⟨W.heap.size + 1 + 1, 8, none⟩ = some (.slice aw (rS l (y8 l)).length cw) ∧ V.cell? ⟨W.heap.size + 1 + 1, 9, none⟩ = some (.slice ah (rL (rN l) (sN l) (rS l (y8 l)).length (y9 l)).length ch) ∧ V.cell? ⟨W.heap.size + 1 + 1, 10, none⟩ = some (.slice at_ ts.length ct) ∧ V.cell? ⟨W.heap.size + 1 + 1, 11, none⟩ = some (.bool (rN l s12 == 1)) ∧ V.cell? ⟨W.heap.size + 1 + 1, 12, none⟩ = some (.slice an ns.length cn) ∧ V.cell? ⟨W.heap.size + 1 + 1, 13, none⟩ = some (.string (rT l s15)) ∧ (convert 22 9 (.slice av l.length cv)).run Tryz.prog V = .ok (.string ⟨l.toArray⟩) V)) := hide (fun V hv => ⟨(Blk.below hkS hv (Blk.lt hkS)).cell 2, (mQ.below hv mQ.lt).cell 0, (mQ.below hv mQ.lt).cell 1, (mQ.below hv mQ.lt).cell 2, (mQ.below hv mQ.lt).cell 3, (mQ.below hv mQ.lt).cell 4, (mQ.below hv mQ.lt).cell 5, (mQ.below hv mQ.lt).cell 6, (mQ.below hv mQ.lt).cell 7, (mQ.below hv mQ.lt).cell 8, (mQ.below hv mQ.lt).cell 9, (mQ.below hv mQ.lt).cell 10, (mQ.below hv mQ.lt).cell 11, (mQ.below hv mQ.lt).cell 12, (mQ.below hv mQ.lt).cell 13, str_any V (.slice av l.length cv) l (h2.below (h3.trans (hv.mono h3.size)) (Nat.le_refl _))⟩)
    have bD : Below w27.heap.size w27 w27.drew := (Below.refl _ w27).drew
    simp only [bkV] at HBO HPB
    generalize blP (⟨rN l (some 0), rN l (y1 l), rN l (y2 l), rT l (y3 l), rN l (y4 l), rN l (y5 l), rS l (y6 l), rN l (y7 l), rS l (y8 l), rL (rN l) (sN l) (rS l (y8 l)).length (y9 l), ts, rN l s12 == 1, ns, rT l s15⟩ : Bk) = P at HPB HG
    generalize blB (⟨rN l (some 0), rN l (y1 l), rN l (y2 l), rT l (y3 l), rN l (y4 l), rN l (y5 l), rS l (y6 l), rN l (y7 l), rS l (y8 l), rL (rN l) (sN l) (rS l (y8 l)).length (y9 l), ts, rN l s12 == 1, ns, rT l s15⟩ : Bk) = b at HBO HG
    clear hs HGb HGg hO ok oq ow oh oT oV h2 h3 mQ mR HE HE2 hG hF hkS
    cases b
    · have Hg : Hid (gS l = (bk0, false)) := hide (by rw [HG.out]; rfl)
      have HBO1 := hide (fun (d : Nat) (os : Array Obj) => Calls.regrown_of (HBO.out (Sort.grow (redrawn w27 d) os) (below_regrown w27 d os)))
      obtain ⟨cb0, e0, e1, e2, e3, e4, e5, e6, e7, e8, e9, e10, e11, e12, e13, -⟩ := HS.out w27 (Below.refl _ _)
      have qb0 := cell_regrown cb0
      have q0 := cell_regrown e0
      have q1 := cell_regrown e1
      have q2 := cell_regrown e2
      have q3 := cell_regrown e3
      have q4 := cell_regrown e4
      have q5 := cell_regrown e5
      have q6 := cell_regrown e6
      have q7 := cell_regrown e7
      have q8 := cell_regrown e8
      have q9 := cell_regrown e9
      have q10 := cell_regrown e10
      have q11 := cell_regrown e11
      have q12 := cell_regrown e12
      have q13 := cell_regrown e13
      clear HG HPB HS cb0 e0 e1 e2 e3 e4 e5 e6 e7 e8 e9 e10 e11 e12 e13
      go_wp2
      refine wp_region_quiet_below (by kernel_rfl) (by kernel_rfl) ?_
      repeat (go_big_quiet_step ((go_at_call 19; exact HBO1.out _ _)))
      refine wpQuiet_nil ?_
      intro _ hw9
      obtain ⟨⟨dq, osq⟩, hw8⟩ := hw9
      subst hw8
      have d1 := below_regrown w27 dq osq
      generalize Sort.grow (redrawn w27 dq) osq = u1 at d1 ⊢
      clear qb0 q0 q1 q2 q3 q4 q5 q6 q7 q8 q9 q10 q11 q12 q13 HBO1
      have mR1 := HRc.out u1 d1
      have Hb := hide ((HOb.out u1 d1).trans ((below_put14 u1 W.heap.size (.int .i64 0) (.int .i64 0) (.int .i64 0) (.string { data := #[] }) (.int .i64 0) (.int .i64 0) (.slice none 0 0) (.int .i64 0) (.slice none 0 0) (.slice none 0 0) (.slice none 0 0) (.bool false) (.slice none 0 0) (.string { data := #[] })).mono (Nat.le_refl _)))
      have t0 := mR1.cell 0
      have t1 := mR1.cell 1
      have t2 := mR1.cell 2
      have t3 := mR1.cell 3
      have t4 := mR1.cell 4
      have t5 := mR1.cell 5
      have t6 := mR1.cell 6
      have t7 := mR1.cell 7
      have t8 := mR1.cell 8
      have t9 := mR1.cell 9
      have t10 := mR1.cell 10
      have t11 := mR1.cell 11
      have t12 := mR1.cell 12
      have t13 := mR1.cell 13
      have g0 := mR1.frozen 0
      have g1 := mR1.frozen 1
      have g2 := mR1.frozen 2
      have g3 := mR1.frozen 3
      have g4 := mR1.frozen 4
      have g5 := mR1.frozen 5
      have g6 := mR1.frozen 6
      have g7 := mR1.frozen 7
      have g8 := mR1.frozen 8
      have g9 := mR1.frozen 9
      have g10 := mR1.frozen 10
      have g11 := mR1.frozen 11
      have g12 := mR1.frozen 12
      have g13 := mR1.frozen 13
      simp only [List.getElem?_cons_zero, List.getElem?_cons_succ] at t0 t1 t2 t3 t4 t5 t6 t7 t8 t9 t10 t11 t12 t13
      clear mR1
      go_wp2
      refine bodyPost_ret (v := .tuple #[.agg #[.int .i64 0, .int .i64 0, .int .i64 0, .string { data := #[] }, .int .i64 0, .int .i64 0, .slice none 0 0, .int .i64 0, .slice none 0 0, .slice none 0 0, .slice none 0 0, .bool false, .slice none 0 0, .string { data := #[] }], .bool false]) (by simp [results, Tryz.f6, go_sem, t0, t1, t2, t3, t4, t5, t6, t7, t8, t9, t10, t11, t12, t13]) rfl ?_
      rw [Hg.out]
      exact ⟨nilBv, rfl, own_bk0 _ _, Hb.out⟩
    · by_cases hP : l = P
      · subst hP
        have Hg : Hid (gS l = ((⟨rN l (some 0), rN l (y1 l), rN l (y2 l), rT l (y3 l), rN l (y4 l), rN l (y5 l), rS l (y6 l), rN l (y7 l), rS l (y8 l), rL (rN l) (sN l) (rS l (y8 l)).length (y9 l), ts, rN l s12 == 1, ns, rT l s15⟩ : Bk), true)) := hide (by rw [HG.out]; simp)
        clear HG
        go_wp2
        go_region_held_law (fun w' => w'.cell? ⟨W.heap.size + 1, 2, none⟩ = some (.bool false) ∧ w'.cell? ⟨W.heap.size + 1 + 1, 0, none⟩ = some (.int .i64 (rN l (some 0))) ∧ w'.cell? ⟨W.heap.size + 1 + 1, 1, none⟩ = some (.int .i64 (rN l (y1 l))) ∧ w'.cell? ⟨W.heap.size + 1 + 1, 2, none⟩ = some (.int .i64 (rN l (y2 l))) ∧ w'.cell? ⟨W.heap.size + 1 + 1, 3, none⟩ = some (.string (rT l (y3 l))) ∧ w'.cell? ⟨W.heap.size + 1 + 1, 4, none⟩ = some (.int .i64 (rN l (y4 l))) ∧ w'.cell? ⟨W.heap.size + 1 + 1, 5, none⟩ = some (.int .i64 (rN l (y5 l))) ∧ w'.cell? ⟨W.heap.size + 1 + 1, 6, none⟩ = some (.slice aq (rS l (y6 l)).length cq) ∧ w'.cell? ⟨W.heap.size + 1 + 1, 7, none⟩ = some (.int .i64 (rN l (y7 l))) ∧ w'.cell? ⟨W.heap.size + 1 + 1, 8, none⟩ = some (.slice aw (rS l (y8 l)).length cw) ∧ w'.cell? ⟨W.heap.size + 1 + 1, 9, none⟩ = some (.slice ah (rL (rN l) (sN l) (rS l (y8 l)).length (y9 l)).length ch) ∧ w'.cell? ⟨W.heap.size + 1 + 1, 10, none⟩ = some (.slice at_ ts.length ct) ∧ w'.cell? ⟨W.heap.size + 1 + 1, 11, none⟩ = some (.bool (rN l s12 == 1)) ∧ w'.cell? ⟨W.heap.size + 1 + 1, 12, none⟩ = some (.slice an ns.length cn) ∧ w'.cell? ⟨W.heap.size + 1 + 1, 13, none⟩ = some (.string (rT l s15)) ∧ (convert 22 9 (.slice av l.length cv)).run Tryz.prog w' = .ok (.string ⟨l.toArray⟩) w') ((refine HS.out _ ?_; repeat (first | with_reducible exact bD | with_reducible exact d2 | with_reducible exact d1 | with_reducible exact Below.refl _ _ | refine Below.drew ?_))) ((first
          | (go_at_call 27; (with_reducible refine (HPB.out u1 d1).mono ?_); rintro e u2 ⟨v2, rfl, o2, hb2⟩; have d2 := d1.trans (hb2.mono d1.size); obtain ⟨a6, c6, rfl⟩ := o2.rd.shape; have cv2 := str_any u2 _ _ o2.rd)
          | (go_at_call 19; (with_reducible refine (HBO.out w27.drew bD).mono ?_); rintro e u1 ⟨rfl, hb1⟩; have d1 := bD.trans (hb1.mono bD.size))))
        have mR2 := HRc.out u2 d2
        have mQ2 := HQc.out u2 d2
        have Hb := hide ((HOb.out u2 d2).trans ((below_put14 u2 W.heap.size (.int .i64 (rN l (some 0))) (.int .i64 (rN l (y1 l))) (.int .i64 (rN l (y2 l))) (.string (rT l (y3 l))) (.int .i64 (rN l (y4 l))) (.int .i64 (rN l (y5 l))) (.slice aq (rS l (y6 l)).length cq) (.int .i64 (rN l (y7 l))) (.slice aw (rS l (y8 l)).length cw) (.slice ah (rL (rN l) (sN l) (rS l (y8 l)).length (y9 l)).length ch) (.slice at_ ts.length ct) (.bool (rN l s12 == 1)) (.slice an ns.length cn) (.string (rT l s15))).mono (Nat.le_refl _)))
        have HoF := hide (((Hok.out u2 d2).put14 (g := W.heap.size) (by omega) (.int .i64 (rN l (some 0))) (.int .i64 (rN l (y1 l))) (.int .i64 (rN l (y2 l))) (.string (rT l (y3 l))) (.int .i64 (rN l (y4 l))) (.int .i64 (rN l (y5 l))) (.slice aq (rS l (y6 l)).length cq) (.int .i64 (rN l (y7 l))) (.slice aw (rS l (y8 l)).length cw) (.slice ah (rL (rN l) (sN l) (rS l (y8 l)).length (y9 l)).length ch) (.slice at_ ts.length ct) (.bool (rN l s12 == 1)) (.slice an ns.length cn) (.string (rT l s15))).mono (show W.heap.size ≤ W.heap.size + 1 by omega))
        have t0 := mR2.cell 0
        have t1 := mR2.cell 1
        have t2 := mR2.cell 2
        have t3 := mR2.cell 3
        have t4 := mR2.cell 4
        have t5 := mR2.cell 5
        have t6 := mR2.cell 6
        have t7 := mR2.cell 7
        have t8 := mR2.cell 8
        have t9 := mR2.cell 9
        have t10 := mR2.cell 10
        have t11 := mR2.cell 11
        have t12 := mR2.cell 12
        have t13 := mR2.cell 13
        have g0 := mR2.frozen 0
        have g1 := mR2.frozen 1
        have g2 := mR2.frozen 2
        have g3 := mR2.frozen 3
        have g4 := mR2.frozen 4
        have g5 := mR2.frozen 5
        have g6 := mR2.frozen 6
        have g7 := mR2.frozen 7
        have g8 := mR2.frozen 8
        have g9 := mR2.frozen 9
        have g10 := mR2.frozen 10
        have g11 := mR2.frozen 11
        have g12 := mR2.frozen 12
        have g13 := mR2.frozen 13
        simp only [List.getElem?_cons_zero, List.getElem?_cons_succ] at t0 t1 t2 t3 t4 t5 t6 t7 t8 t9 t10 t11 t12 t13
        have e0 := mQ2.cell 0
        have e1 := mQ2.cell 1
        have e2 := mQ2.cell 2
        have e3 := mQ2.cell 3
        have e4 := mQ2.cell 4
        have e5 := mQ2.cell 5
        have e6 := mQ2.cell 6
        have e7 := mQ2.cell 7
        have e8 := mQ2.cell 8
        have e9 := mQ2.cell 9
        have e10 := mQ2.cell 10
        have e11 := mQ2.cell 11
        have e12 := mQ2.cell 12
        have e13 := mQ2.cell 13
        simp only [List.getElem?_cons_zero, List.getElem?_cons_succ] at e0 e1 e2 e3 e4 e5 e6 e7 e8 e9 e10 e11 e12 e13
        clear mR2 mQ2 cv2 HS
        go_wp2
        refine bodyPost_ret (v := .tuple #[.agg #[.int .i64 (rN l (some 0)), .int .i64 (rN l (y1 l)), .int .i64 (rN l (y2 l)), .string (rT l (y3 l)), .int .i64 (rN l (y4 l)), .int .i64 (rN l (y5 l)), .slice aq (rS l (y6 l)).length cq, .int .i64 (rN l (y7 l)), .slice aw (rS l (y8 l)).length cw, .slice ah (rL (rN l) (sN l) (rS l (y8 l)).length (y9 l)).length ch, .slice at_ ts.length ct, .bool (rN l s12 == 1), .slice an ns.length cn, .string (rT l s15)], .bool true]) (by simp [results, Tryz.f6, go_sem, t0, t1, t2, t3, t4, t5, t6, t7, t8, t9, t10, t11, t12, t13]) rfl ?_
        rw [Hg.out]
        exact ⟨⟨.slice aq (rS l (y6 l)).length cq, .slice aw (rS l (y8 l)).length cw, .slice ah (rL (rN l) (sN l) (rS l (y8 l)).length (y9 l)).length ch, .slice at_ ts.length ct, .slice an ns.length cn⟩, rfl, HoF.out, Hb.out⟩
      · have Hg : Hid (gS l = (bk0, false)) := hide (by rw [HG.out, decide_eq_false (fun e => hP e.symm)]; rfl)
        have hq := bytes_ne (a := ⟨P.toArray⟩) (b := ⟨l.toArray⟩) (fun e => hP (by
          have := congrArg (fun s : ByteArray => s.data.toList) e
          simpa using this.symm))
        have hq2 : (P == l) = false := by rw [beq_eq_false_iff_ne]; exact fun e => hP e.symm
        have hq3 : (!(P == l)) = true := by rw [hq2]; rfl
        clear HG hP
        go_wp2
        go_region_held_law (fun w' => w'.cell? ⟨W.heap.size + 1, 2, none⟩ = some (.bool false) ∧ w'.cell? ⟨W.heap.size + 1 + 1, 0, none⟩ = some (.int .i64 (rN l (some 0))) ∧ w'.cell? ⟨W.heap.size + 1 + 1, 1, none⟩ = some (.int .i64 (rN l (y1 l))) ∧ w'.cell? ⟨W.heap.size + 1 + 1, 2, none⟩ = some (.int .i64 (rN l (y2 l))) ∧ w'.cell? ⟨W.heap.size + 1 + 1, 3, none⟩ = some (.string (rT l (y3 l))) ∧ w'.cell? ⟨W.heap.size + 1 + 1, 4, none⟩ = some (.int .i64 (rN l (y4 l))) ∧ w'.cell? ⟨W.heap.size + 1 + 1, 5, none⟩ = some (.int .i64 (rN l (y5 l))) ∧ w'.cell? ⟨W.heap.size + 1 + 1, 6, none⟩ = some (.slice aq (rS l (y6 l)).length cq) ∧ w'.cell? ⟨W.heap.size + 1 + 1, 7, none⟩ = some (.int .i64 (rN l (y7 l))) ∧ w'.cell? ⟨W.heap.size + 1 + 1, 8, none⟩ = some (.slice aw (rS l (y8 l)).length cw) ∧ w'.cell? ⟨W.heap.size + 1 + 1, 9, none⟩ = some (.slice ah (rL (rN l) (sN l) (rS l (y8 l)).length (y9 l)).length ch) ∧ w'.cell? ⟨W.heap.size + 1 + 1, 10, none⟩ = some (.slice at_ ts.length ct) ∧ w'.cell? ⟨W.heap.size + 1 + 1, 11, none⟩ = some (.bool (rN l s12 == 1)) ∧ w'.cell? ⟨W.heap.size + 1 + 1, 12, none⟩ = some (.slice an ns.length cn) ∧ w'.cell? ⟨W.heap.size + 1 + 1, 13, none⟩ = some (.string (rT l s15)) ∧ (convert 22 9 (.slice av l.length cv)).run Tryz.prog w' = .ok (.string ⟨l.toArray⟩) w') ((refine HS.out _ ?_; repeat (first | with_reducible exact bD | with_reducible exact d2 | with_reducible exact d1 | with_reducible exact Below.refl _ _ | refine Below.drew ?_))) ((first
          | (go_at_call 27; (with_reducible refine (HPB.out u1 d1).mono ?_); rintro e u2 ⟨v2, rfl, o2, hb2⟩; have d2 := d1.trans (hb2.mono d1.size); obtain ⟨a6, c6, rfl⟩ := o2.rd.shape; have cv2 := str_any u2 _ _ o2.rd)
          | (go_at_call 19; (with_reducible refine (HBO.out w27.drew bD).mono ?_); rintro e u1 ⟨rfl, hb1⟩; have d1 := bD.trans (hb1.mono bD.size))))
        have mR2 := HRc.out u2 d2
        have Hb := hide ((HOb.out u2 d2).trans ((below_put14 u2 W.heap.size (.int .i64 0) (.int .i64 0) (.int .i64 0) (.string { data := #[] }) (.int .i64 0) (.int .i64 0) (.slice none 0 0) (.int .i64 0) (.slice none 0 0) (.slice none 0 0) (.slice none 0 0) (.bool false) (.slice none 0 0) (.string { data := #[] })).mono (Nat.le_refl _)))
        have t0 := mR2.cell 0
        have t1 := mR2.cell 1
        have t2 := mR2.cell 2
        have t3 := mR2.cell 3
        have t4 := mR2.cell 4
        have t5 := mR2.cell 5
        have t6 := mR2.cell 6
        have t7 := mR2.cell 7
        have t8 := mR2.cell 8
        have t9 := mR2.cell 9
        have t10 := mR2.cell 10
        have t11 := mR2.cell 11
        have t12 := mR2.cell 12
        have t13 := mR2.cell 13
        have g0 := mR2.frozen 0
        have g1 := mR2.frozen 1
        have g2 := mR2.frozen 2
        have g3 := mR2.frozen 3
        have g4 := mR2.frozen 4
        have g5 := mR2.frozen 5
        have g6 := mR2.frozen 6
        have g7 := mR2.frozen 7
        have g8 := mR2.frozen 8
        have g9 := mR2.frozen 9
        have g10 := mR2.frozen 10
        have g11 := mR2.frozen 11
        have g12 := mR2.frozen 12
        have g13 := mR2.frozen 13
        simp only [List.getElem?_cons_zero, List.getElem?_cons_succ] at t0 t1 t2 t3 t4 t5 t6 t7 t8 t9 t10 t11 t12 t13
        clear mR2 cv2 HS
        go_wp2
        refine bodyPost_ret (v := .tuple #[.agg #[.int .i64 0, .int .i64 0, .int .i64 0, .string { data := #[] }, .int .i64 0, .int .i64 0, .slice none 0 0, .int .i64 0, .slice none 0 0, .slice none 0 0, .slice none 0 0, .bool false, .slice none 0 0, .string { data := #[] }], .bool false]) (by simp [results, Tryz.f6, go_sem, t0, t1, t2, t3, t4, t5, t6, t7, t8, t9, t10, t11, t12, t13]) rfl ?_
        rw [Hg.out]
        exact ⟨nilBv, rfl, own_bk0 _ _, Hb.out⟩
  · have Hg := hide (HGb.out hs)
    have Hb := hide (hO.trans ((below_put14 w27 W.heap.size (.int .i64 0) (.int .i64 0) (.int .i64 0) (.string { data := #[] }) (.int .i64 0) (.int .i64 0) (.slice none 0 0) (.int .i64 0) (.slice none 0 0) (.slice none 0 0) (.slice none 0 0) (.bool false) (.slice none 0 0) (.string { data := #[] })).mono (Nat.le_refl _)))
    have Hb2 := hide (hO.drew.trans ((below_put14 w27.drew W.heap.size (.int .i64 0) (.int .i64 0) (.int .i64 0) (.string { data := #[] }) (.int .i64 0) (.int .i64 0) (.slice none 0 0) (.int .i64 0) (.slice none 0 0) (.slice none 0 0) (.slice none 0 0) (.bool false) (.slice none 0 0) (.string { data := #[] })).mono (Nat.le_refl _)))
    have t0 := mR.cell 0
    have t1 := mR.cell 1
    have t2 := mR.cell 2
    have t3 := mR.cell 3
    have t4 := mR.cell 4
    have t5 := mR.cell 5
    have t6 := mR.cell 6
    have t7 := mR.cell 7
    have t8 := mR.cell 8
    have t9 := mR.cell 9
    have t10 := mR.cell 10
    have t11 := mR.cell 11
    have t12 := mR.cell 12
    have t13 := mR.cell 13
    have g0 := mR.frozen 0
    have g1 := mR.frozen 1
    have g2 := mR.frozen 2
    have g3 := mR.frozen 3
    have g4 := mR.frozen 4
    have g5 := mR.frozen 5
    have g6 := mR.frozen 6
    have g7 := mR.frozen 7
    have g8 := mR.frozen 8
    have g9 := mR.frozen 9
    have g10 := mR.frozen 10
    have g11 := mR.frozen 11
    have g12 := mR.frozen 12
    have g13 := mR.frozen 13
    simp only [List.getElem?_cons_zero, List.getElem?_cons_succ] at t0 t1 t2 t3 t4 t5 t6 t7 t8 t9 t10 t11 t12 t13
    clear hs HGb HGg hO ok oq ow oh oT oV h2 h3 mQ HE HE2
    go_wp2
    go_region
    all_goals
      go_wp2
      refine bodyPost_ret (v := .tuple #[.agg #[.int .i64 0, .int .i64 0, .int .i64 0, .string { data := #[] }, .int .i64 0, .int .i64 0, .slice none 0 0, .int .i64 0, .slice none 0 0, .slice none 0 0, .slice none 0 0, .bool false, .slice none 0 0, .string { data := #[] }], .bool false]) (by simp [results, Tryz.f6, go_sem, t0, t1, t2, t3, t4, t5, t6, t7, t8, t9, t10, t11, t12, t13]) rfl ?_
      rw [Hg.out]
      first | exact ⟨nilBv, rfl, own_bk0 _ _, Hb.out.drew⟩ | exact ⟨nilBv, rfl, own_bk0 _ _, Hb2.out⟩ | exact ⟨nilBv, rfl, own_bk0 _ _, Hb.out⟩
end Go.Proofs.YtcmmdkabocfnfaaGreatDoor
