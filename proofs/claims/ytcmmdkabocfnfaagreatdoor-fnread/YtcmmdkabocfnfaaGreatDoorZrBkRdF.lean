/- The landed code's reader: a block. -/
import Derived.Test.YtcmmdkabocfnfaaGreatDoorZrBkRdE
namespace Go.Proofs.YtcmmdkabocfnfaaGreatDoor
open Go.RowKit
set_option linter.unusedVariables false

set_option maxRecDepth 20000 in
set_option maxHeartbeats 8000000 in
theorem rdBlock_any {w0 W : World} {B : Nat} {v : Value} {l : List UInt8} (h : Rd9 w0 W B v l (some 0)) :
    Calls Tryz.prog 80 #[.pointer (some ⟨B, 0, none⟩)] W fun e W' => ∃ u : Bv, e = .returned (bkV (bI l) u) ∧ OwnK W.heap.size W' (bI l) u ∧ (∀ g, u.q.ownBlock = some g → u.w.ownBlock ≠ some g) ∧ Rd9 w0 W' B v l (i16 l) ∧ Oth (fun g => g = B) W W' := by
  have hBl := h.lt
  have hlo := h.lo
  obtain ⟨w2, hw2⟩ : ∃ x, (W.alloc (.cells #[.int .i64 0, .int .i64 0, .int .i64 0, .string { data := #[] }, .int .i64 0, .int .i64 0, .slice none 0 0, .int .i64 0, .slice none 0 0, .slice none 0 0, .slice none 0 0, .bool false, .slice none 0 0, .string { data := #[] }] 32)).alloc (.cells #[.int .i64 0, .int .i64 0, .int .i64 0, .string { data := #[] }, .int .i64 0, .int .i64 0, .slice none 0 0, .int .i64 0, .slice none 0 0, .slice none 0 0, .slice none 0 0, .bool false, .slice none 0 0, .string { data := #[] }] 32) = x := ⟨_, rfl⟩
  have b2 : Below W.heap.size W w2 := by rw [← hw2]; exact ((Below.refl _ W).alloc (Nat.le_refl _) _).alloc (by simp) _
  have s2 : w2.heap.size = W.heap.size + 2 := by rw [← hw2]; simp
  have mR : Blk w2 W.heap.size 32 [.int .i64 0, .int .i64 0, .int .i64 0, .string { data := #[] }, .int .i64 0, .int .i64 0, .slice none 0 0, .int .i64 0, .slice none 0 0, .slice none 0 0, .slice none 0 0, .bool false, .slice none 0 0, .string { data := #[] }] := by
    rw [← hw2]
    exact (Blk.new W 32 [.int .i64 0, .int .i64 0, .int .i64 0, .string { data := #[] }, .int .i64 0, .int .i64 0, .slice none 0 0, .int .i64 0, .slice none 0 0, .slice none 0 0, .slice none 0 0, .bool false, .slice none 0 0, .string { data := #[] }]).below ((Below.refl (W.heap.size + 1) _).alloc (by simp) _) (by omega)
  have mQ : Blk w2 (W.heap.size + 1) 32 [.int .i64 0, .int .i64 0, .int .i64 0, .string { data := #[] }, .int .i64 0, .int .i64 0, .slice none 0 0, .int .i64 0, .slice none 0 0, .slice none 0 0, .slice none 0 0, .bool false, .slice none 0 0, .string { data := #[] }] := by
    rw [← hw2]
    have h := Blk.new (W.alloc (.cells #[.int .i64 0, .int .i64 0, .int .i64 0, .string { data := #[] }, .int .i64 0, .int .i64 0, .slice none 0 0, .int .i64 0, .slice none 0 0, .slice none 0 0, .slice none 0 0, .bool false, .slice none 0 0, .string { data := #[] }] 32)) 32 [.int .i64 0, .int .i64 0, .int .i64 0, .string { data := #[] }, .int .i64 0, .int .i64 0, .slice none 0 0, .int .i64 0, .slice none 0 0, .slice none 0 0, .slice none 0 0, .bool false, .slice none 0 0, .string { data := #[] }]
    simp only [World.size_alloc] at h
    exact h
  have hR := h.bel b2
  have hO : Oth (fun g => g = B ∨ W.heap.size ≤ g) W w2 := Oth.of_below b2
  clear h b2 s2
  have HE : Hid (∀ b, (if b = true then (1 : Int) else 0) = 1 → b = true) := hide (fun b hb => by cases b; simp at hb; rfl)
  clear HE
  go_enter Tryz.func80, Tryz.ntmps80
  go_wp2_with fail
  have C := rdNum_any (w0 := w0) (W := w2) (s := some 0) hR
  rw [show sN l (some 0) = y1 l from rfl] at C
  refine C.mono ?_
  rintro e w3 ⟨rfl, hR, hO9⟩
  clear C hw2
  replace mR := mR.oth hO9 (by omega)
  replace mQ := mQ.oth hO9 (by omega)
  replace hO := hO.trans hO9.wide
  have zQ := mQ.lt
  have q0 := mQ.cell 0
  have f0 := mQ.frozen 0
  simp only [List.getElem?_cons_zero] at q0
  replace hR := hR.set (g := W.heap.size + 1) (by omega) (by omega) 0 (.int .i64 (rN l (some 0)))
  replace mR := mR.otherC (W.heap.size + 1) 0 (.int .i64 (rN l (some 0))) (by omega)
  replace mQ := mQ.setC 0 (.int .i64 (rN l (some 0)))
  replace hO := hO.set (g := W.heap.size + 1) (.inr (by omega)) 0 (.int .i64 (rN l (some 0)))
  simp only [List.set_cons_zero] at mQ
  obtain ⟨w4, hw4⟩ : ∃ x, w3.setCell ⟨W.heap.size + 1, 0, none⟩ (.int .i64 (rN l (some 0))) = x := ⟨_, rfl⟩
  rw [hw4] at hR mR mQ hO
  clear hO9 zQ 
  go_wp2_with fail
  have C := rdNum_any (w0 := w0) (W := w4) (s := y1 l) hR
  rw [show sN l (y1 l) = y2 l from rfl] at C
  refine C.mono ?_
  rintro e w5 ⟨rfl, hR, hO9⟩
  clear C hw4
  replace mR := mR.oth hO9 (by omega)
  replace mQ := mQ.oth hO9 (by omega)
  replace hO := hO.trans hO9.wide
  have zQ := mQ.lt
  have q1 := mQ.cell 1
  have f1 := mQ.frozen 1
  simp only [List.getElem?_cons_zero, List.getElem?_cons_succ] at q1
  replace hR := hR.set (g := W.heap.size + 1) (by omega) (by omega) 1 (.int .i64 (rN l (y1 l)))
  replace mR := mR.otherC (W.heap.size + 1) 1 (.int .i64 (rN l (y1 l))) (by omega)
  replace mQ := mQ.setC 1 (.int .i64 (rN l (y1 l)))
  replace hO := hO.set (g := W.heap.size + 1) (.inr (by omega)) 1 (.int .i64 (rN l (y1 l)))
  simp only [List.set_cons_zero, List.set_cons_succ] at mQ
  obtain ⟨w6, hw6⟩ : ∃ x, w5.setCell ⟨W.heap.size + 1, 1, none⟩ (.int .i64 (rN l (y1 l))) = x := ⟨_, rfl⟩
  rw [hw6] at hR mR mQ hO
  clear hO9 zQ 
  go_wp2_with fail
  have C := rdNum_any (w0 := w0) (W := w6) (s := y2 l) hR
  rw [show sN l (y2 l) = y3 l from rfl] at C
  refine C.mono ?_
  rintro e w7 ⟨rfl, hR, hO9⟩
  clear C hw6
  replace mR := mR.oth hO9 (by omega)
  replace mQ := mQ.oth hO9 (by omega)
  replace hO := hO.trans hO9.wide
  have zQ := mQ.lt
  have q2 := mQ.cell 2
  have f2 := mQ.frozen 2
  simp only [List.getElem?_cons_zero, List.getElem?_cons_succ] at q2
  replace hR := hR.set (g := W.heap.size + 1) (by omega) (by omega) 2 (.int .i64 (rN l (y2 l)))
  replace mR := mR.otherC (W.heap.size + 1) 2 (.int .i64 (rN l (y2 l))) (by omega)
  replace mQ := mQ.setC 2 (.int .i64 (rN l (y2 l)))
  replace hO := hO.set (g := W.heap.size + 1) (.inr (by omega)) 2 (.int .i64 (rN l (y2 l)))
  simp only [List.set_cons_zero, List.set_cons_succ] at mQ
  obtain ⟨w8, hw8⟩ : ∃ x, w7.setCell ⟨W.heap.size + 1, 2, none⟩ (.int .i64 (rN l (y2 l))) = x := ⟨_, rfl⟩
  rw [hw8] at hR mR mQ hO
  clear hO9 zQ 
  go_wp2_with fail
  have C := rdText_any (w0 := w0) (W := w8) (s := y3 l) hR
  rw [show sT l (y3 l) = y4 l from rfl] at C
  refine C.mono ?_
  rintro e w9 ⟨rfl, hR, hO9⟩
  clear C hw8
  replace mR := mR.oth hO9 (by omega)
  replace mQ := mQ.oth hO9 (by omega)
  replace hO := hO.trans hO9.wide
  have zQ := mQ.lt
  have q3 := mQ.cell 3
  have f3 := mQ.frozen 3
  simp only [List.getElem?_cons_zero, List.getElem?_cons_succ] at q3
  replace hR := hR.set (g := W.heap.size + 1) (by omega) (by omega) 3 (.string (rT l (y3 l)))
  replace mR := mR.otherC (W.heap.size + 1) 3 (.string (rT l (y3 l))) (by omega)
  replace mQ := mQ.setC 3 (.string (rT l (y3 l)))
  replace hO := hO.set (g := W.heap.size + 1) (.inr (by omega)) 3 (.string (rT l (y3 l)))
  simp only [List.set_cons_zero, List.set_cons_succ] at mQ
  obtain ⟨w10, hw10⟩ : ∃ x, w9.setCell ⟨W.heap.size + 1, 3, none⟩ (.string (rT l (y3 l))) = x := ⟨_, rfl⟩
  rw [hw10] at hR mR mQ hO
  clear hO9 zQ 
  go_wp2_with fail
  have C := rdQc_any (w0 := w0) (W := w10) (s := y4 l) hR
  have zB10 := mQ.lt
  simp only [qcV] at C
  rw [show sN l (y4 l) = y5 l from rfl] at C
  rw [show sN l (y5 l) = y6 l from rfl] at C
  rw [show sS l (y6 l) = y7 l from rfl] at C
  refine C.mono ?_
  rintro e w11 ⟨vq, rfl, oq, hR, hO9⟩
  clear C hw10
  obtain ⟨aq, cq, rfl⟩ := oq.rd.shape
  have Hq : Hid (∀ g, (Value.slice aq (rS l (y6 l)).length cq).ownBlock = some g → g < w11.heap.size) := hide (fun g hg => (World.ownsRow.lt oq g hg).2)
  replace mR := mR.oth hO9 (by omega)
  replace mQ := mQ.oth hO9 (by omega)
  replace hO := hO.trans hO9.wide
  have zQ := mQ.lt
  have q4 := mQ.cell 4
  have f4 := mQ.frozen 4
  have q5 := mQ.cell 5
  have f5 := mQ.frozen 5
  have q6 := mQ.cell 6
  have f6 := mQ.frozen 6
  simp only [List.getElem?_cons_zero, List.getElem?_cons_succ] at q4 q5 q6
  replace hR := hR.set (g := W.heap.size + 1) (by omega) (by omega) 4 (.int .i64 (rN l (y4 l)))
  replace mR := mR.otherC (W.heap.size + 1) 4 (.int .i64 (rN l (y4 l))) (by omega)
  replace mQ := mQ.setC 4 (.int .i64 (rN l (y4 l)))
  replace hO := hO.set (g := W.heap.size + 1) (.inr (by omega)) 4 (.int .i64 (rN l (y4 l)))
  replace oq := oq.olderC (g := W.heap.size + 1) (by omega) 4 (.int .i64 (rN l (y4 l)))
  replace hR := hR.set (g := W.heap.size + 1) (by omega) (by omega) 5 (.int .i64 (rN l (y5 l)))
  replace mR := mR.otherC (W.heap.size + 1) 5 (.int .i64 (rN l (y5 l))) (by omega)
  replace mQ := mQ.setC 5 (.int .i64 (rN l (y5 l)))
  replace hO := hO.set (g := W.heap.size + 1) (.inr (by omega)) 5 (.int .i64 (rN l (y5 l)))
  replace oq := oq.olderC (g := W.heap.size + 1) (by omega) 5 (.int .i64 (rN l (y5 l)))
  replace hR := hR.set (g := W.heap.size + 1) (by omega) (by omega) 6 (.slice aq (rS l (y6 l)).length cq)
  replace mR := mR.otherC (W.heap.size + 1) 6 (.slice aq (rS l (y6 l)).length cq) (by omega)
  replace mQ := mQ.setC 6 (.slice aq (rS l (y6 l)).length cq)
  replace hO := hO.set (g := W.heap.size + 1) (.inr (by omega)) 6 (.slice aq (rS l (y6 l)).length cq)
  replace oq := oq.olderC (g := W.heap.size + 1) (by omega) 6 (.slice aq (rS l (y6 l)).length cq)
  simp only [List.set_cons_zero, List.set_cons_succ] at mQ
  obtain ⟨w12, hw12⟩ : ∃ x, ((w11.setCell ⟨W.heap.size + 1, 4, none⟩ (.int .i64 (rN l (y4 l)))).setCell ⟨W.heap.size + 1, 5, none⟩ (.int .i64 (rN l (y5 l)))).setCell ⟨W.heap.size + 1, 6, none⟩ (.slice aq (rS l (y6 l)).length cq) = x := ⟨_, rfl⟩
  rw [hw12] at hR mR mQ hO oq
  have Zs : Hid (w11.heap.size = w12.heap.size) := hide (by rw [← hw12]; simp)
  clear hO9 zQ 
  go_wp2_with fail
  have C := rdTc_any (w0 := w0) (W := w12) (s := y7 l) hR
  have zB12 := mQ.lt
  simp only [tcV] at C
  rw [show sN l (y7 l) = y8 l from rfl] at C
  rw [show sS l (y8 l) = y9 l from rfl] at C
  rw [show sL (sN l) (rS l (y8 l)).length (y9 l) = y10 l from rfl] at C
  refine C.mono ?_
  rintro e w13 ⟨vw, vh, rfl, ow, oh, hR, hO9⟩
  clear C hw12
  obtain ⟨aw, cw, rfl⟩ := ow.rd.shape
  obtain ⟨ah, ch, rfl⟩ := oh.rd.shape
  have HLEN := hide (rL_len (rN l) (sN l) (y9 l) (rS l (y8 l)).length)
  have Hw : Hid (∀ g, (Value.slice aw (rS l (y8 l)).length cw).ownBlock = some g → w12.heap.size ≤ g) := hide (fun g hg => (World.ownsRow.lt ow g hg).1)
  replace mR := mR.oth hO9 (by omega)
  replace mQ := mQ.oth hO9 (by omega)
  replace hO := hO.trans hO9.wide
  replace oq : OwnS w10.heap.size w13 (.slice aq (rS l (y6 l)).length cq) (rS l (y6 l)) := row_oth oq hO9 (fun g hg e => by have := (World.ownsRow.lt oq g hg).1; omega)
  have zQ := mQ.lt
  have q7 := mQ.cell 7
  have f7 := mQ.frozen 7
  have q8 := mQ.cell 8
  have f8 := mQ.frozen 8
  have q9 := mQ.cell 9
  have f9 := mQ.frozen 9
  simp only [List.getElem?_cons_zero, List.getElem?_cons_succ] at q7 q8 q9
  replace hR := hR.set (g := W.heap.size + 1) (by omega) (by omega) 7 (.int .i64 (rN l (y7 l)))
  replace mR := mR.otherC (W.heap.size + 1) 7 (.int .i64 (rN l (y7 l))) (by omega)
  replace mQ := mQ.setC 7 (.int .i64 (rN l (y7 l)))
  replace hO := hO.set (g := W.heap.size + 1) (.inr (by omega)) 7 (.int .i64 (rN l (y7 l)))
  replace oq := oq.olderC (g := W.heap.size + 1) (by omega) 7 (.int .i64 (rN l (y7 l)))
  replace ow := ow.olderC (g := W.heap.size + 1) (by omega) 7 (.int .i64 (rN l (y7 l)))
  replace oh := oh.olderC (g := W.heap.size + 1) (by omega) 7 (.int .i64 (rN l (y7 l)))
  replace hR := hR.set (g := W.heap.size + 1) (by omega) (by omega) 8 (.slice aw (rS l (y8 l)).length cw)
  replace mR := mR.otherC (W.heap.size + 1) 8 (.slice aw (rS l (y8 l)).length cw) (by omega)
  replace mQ := mQ.setC 8 (.slice aw (rS l (y8 l)).length cw)
  replace hO := hO.set (g := W.heap.size + 1) (.inr (by omega)) 8 (.slice aw (rS l (y8 l)).length cw)
  replace oq := oq.olderC (g := W.heap.size + 1) (by omega) 8 (.slice aw (rS l (y8 l)).length cw)
  replace ow := ow.olderC (g := W.heap.size + 1) (by omega) 8 (.slice aw (rS l (y8 l)).length cw)
  replace oh := oh.olderC (g := W.heap.size + 1) (by omega) 8 (.slice aw (rS l (y8 l)).length cw)
  replace hR := hR.set (g := W.heap.size + 1) (by omega) (by omega) 9 (.slice ah (rL (rN l) (sN l) (rS l (y8 l)).length (y9 l)).length ch)
  replace mR := mR.otherC (W.heap.size + 1) 9 (.slice ah (rL (rN l) (sN l) (rS l (y8 l)).length (y9 l)).length ch) (by omega)
  replace mQ := mQ.setC 9 (.slice ah (rL (rN l) (sN l) (rS l (y8 l)).length (y9 l)).length ch)
  replace hO := hO.set (g := W.heap.size + 1) (.inr (by omega)) 9 (.slice ah (rL (rN l) (sN l) (rS l (y8 l)).length (y9 l)).length ch)
  replace oq := oq.olderC (g := W.heap.size + 1) (by omega) 9 (.slice ah (rL (rN l) (sN l) (rS l (y8 l)).length (y9 l)).length ch)
  replace ow := ow.olderC (g := W.heap.size + 1) (by omega) 9 (.slice ah (rL (rN l) (sN l) (rS l (y8 l)).length (y9 l)).length ch)
  replace oh := oh.olderC (g := W.heap.size + 1) (by omega) 9 (.slice ah (rL (rN l) (sN l) (rS l (y8 l)).length (y9 l)).length ch)
  simp only [List.set_cons_zero, List.set_cons_succ] at mQ
  obtain ⟨w14, hw14⟩ : ∃ x, ((w13.setCell ⟨W.heap.size + 1, 7, none⟩ (.int .i64 (rN l (y7 l)))).setCell ⟨W.heap.size + 1, 8, none⟩ (.slice aw (rS l (y8 l)).length cw)).setCell ⟨W.heap.size + 1, 9, none⟩ (.slice ah (rL (rN l) (sN l) (rS l (y8 l)).length (y9 l)).length ch) = x := ⟨_, rfl⟩
  rw [hw14] at hR mR mQ hO oq ow oh
  clear hO9 zQ 
  go_wp2_with fail
  have C := rdTxs_any (w0 := w0) (W := w14) (s := y10 l) hR
  have zB14 := mQ.lt
  rw [show sC l 4 (y10 l) = i11 l from rfl] at C
  rw [show sL (sX l) (cI l 4 (y10 l)).toNat (i11 l) = i12 l from rfl] at C
  refine C.mono ?_
  rintro e w15 ⟨vt, rfl, ot, hR, hO9⟩
  clear C hw14
  obtain ⟨at_, ct, rfl⟩ := ot.rd.shape
  replace mR := mR.oth hO9 (by omega)
  replace mQ := mQ.oth hO9 (by omega)
  replace hO := hO.trans hO9.wide
  replace oq : OwnS w10.heap.size w15 (.slice aq (rS l (y6 l)).length cq) (rS l (y6 l)) := row_oth oq hO9 (fun g hg e => by have := (World.ownsRow.lt oq g hg).1; omega)
  replace ow : OwnS w12.heap.size w15 (.slice aw (rS l (y8 l)).length cw) (rS l (y8 l)) := row_oth ow hO9 (fun g hg e => by have := (World.ownsRow.lt ow g hg).1; omega)
  replace oh : OwnI w12.heap.size w15 (.slice ah (rL (rN l) (sN l) (rS l (y8 l)).length (y9 l)).length ch) (rL (rN l) (sN l) (rS l (y8 l)).length (y9 l)) := row_oth oh hO9 (fun g hg e => by have := (World.ownsRow.lt oh g hg).1; omega)
  have zQ := mQ.lt
  have q10 := mQ.cell 10
  have f10 := mQ.frozen 10
  simp only [List.getElem?_cons_zero, List.getElem?_cons_succ] at q10
  replace hR := hR.set (g := W.heap.size + 1) (by omega) (by omega) 10 (.slice at_ (rL (rX l) (sX l) (cI l 4 (y10 l)).toNat (i11 l)).length ct)
  replace mR := mR.otherC (W.heap.size + 1) 10 (.slice at_ (rL (rX l) (sX l) (cI l 4 (y10 l)).toNat (i11 l)).length ct) (by omega)
  replace mQ := mQ.setC 10 (.slice at_ (rL (rX l) (sX l) (cI l 4 (y10 l)).toNat (i11 l)).length ct)
  replace hO := hO.set (g := W.heap.size + 1) (.inr (by omega)) 10 (.slice at_ (rL (rX l) (sX l) (cI l 4 (y10 l)).toNat (i11 l)).length ct)
  replace oq := oq.olderC (g := W.heap.size + 1) (by omega) 10 (.slice at_ (rL (rX l) (sX l) (cI l 4 (y10 l)).toNat (i11 l)).length ct)
  replace ow := ow.olderC (g := W.heap.size + 1) (by omega) 10 (.slice at_ (rL (rX l) (sX l) (cI l 4 (y10 l)).toNat (i11 l)).length ct)
  replace oh := oh.olderC (g := W.heap.size + 1) (by omega) 10 (.slice at_ (rL (rX l) (sX l) (cI l 4 (y10 l)).toNat (i11 l)).length ct)
  replace ot := ot.olderC (g := W.heap.size + 1) (by omega) 10 (.slice at_ (rL (rX l) (sX l) (cI l 4 (y10 l)).toNat (i11 l)).length ct)
  simp only [List.set_cons_zero, List.set_cons_succ] at mQ
  obtain ⟨w16, hw16⟩ : ∃ x, w15.setCell ⟨W.heap.size + 1, 10, none⟩ (.slice at_ (rL (rX l) (sX l) (cI l 4 (y10 l)).toNat (i11 l)).length ct) = x := ⟨_, rfl⟩
  rw [hw16] at hR mR mQ hO oq ow oh ot
  clear hO9 zQ 
  go_wp2_with fail
  have C := rdNum_any (w0 := w0) (W := w16) (s := i12 l) hR
  rw [show sN l (i12 l) = i13 l from rfl] at C
  refine C.mono ?_
  rintro e w17 ⟨rfl, hR, hO9⟩
  clear C hw16
  have hen : (rN l (i12 l) == 1) = decide (rN l (i12 l) = 1) := by by_cases h1 : rN l (i12 l) = 1 <;> simp [h1]
  replace mR := mR.oth hO9 (by omega)
  replace mQ := mQ.oth hO9 (by omega)
  replace hO := hO.trans hO9.wide
  replace oq : OwnS w10.heap.size w17 (.slice aq (rS l (y6 l)).length cq) (rS l (y6 l)) := row_oth oq hO9 (fun g hg e => by have := (World.ownsRow.lt oq g hg).1; omega)
  replace ow : OwnS w12.heap.size w17 (.slice aw (rS l (y8 l)).length cw) (rS l (y8 l)) := row_oth ow hO9 (fun g hg e => by have := (World.ownsRow.lt ow g hg).1; omega)
  replace oh : OwnI w12.heap.size w17 (.slice ah (rL (rN l) (sN l) (rS l (y8 l)).length (y9 l)).length ch) (rL (rN l) (sN l) (rS l (y8 l)).length (y9 l)) := row_oth oh hO9 (fun g hg e => by have := (World.ownsRow.lt oh g hg).1; omega)
  replace ot : OwnT w14.heap.size w17 (.slice at_ (rL (rX l) (sX l) (cI l 4 (y10 l)).toNat (i11 l)).length ct) (rL (rX l) (sX l) (cI l 4 (y10 l)).toNat (i11 l)) := row_oth ot hO9 (fun g hg e => by have := (World.ownsRow.lt ot g hg).1; omega)
  have zQ := mQ.lt
  have q11 := mQ.cell 11
  have f11 := mQ.frozen 11
  simp only [List.getElem?_cons_zero, List.getElem?_cons_succ] at q11
  replace hR := hR.set (g := W.heap.size + 1) (by omega) (by omega) 11 (.bool (decide (rN l (i12 l) = 1)))
  replace mR := mR.otherC (W.heap.size + 1) 11 (.bool (decide (rN l (i12 l) = 1))) (by omega)
  replace mQ := mQ.setC 11 (.bool (decide (rN l (i12 l) = 1)))
  replace hO := hO.set (g := W.heap.size + 1) (.inr (by omega)) 11 (.bool (decide (rN l (i12 l) = 1)))
  replace oq := oq.olderC (g := W.heap.size + 1) (by omega) 11 (.bool (decide (rN l (i12 l) = 1)))
  replace ow := ow.olderC (g := W.heap.size + 1) (by omega) 11 (.bool (decide (rN l (i12 l) = 1)))
  replace oh := oh.olderC (g := W.heap.size + 1) (by omega) 11 (.bool (decide (rN l (i12 l) = 1)))
  replace ot := ot.olderC (g := W.heap.size + 1) (by omega) 11 (.bool (decide (rN l (i12 l) = 1)))
  simp only [List.set_cons_zero, List.set_cons_succ] at mQ
  obtain ⟨w18, hw18⟩ : ∃ x, w17.setCell ⟨W.heap.size + 1, 11, none⟩ (.bool (decide (rN l (i12 l) = 1))) = x := ⟨_, rfl⟩
  rw [hw18] at hR mR mQ hO oq ow oh ot
  clear hO9 zQ 
  go_wp2_with fail
  have C := rdNext_any (w0 := w0) (W := w18) (s := i13 l) hR
  have zB18 := mQ.lt
  rw [show sC l 12 (i13 l) = i14 l from rfl] at C
  rw [show sL (sV l) (cI l 12 (i13 l)).toNat (i14 l) = i15 l from rfl] at C
  refine C.mono ?_
  rintro e w19 ⟨vn, rfl, on, hR, hO9⟩
  clear C hw18
  obtain ⟨an, cn, rfl⟩ := on.rd.shape
  replace mR := mR.oth hO9 (by omega)
  replace mQ := mQ.oth hO9 (by omega)
  replace hO := hO.trans hO9.wide
  replace oq : OwnS w10.heap.size w19 (.slice aq (rS l (y6 l)).length cq) (rS l (y6 l)) := row_oth oq hO9 (fun g hg e => by have := (World.ownsRow.lt oq g hg).1; omega)
  replace ow : OwnS w12.heap.size w19 (.slice aw (rS l (y8 l)).length cw) (rS l (y8 l)) := row_oth ow hO9 (fun g hg e => by have := (World.ownsRow.lt ow g hg).1; omega)
  replace oh : OwnI w12.heap.size w19 (.slice ah (rL (rN l) (sN l) (rS l (y8 l)).length (y9 l)).length ch) (rL (rN l) (sN l) (rS l (y8 l)).length (y9 l)) := row_oth oh hO9 (fun g hg e => by have := (World.ownsRow.lt oh g hg).1; omega)
  replace ot : OwnT w14.heap.size w19 (.slice at_ (rL (rX l) (sX l) (cI l 4 (y10 l)).toNat (i11 l)).length ct) (rL (rX l) (sX l) (cI l 4 (y10 l)).toNat (i11 l)) := row_oth ot hO9 (fun g hg e => by have := (World.ownsRow.lt ot g hg).1; omega)
  have zQ := mQ.lt
  have q12 := mQ.cell 12
  have f12 := mQ.frozen 12
  simp only [List.getElem?_cons_zero, List.getElem?_cons_succ] at q12
  replace hR := hR.set (g := W.heap.size + 1) (by omega) (by omega) 12 (.slice an (rL (rV l) (sV l) (cI l 12 (i13 l)).toNat (i14 l)).length cn)
  replace mR := mR.otherC (W.heap.size + 1) 12 (.slice an (rL (rV l) (sV l) (cI l 12 (i13 l)).toNat (i14 l)).length cn) (by omega)
  replace mQ := mQ.setC 12 (.slice an (rL (rV l) (sV l) (cI l 12 (i13 l)).toNat (i14 l)).length cn)
  replace hO := hO.set (g := W.heap.size + 1) (.inr (by omega)) 12 (.slice an (rL (rV l) (sV l) (cI l 12 (i13 l)).toNat (i14 l)).length cn)
  replace oq := oq.olderC (g := W.heap.size + 1) (by omega) 12 (.slice an (rL (rV l) (sV l) (cI l 12 (i13 l)).toNat (i14 l)).length cn)
  replace ow := ow.olderC (g := W.heap.size + 1) (by omega) 12 (.slice an (rL (rV l) (sV l) (cI l 12 (i13 l)).toNat (i14 l)).length cn)
  replace oh := oh.olderC (g := W.heap.size + 1) (by omega) 12 (.slice an (rL (rV l) (sV l) (cI l 12 (i13 l)).toNat (i14 l)).length cn)
  replace ot := ot.olderC (g := W.heap.size + 1) (by omega) 12 (.slice an (rL (rV l) (sV l) (cI l 12 (i13 l)).toNat (i14 l)).length cn)
  replace on := on.olderC (g := W.heap.size + 1) (by omega) 12 (.slice an (rL (rV l) (sV l) (cI l 12 (i13 l)).toNat (i14 l)).length cn)
  simp only [List.set_cons_zero, List.set_cons_succ] at mQ
  obtain ⟨w20, hw20⟩ : ∃ x, w19.setCell ⟨W.heap.size + 1, 12, none⟩ (.slice an (rL (rV l) (sV l) (cI l 12 (i13 l)).toNat (i14 l)).length cn) = x := ⟨_, rfl⟩
  rw [hw20] at hR mR mQ hO oq ow oh ot on
  clear hO9 zQ 
  go_wp2_with fail
  have C := rdText_any (w0 := w0) (W := w20) (s := i15 l) hR
  rw [show sT l (i15 l) = i16 l from rfl] at C
  refine C.mono ?_
  rintro e w21 ⟨rfl, hR, hO9⟩
  clear C hw20
  replace mR := mR.oth hO9 (by omega)
  replace mQ := mQ.oth hO9 (by omega)
  replace hO := hO.trans hO9.wide
  replace oq : OwnS w10.heap.size w21 (.slice aq (rS l (y6 l)).length cq) (rS l (y6 l)) := row_oth oq hO9 (fun g hg e => by have := (World.ownsRow.lt oq g hg).1; omega)
  replace ow : OwnS w12.heap.size w21 (.slice aw (rS l (y8 l)).length cw) (rS l (y8 l)) := row_oth ow hO9 (fun g hg e => by have := (World.ownsRow.lt ow g hg).1; omega)
  replace oh : OwnI w12.heap.size w21 (.slice ah (rL (rN l) (sN l) (rS l (y8 l)).length (y9 l)).length ch) (rL (rN l) (sN l) (rS l (y8 l)).length (y9 l)) := row_oth oh hO9 (fun g hg e => by have := (World.ownsRow.lt oh g hg).1; omega)
  replace ot : OwnT w14.heap.size w21 (.slice at_ (rL (rX l) (sX l) (cI l 4 (y10 l)).toNat (i11 l)).length ct) (rL (rX l) (sX l) (cI l 4 (y10 l)).toNat (i11 l)) := row_oth ot hO9 (fun g hg e => by have := (World.ownsRow.lt ot g hg).1; omega)
  replace on : OwnV w18.heap.size w21 (.slice an (rL (rV l) (sV l) (cI l 12 (i13 l)).toNat (i14 l)).length cn) (rL (rV l) (sV l) (cI l 12 (i13 l)).toNat (i14 l)) := row_oth on hO9 (fun g hg e => by have := (World.ownsRow.lt on g hg).1; omega)
  have zQ := mQ.lt
  have q13 := mQ.cell 13
  have f13 := mQ.frozen 13
  simp only [List.getElem?_cons_zero, List.getElem?_cons_succ] at q13
  replace hR := hR.set (g := W.heap.size + 1) (by omega) (by omega) 13 (.string (rT l (i15 l)))
  replace mR := mR.otherC (W.heap.size + 1) 13 (.string (rT l (i15 l))) (by omega)
  replace mQ := mQ.setC 13 (.string (rT l (i15 l)))
  replace hO := hO.set (g := W.heap.size + 1) (.inr (by omega)) 13 (.string (rT l (i15 l)))
  replace oq := oq.olderC (g := W.heap.size + 1) (by omega) 13 (.string (rT l (i15 l)))
  replace ow := ow.olderC (g := W.heap.size + 1) (by omega) 13 (.string (rT l (i15 l)))
  replace oh := oh.olderC (g := W.heap.size + 1) (by omega) 13 (.string (rT l (i15 l)))
  replace ot := ot.olderC (g := W.heap.size + 1) (by omega) 13 (.string (rT l (i15 l)))
  replace on := on.olderC (g := W.heap.size + 1) (by omega) 13 (.string (rT l (i15 l)))
  simp only [List.set_cons_zero, List.set_cons_succ] at mQ
  obtain ⟨w22, hw22⟩ : ∃ x, w21.setCell ⟨W.heap.size + 1, 13, none⟩ (.string (rT l (i15 l))) = x := ⟨_, rfl⟩
  rw [hw22] at hR mR mQ hO oq ow oh ot on
  clear hO9 zQ 
  have zV := mR.lt
  have zQ := mQ.lt
  have e0 := mQ.cell 0
  have t0 := mR.cell 0
  have g0 := mR.frozen 0
  have e1 := mQ.cell 1
  have t1 := mR.cell 1
  have g1 := mR.frozen 1
  have e2 := mQ.cell 2
  have t2 := mR.cell 2
  have g2 := mR.frozen 2
  have e3 := mQ.cell 3
  have t3 := mR.cell 3
  have g3 := mR.frozen 3
  have e4 := mQ.cell 4
  have t4 := mR.cell 4
  have g4 := mR.frozen 4
  have e5 := mQ.cell 5
  have t5 := mR.cell 5
  have g5 := mR.frozen 5
  have e6 := mQ.cell 6
  have t6 := mR.cell 6
  have g6 := mR.frozen 6
  have e7 := mQ.cell 7
  have t7 := mR.cell 7
  have g7 := mR.frozen 7
  have e8 := mQ.cell 8
  have t8 := mR.cell 8
  have g8 := mR.frozen 8
  have e9 := mQ.cell 9
  have t9 := mR.cell 9
  have g9 := mR.frozen 9
  have e10 := mQ.cell 10
  have t10 := mR.cell 10
  have g10 := mR.frozen 10
  have e11 := mQ.cell 11
  have t11 := mR.cell 11
  have g11 := mR.frozen 11
  have e12 := mQ.cell 12
  have t12 := mR.cell 12
  have g12 := mR.frozen 12
  have e13 := mQ.cell 13
  have t13 := mR.cell 13
  have g13 := mR.frozen 13
  simp only [List.getElem?_cons_zero, List.getElem?_cons_succ] at e0 t0 e1 t1 e2 t2 e3 t3 e4 t4 e5 t5 e6 t6 e7 t7 e8 t8 e9 t9 e10 t10 e11 t11 e12 t12 e13 t13
  have HQ := hide (OwnS.mono (oq.put14 (g := W.heap.size) (by omega) (.int .i64 (rN l (some 0))) (.int .i64 (rN l (y1 l))) (.int .i64 (rN l (y2 l))) (.string (rT l (y3 l))) (.int .i64 (rN l (y4 l))) (.int .i64 (rN l (y5 l))) (.slice aq (rS l (y6 l)).length cq) (.int .i64 (rN l (y7 l))) (.slice aw (rS l (y8 l)).length cw) (.slice ah (rL (rN l) (sN l) (rS l (y8 l)).length (y9 l)).length ch) (.slice at_ (rL (rX l) (sX l) (cI l 4 (y10 l)).toNat (i11 l)).length ct) (.bool (decide (rN l (i12 l) = 1))) (.slice an (rL (rV l) (sV l) (cI l 12 (i13 l)).toNat (i14 l)).length cn) (.string (rT l (i15 l)))) (show W.heap.size ≤ w10.heap.size by omega))
  have HP := hide (OwnS.mono (ow.put14 (g := W.heap.size) (by omega) (.int .i64 (rN l (some 0))) (.int .i64 (rN l (y1 l))) (.int .i64 (rN l (y2 l))) (.string (rT l (y3 l))) (.int .i64 (rN l (y4 l))) (.int .i64 (rN l (y5 l))) (.slice aq (rS l (y6 l)).length cq) (.int .i64 (rN l (y7 l))) (.slice aw (rS l (y8 l)).length cw) (.slice ah (rL (rN l) (sN l) (rS l (y8 l)).length (y9 l)).length ch) (.slice at_ (rL (rX l) (sX l) (cI l 4 (y10 l)).toNat (i11 l)).length ct) (.bool (decide (rN l (i12 l) = 1))) (.slice an (rL (rV l) (sV l) (cI l 12 (i13 l)).toNat (i14 l)).length cn) (.string (rT l (i15 l)))) (show W.heap.size ≤ w12.heap.size by omega))
  have HH := hide (OwnI.mono (oh.put14 (g := W.heap.size) (by omega) (.int .i64 (rN l (some 0))) (.int .i64 (rN l (y1 l))) (.int .i64 (rN l (y2 l))) (.string (rT l (y3 l))) (.int .i64 (rN l (y4 l))) (.int .i64 (rN l (y5 l))) (.slice aq (rS l (y6 l)).length cq) (.int .i64 (rN l (y7 l))) (.slice aw (rS l (y8 l)).length cw) (.slice ah (rL (rN l) (sN l) (rS l (y8 l)).length (y9 l)).length ch) (.slice at_ (rL (rX l) (sX l) (cI l 4 (y10 l)).toNat (i11 l)).length ct) (.bool (decide (rN l (i12 l) = 1))) (.slice an (rL (rV l) (sV l) (cI l 12 (i13 l)).toNat (i14 l)).length cn) (.string (rT l (i15 l)))) (show W.heap.size ≤ w12.heap.size by omega))
  have HT := hide (OwnT.mono (ot.put14 (g := W.heap.size) (by omega) (.int .i64 (rN l (some 0))) (.int .i64 (rN l (y1 l))) (.int .i64 (rN l (y2 l))) (.string (rT l (y3 l))) (.int .i64 (rN l (y4 l))) (.int .i64 (rN l (y5 l))) (.slice aq (rS l (y6 l)).length cq) (.int .i64 (rN l (y7 l))) (.slice aw (rS l (y8 l)).length cw) (.slice ah (rL (rN l) (sN l) (rS l (y8 l)).length (y9 l)).length ch) (.slice at_ (rL (rX l) (sX l) (cI l 4 (y10 l)).toNat (i11 l)).length ct) (.bool (decide (rN l (i12 l) = 1))) (.slice an (rL (rV l) (sV l) (cI l 12 (i13 l)).toNat (i14 l)).length cn) (.string (rT l (i15 l)))) (show W.heap.size ≤ w14.heap.size by omega))
  have HN := hide (OwnV.mono (on.put14 (g := W.heap.size) (by omega) (.int .i64 (rN l (some 0))) (.int .i64 (rN l (y1 l))) (.int .i64 (rN l (y2 l))) (.string (rT l (y3 l))) (.int .i64 (rN l (y4 l))) (.int .i64 (rN l (y5 l))) (.slice aq (rS l (y6 l)).length cq) (.int .i64 (rN l (y7 l))) (.slice aw (rS l (y8 l)).length cw) (.slice ah (rL (rN l) (sN l) (rS l (y8 l)).length (y9 l)).length ch) (.slice at_ (rL (rX l) (sX l) (cI l 4 (y10 l)).toNat (i11 l)).length ct) (.bool (decide (rN l (i12 l) = 1))) (.slice an (rL (rV l) (sV l) (cI l 12 (i13 l)).toNat (i14 l)).length cn) (.string (rT l (i15 l)))) (show W.heap.size ≤ w18.heap.size by omega))
  have HR := hide ((((((((((((((hR.set (g := W.heap.size) (by omega) (by omega) 0 (.int .i64 (rN l (some 0)))).set (g := W.heap.size) (by omega) (by omega) 1 (.int .i64 (rN l (y1 l)))).set (g := W.heap.size) (by omega) (by omega) 2 (.int .i64 (rN l (y2 l)))).set (g := W.heap.size) (by omega) (by omega) 3 (.string (rT l (y3 l)))).set (g := W.heap.size) (by omega) (by omega) 4 (.int .i64 (rN l (y4 l)))).set (g := W.heap.size) (by omega) (by omega) 5 (.int .i64 (rN l (y5 l)))).set (g := W.heap.size) (by omega) (by omega) 6 (.slice aq (rS l (y6 l)).length cq)).set (g := W.heap.size) (by omega) (by omega) 7 (.int .i64 (rN l (y7 l)))).set (g := W.heap.size) (by omega) (by omega) 8 (.slice aw (rS l (y8 l)).length cw)).set (g := W.heap.size) (by omega) (by omega) 9 (.slice ah (rL (rN l) (sN l) (rS l (y8 l)).length (y9 l)).length ch)).set (g := W.heap.size) (by omega) (by omega) 10 (.slice at_ (rL (rX l) (sX l) (cI l 4 (y10 l)).toNat (i11 l)).length ct)).set (g := W.heap.size) (by omega) (by omega) 11 (.bool (decide (rN l (i12 l) = 1)))).set (g := W.heap.size) (by omega) (by omega) 12 (.slice an (rL (rV l) (sV l) (cI l 12 (i13 l)).toNat (i14 l)).length cn)).set (g := W.heap.size) (by omega) (by omega) 13 (.string (rT l (i15 l))))
  have HO := hide ((((((((((((((hO.set (g := W.heap.size) (.inr (by omega)) 0 (.int .i64 (rN l (some 0)))).set (g := W.heap.size) (.inr (by omega)) 1 (.int .i64 (rN l (y1 l)))).set (g := W.heap.size) (.inr (by omega)) 2 (.int .i64 (rN l (y2 l)))).set (g := W.heap.size) (.inr (by omega)) 3 (.string (rT l (y3 l)))).set (g := W.heap.size) (.inr (by omega)) 4 (.int .i64 (rN l (y4 l)))).set (g := W.heap.size) (.inr (by omega)) 5 (.int .i64 (rN l (y5 l)))).set (g := W.heap.size) (.inr (by omega)) 6 (.slice aq (rS l (y6 l)).length cq)).set (g := W.heap.size) (.inr (by omega)) 7 (.int .i64 (rN l (y7 l)))).set (g := W.heap.size) (.inr (by omega)) 8 (.slice aw (rS l (y8 l)).length cw)).set (g := W.heap.size) (.inr (by omega)) 9 (.slice ah (rL (rN l) (sN l) (rS l (y8 l)).length (y9 l)).length ch)).set (g := W.heap.size) (.inr (by omega)) 10 (.slice at_ (rL (rX l) (sX l) (cI l 4 (y10 l)).toNat (i11 l)).length ct)).set (g := W.heap.size) (.inr (by omega)) 11 (.bool (decide (rN l (i12 l) = 1)))).set (g := W.heap.size) (.inr (by omega)) 12 (.slice an (rL (rV l) (sV l) (cI l 12 (i13 l)).toNat (i14 l)).length cn)).set (g := W.heap.size) (.inr (by omega)) 13 (.string (rT l (i15 l)))).tight
  clear mR mQ hR hO oq ow oh ot on
  go_wp2
  refine bodyPost_ret (v := .agg #[.int .i64 (rN l (some 0)), .int .i64 (rN l (y1 l)), .int .i64 (rN l (y2 l)), .string (rT l (y3 l)), .int .i64 (rN l (y4 l)), .int .i64 (rN l (y5 l)), .slice aq (rS l (y6 l)).length cq, .int .i64 (rN l (y7 l)), .slice aw (rS l (y8 l)).length cw, .slice ah (rL (rN l) (sN l) (rS l (y8 l)).length (y9 l)).length ch, .slice at_ (rL (rX l) (sX l) (cI l 4 (y10 l)).toNat (i11 l)).length ct, .bool (decide (rN l (i12 l) = 1)), .slice an (rL (rV l) (sV l) (cI l 12 (i13 l)).toNat (i14 l)).length cn, .string (rT l (i15 l))]) (by simp [results, Tryz.f80, go_sem, t0, t1, t2, t3, t4, t5, t6, t7, t8, t9, t10, t11, t12, t13]) rfl ?_
  exact ⟨⟨_, _, _, _, _⟩, rfl, ⟨HQ.out, HP.out, HH.out, HT.out, HN.out⟩, fun g h1 h2 => by have e1 := Hq.out g h1; have e2 := Hw.out g h2; have e3 := Zs.out; omega, HR.out, HO.out⟩
end Go.Proofs.YtcmmdkabocfnfaaGreatDoor
