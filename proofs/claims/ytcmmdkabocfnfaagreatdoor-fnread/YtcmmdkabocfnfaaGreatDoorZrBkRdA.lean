/- The landed code's GetTx. The landed code's reader: a number, a text, names, an order, a count, by where it is. -/
import Derived.Test.YtcmmdkabocfnfaaGreatDoorZrTxGetI
import Derived.Test.YtcmmdkabocfnfaaGreatDoorZrBkMark
import Derived.Test.YtcmmdkabocfnfaaGreatDoorZrVsOkI
namespace Go.Proofs.YtcmmdkabocfnfaaGreatDoor
open Go.RowKit
set_option linter.unusedVariables false

set_option maxRecDepth 20000 in
set_option maxHeartbeats 4000000 in
theorem implGetTx_any (v : Value) (l : List UInt8) (p : Int) (w : World) (hr : RdB w v l) (hl : l.length ≤ 4000000) (hp1 : -9223372036854775808 ≤ p) (hp2 : p ≤ 9223372036854775807) :
    Calls Tryz.prog 154 #[v, .int .i64 p] w fun e w' => e = .returned (.tuple #[txV (getX l p).1, .int .i64 (getX l p).2.1, .bool (getX l p).2.2]) ∧ Below w.heap.size w w' := by
  have q1 := (getN_bd l p).2.2
  obtain ⟨k, p1, o1, h1⟩ : ∃ x y z, getN l p = (x, y, z) := ⟨_, _, _, rfl⟩
  rw [h1] at q1
  simp only at q1
  have q2 := stepT_bd l p1 o1 q1
  have z2 := stepX_len l p1 o1
  obtain ⟨X2, hX2⟩ : ∃ x, (if o1 = true then (getT l p1).1 else []) = x := ⟨_, rfl⟩
  obtain ⟨P2, hP2⟩ : ∃ x, (if o1 = true then (getT l p1).2.1 else p1) = x := ⟨_, rfl⟩
  obtain ⟨O2, hO2⟩ : ∃ x, (o1 && (getT l p1).2.2) = x := ⟨_, rfl⟩
  rw [hP2] at q2
  rw [hX2] at z2
  have q3 := stepT_bd l P2 O2 q2
  have z3 := stepX_len l P2 O2
  obtain ⟨X3, hX3⟩ : ∃ x, (if O2 = true then (getT l P2).1 else []) = x := ⟨_, rfl⟩
  obtain ⟨P3, hP3⟩ : ∃ x, (if O2 = true then (getT l P2).2.1 else P2) = x := ⟨_, rfl⟩
  obtain ⟨O3, hO3⟩ : ∃ x, (O2 && (getT l P2).2.2) = x := ⟨_, rfl⟩
  rw [hP3] at q3
  rw [hX3] at z3
  have q4 := stepN_bd l P3 O3 q3
  obtain ⟨X4, hX4⟩ : ∃ x, (if O3 = true then (getN l P3).1 else 0) = x := ⟨_, rfl⟩
  obtain ⟨P4, hP4⟩ : ∃ x, (if O3 = true then (getN l P3).2.1 else P3) = x := ⟨_, rfl⟩
  obtain ⟨O4, hO4⟩ : ∃ x, (O3 && (getN l P3).2.2) = x := ⟨_, rfl⟩
  rw [hP4] at q4
  obtain ⟨X5, hX5⟩ : ∃ x, (if O4 = true then (getN l P4).1 else 0) = x := ⟨_, rfl⟩
  obtain ⟨P5, hP5⟩ : ∃ x, (if O4 = true then (getN l P4).2.1 else P4) = x := ⟨_, rfl⟩
  obtain ⟨O5, hO5⟩ : ∃ x, (O4 && (getN l P4).2.2) = x := ⟨_, rfl⟩
  have HX := hide (getX_run h1 hX2 hP2 hO2 hX3 hP3 hO3 hX4 hP4 hO4 hX5 hP5 hO5)
  have C1 := hide (fun B W h1 h2 => readNum_any v l p true B W h1 h2 hl hp1 hp2)
  have C2 := hide (fun B W h1 h2 => readText_any v l p1 o1 B W h1 h2 hl (by omega) (by omega))
  have C3 := hide (fun B W h1 h2 => readText_any v l P2 O2 B W h1 h2 hl (by omega) (by omega))
  have C4 := hide (fun B W h1 h2 => readNum_any v l P3 O3 B W h1 h2 hl (by omega) (by omega))
  have C5 := hide (fun B W h1 h2 => readNum_any v l P4 O4 B W h1 h2 hl (by omega) (by omega))
  rw [if_pos rfl, h1, if_pos rfl, Bool.true_and] at C1
  rw [hX2, hP2, hO2] at C2
  rw [hX3, hP3, hO3] at C3
  rw [hX4, hP4, hO4] at C4
  rw [hX5, hP5, hO5] at C5
  have CO := hide (fun W => implTxOk_any (k, ⟨X2.toArray⟩, ⟨X3.toArray⟩, X4, X5) W (by unfold maxLen; show X2.toArray.size ≤ _; simp; omega) (by unfold maxLen; show X3.toArray.size ≤ _; simp; omega))
  simp only [txV] at CO
  clear h1 hX2 hP2 hO2 hX3 hP3 hO3 hX4 hP4 hO4 hX5 hP5 hO5 q1 q2 q3 q4 z2 z3
  obtain ⟨a, cap, rfl⟩ := hr.shape
  go_enter Tryz.func154, Tryz.ntmps154
  go_wp2_with fail
  refine (readerAt_any _ l.length cap a p _ rfl).mono ?_
  rintro e w2 ⟨rfl, hb2⟩
  have hB2 : Below w.heap.size w w2 := ((Below.refl _ w).alloc (Nat.le_refl _) _).trans (hb2.mono (by simp))
  have hs2 : w.heap.size + 1 ≤ w2.heap.size := by have := hb2.size; simpa using this
  have kR2 : Blk w2 w.heap.size 52 z5 := (Blk.new w 52 z5).below hb2 (by simp)
  clear hb2
  go_wp2_with fail
  obtain ⟨w3, hw3⟩ : ∃ w3, (w2.alloc (.cells #[.slice a l.length cap, .int .i64 p, .bool true] 101)).alloc (.cells #[.int .i64 0, .string { data := #[] }, .string { data := #[] }, .int .i64 0, .int .i64 0] 52) = w3 := ⟨_, rfl⟩
  rw [hw3]
  have S3 : Sg w (.slice a l.length cap) l w.heap.size w2.heap.size (w2.heap.size + 1) w3 z5 p true := by
    have b1 : Below w2.heap.size w2 w3 := by rw [← hw3]; exact ((Below.refl _ w2).alloc (Nat.le_refl _) _).alloc (by simp) _
    refine ⟨?_, ?_, kR2.below b1 (by omega), hB2.trans (b1.mono (by omega))⟩
    · rw [← hw3]
      exact (Blk.new w2 101 [.slice a l.length cap, .int .i64 p, .bool true]).below ((Below.refl (w2.heap.size + 1) _).alloc (by simp) _) (by omega)
    · rw [← hw3]
      have h := Blk.new (w2.alloc (.cells #[.slice a l.length cap, .int .i64 p, .bool true] 101)) 52 z5
      rw [World.size_alloc] at h
      exact h
  clear kR2 hB2 hw3
  have n1 : w2.heap.size ≠ w2.heap.size + 1 := by omega
  have n2 : w.heap.size ≠ w2.heap.size := by omega
  have n3 : w.heap.size ≠ w2.heap.size + 1 := by omega
  have m1 : w.heap.size ≤ w2.heap.size := by omega
  have m2 : w.heap.size ≤ w2.heap.size + 1 := by omega
  have n4 : some (w2.heap.size + 1) ≠ some w2.heap.size := by intro e; injection e; omega
  have Hr := hide hr
  clear hr
  refine (C1.out w2.heap.size w3 (Hr.out.below S3.bel (Nat.le_refl _)) S3.rdr).mono ?_
  rintro e w4 ⟨rfl, k4, g4⟩
  have t0 := (S3.tx.kept g4 n4).cell 0
  have f0 := (S3.tx.kept g4 n4).frozen 0
  simp only [z5, List.getElem?_cons_zero] at t0
  have S4 := S3.step (cs' := [.int .i64 k, .string { data := #[] }, .string { data := #[] }, .int .i64 0, .int .i64 0]) m1 m2 n1 n2 n3 k4 g4 0 (.int .i64 k) rfl
  clear S3 k4 g4 C1
  go_wp2_with fail
  clear t0 f0
  refine (C2.out w2.heap.size _ (Hr.out.below S4.bel (Nat.le_refl _)) S4.rdr).mono ?_
  rintro e w5 ⟨rfl, k5, g5⟩
  have t1 := (S4.tx.kept g5 n4).cell 1
  have f1 := (S4.tx.kept g5 n4).frozen 1
  simp only [List.getElem?_cons_zero, List.getElem?_cons_succ] at t1
  have S5 := S4.step (cs' := [.int .i64 k, .string ⟨X2.toArray⟩, .string { data := #[] }, .int .i64 0, .int .i64 0]) m1 m2 n1 n2 n3 k5 g5 1 (.string ⟨X2.toArray⟩) rfl
  clear S4 k5 g5 C2
  go_wp2_with fail
  clear t1 f1
  refine (C3.out w2.heap.size _ (Hr.out.below S5.bel (Nat.le_refl _)) S5.rdr).mono ?_
  rintro e w6 ⟨rfl, k6, g6⟩
  have t2 := (S5.tx.kept g6 n4).cell 2
  have f2 := (S5.tx.kept g6 n4).frozen 2
  simp only [List.getElem?_cons_zero, List.getElem?_cons_succ] at t2
  have S6 := S5.step (cs' := [.int .i64 k, .string ⟨X2.toArray⟩, .string ⟨X3.toArray⟩, .int .i64 0, .int .i64 0]) m1 m2 n1 n2 n3 k6 g6 2 (.string ⟨X3.toArray⟩) rfl
  clear S5 k6 g6 C3
  go_wp2_with fail
  clear t2 f2
  refine (C4.out w2.heap.size _ (Hr.out.below S6.bel (Nat.le_refl _)) S6.rdr).mono ?_
  rintro e w7 ⟨rfl, k7, g7⟩
  have t3 := (S6.tx.kept g7 n4).cell 3
  have f3 := (S6.tx.kept g7 n4).frozen 3
  simp only [List.getElem?_cons_zero, List.getElem?_cons_succ] at t3
  have S7 := S6.step (cs' := [.int .i64 k, .string ⟨X2.toArray⟩, .string ⟨X3.toArray⟩, .int .i64 X4, .int .i64 0]) m1 m2 n1 n2 n3 k7 g7 3 (.int .i64 X4) rfl
  clear S6 k7 g7 C4
  go_wp2_with fail
  clear t3 f3
  refine (C5.out w2.heap.size _ (Hr.out.below S7.bel (Nat.le_refl _)) S7.rdr).mono ?_
  rintro e w8 ⟨rfl, k8, g8⟩
  have t4 := (S7.tx.kept g8 n4).cell 4
  have f4 := (S7.tx.kept g8 n4).frozen 4
  simp only [List.getElem?_cons_zero, List.getElem?_cons_succ] at t4
  have S8 := S7.step (cs' := [.int .i64 k, .string ⟨X2.toArray⟩, .string ⟨X3.toArray⟩, .int .i64 X4, .int .i64 X5]) m1 m2 n1 n2 n3 k8 g8 4 (.int .i64 X5) rfl
  clear S7 k8 g8 C5
  obtain ⟨w9, hw9⟩ : ∃ w9, w8.setCell ⟨w2.heap.size + 1, 4, none⟩ (.int .i64 X5) = w9 := ⟨_, rfl⟩
  rw [hw9] at S8
  have hb9 := S8.bel
  have r0 := S8.res.cell 0
  have gr0 := S8.res.frozen 0
  have u0 := S8.tx.cell 0
  have r1 := S8.res.cell 1
  have gr1 := S8.res.frozen 1
  have u1 := S8.tx.cell 1
  have r2 := S8.res.cell 2
  have gr2 := S8.res.frozen 2
  have u2 := S8.tx.cell 2
  have r3 := S8.res.cell 3
  have gr3 := S8.res.frozen 3
  have u3 := S8.tx.cell 3
  have r4 := S8.res.cell 4
  have gr4 := S8.res.frozen 4
  have u4 := S8.tx.cell 4
  have c1 := S8.rdr.cell 1
  have c2 := S8.rdr.cell 2
  simp only [z5, List.getElem?_cons_zero, List.getElem?_cons_succ] at r0 r1 r2 r3 r4 u0 u1 u2 u3 u4 c1 c2
  cases O5
  · have HZ : Hid (getX l p = (tx0, 0, false)) := hide (by rw [HX.out, if_neg (by simp)])
    clear HX CO S8 u0 u1 u2 u3 u4 c1
    go_wp2
    refine bodyPost_ret (v := .tuple #[.agg #[.int .i64 0, .string { data := #[] }, .string { data := #[] }, .int .i64 0, .int .i64 0], .int .i64 0, .bool false]) (by simp [results, Tryz.f154, go_sem, r0, r1, r2, r3, r4]) rfl ?_
    rw [HZ.out]
    exact ⟨rfl, (((((hb9.setCell (p := ⟨w.heap.size, 0, none⟩) (Nat.le_refl _) _).setCell (p := ⟨w.heap.size, 1, none⟩) (Nat.le_refl _) _).setCell (p := ⟨w.heap.size, 2, none⟩) (Nat.le_refl _) _).setCell (p := ⟨w.heap.size, 3, none⟩) (Nat.le_refl _) _).setCell (p := ⟨w.heap.size, 4, none⟩) (Nat.le_refl _) _)⟩
  · rw [if_pos rfl] at HX
    clear r0 r1 r2 r3 r4 gr0 gr1 gr2 gr3 gr4 c1
    go_wp2_with fail
    refine (CO.out _).mono ?_
    rintro e w10 ⟨rfl, hb10⟩
    have hB10 : Below w.heap.size w w10 := hb9.trans (hb10.mono hb9.size)
    have kR := S8.res.below hb10 S8.res.lt
    have kT := S8.tx.below hb10 S8.tx.lt
    have kB : Blk w10 w2.heap.size 101 _ := Blk.below S8.rdr hb10 (Blk.lt S8.rdr)
    clear u0 u1 u2 u3 u4 c2 hw9 t4 f4
    have r0 := kR.cell 0
    have gr0 := kR.frozen 0
    have u0 := kT.cell 0
    have gu0 := kT.frozen 0
    have r1 := kR.cell 1
    have gr1 := kR.frozen 1
    have u1 := kT.cell 1
    have gu1 := kT.frozen 1
    have r2 := kR.cell 2
    have gr2 := kR.frozen 2
    have u2 := kT.cell 2
    have gu2 := kT.frozen 2
    have r3 := kR.cell 3
    have gr3 := kR.frozen 3
    have u3 := kT.cell 3
    have gu3 := kT.frozen 3
    have r4 := kR.cell 4
    have gr4 := kR.frozen 4
    have u4 := kT.cell 4
    have gu4 := kT.frozen 4
    have c1 := kB.cell 1
    have gc1 := kB.frozen 1
    simp only [z5, List.getElem?_cons_zero, List.getElem?_cons_succ] at r0 r1 r2 r3 r4 u0 u1 u2 u3 u4 c1
    clear kR kT kB S8 hb10
    cases hx : txB (k, ⟨X2.toArray⟩, ⟨X3.toArray⟩, X4, X5)
    · have HZ : Hid (getX l p = (tx0, 0, false)) := hide (by rw [HX.out, hx]; rfl)
      clear HX CO hx
      go_wp2
      refine bodyPost_ret (v := .tuple #[.agg #[.int .i64 0, .string { data := #[] }, .string { data := #[] }, .int .i64 0, .int .i64 0], .int .i64 0, .bool false]) (by simp [results, Tryz.f154, go_sem, r0, r1, r2, r3, r4]) rfl ?_
      rw [HZ.out]
      exact ⟨rfl, (((((hB10.setCell (p := ⟨w.heap.size, 0, none⟩) (Nat.le_refl _) _).setCell (p := ⟨w.heap.size, 1, none⟩) (Nat.le_refl _) _).setCell (p := ⟨w.heap.size, 2, none⟩) (Nat.le_refl _) _).setCell (p := ⟨w.heap.size, 3, none⟩) (Nat.le_refl _) _).setCell (p := ⟨w.heap.size, 4, none⟩) (Nat.le_refl _) _)⟩
    · have HZ : Hid (getX l p = ((k, ⟨X2.toArray⟩, ⟨X3.toArray⟩, X4, X5), P5, true)) := hide (by rw [HX.out, hx]; rfl)
      clear HX CO hx
      go_wp2
      go_region
      go_wp2
      refine bodyPost_ret (v := .tuple #[.agg #[.int .i64 k, .string ⟨X2.toArray⟩, .string ⟨X3.toArray⟩, .int .i64 X4, .int .i64 X5], .int .i64 P5, .bool true]) (by simp [results, Tryz.f154, go_sem, r0, r1, r2, r3, r4]) rfl ?_
      rw [HZ.out]
      exact ⟨rfl, (((((hB10.setCell (p := ⟨w.heap.size, 0, none⟩) (Nat.le_refl _) _).setCell (p := ⟨w.heap.size, 1, none⟩) (Nat.le_refl _) _).setCell (p := ⟨w.heap.size, 2, none⟩) (Nat.le_refl _) _).setCell (p := ⟨w.heap.size, 3, none⟩) (Nat.le_refl _) _).setCell (p := ⟨w.heap.size, 4, none⟩) (Nat.le_refl _) _).drew⟩
end Go.Proofs.YtcmmdkabocfnfaaGreatDoor

namespace Go.Proofs.YtcmmdkabocfnfaaGreatDoor
open Go.RowKit
set_option linter.unusedVariables false

/-- The reader in block B is at s, over the bytes l, which lie in blocks older than w0's end. -/
structure Rd9 (w0 W : World) (B : Nat) (v : Value) (l : List UInt8) (s : St) : Prop where
  blk : ∃ p ok, Rdr W B v p ok ∧ s = (if ok = true then some p else none) ∧ 0 ≤ p ∧ p ≤ l.length
  rd : RdB w0 v l
  low : Below w0.heap.size w0 W
  lo : w0.heap.size ≤ B
  few : l.length ≤ 4000000
theorem Rd9.lt {w0 W : World} {B : Nat} {v : Value} {l : List UInt8} {s : St} (h : Rd9 w0 W B v l s) : B < W.heap.size := by
  obtain ⟨p, ok, hk, -⟩ := h.blk
  exact Blk.lt hk
theorem Rd9.oth {w0 W W' : World} {B : Nat} {v : Value} {l : List UInt8} {s : St} {S : Nat → Prop} (h : Rd9 w0 W B v l s) (O : Oth S W W') (hS : ∀ g, S g → g ≠ B ∧ w0.heap.size ≤ g) : Rd9 w0 W' B v l s := by
  obtain ⟨⟨p, ok, hk, h1⟩, h2, h3, h4, h5⟩ := h
  refine ⟨⟨p, ok, (O.block B (Blk.lt hk) (fun e => (hS B e).1 rfl)).trans hk, h1⟩, h2, h3.trans (O.below (fun g e => (hS g e).2) h3.size), h4, h5⟩
theorem Rd9.bel {w0 W W' : World} {B : Nat} {v : Value} {l : List UInt8} {s : St} (h : Rd9 w0 W B v l s) (hb : Below W.heap.size W W') : Rd9 w0 W' B v l s := h.oth (S := fun _ => False) (Oth.of_below hb) (fun _ e => e.elim)
theorem Rd9.al {w0 W : World} {B : Nat} {v : Value} {l : List UInt8} {s : St} (h : Rd9 w0 W B v l s) (o : Obj) : Rd9 w0 (W.alloc o) B v l s := h.bel ((Below.refl _ W).alloc (Nat.le_refl _) o)
theorem Rd9.set {w0 W : World} {B : Nat} {v : Value} {l : List UInt8} {s : St} (h : Rd9 w0 W B v l s) {g : Nat} (hg : g ≠ B) (hl : w0.heap.size ≤ g) (j : Nat) (u : Value) : Rd9 w0 (W.setCell ⟨g, j, none⟩ u) B v l s :=
  h.oth (S := fun k => k = g) (Oth.of_grown (grown_set W g j u) (fun k e => by cases e; rfl)) (fun k e => by subst e; exact ⟨hg, hl⟩)
theorem low_of {w0 W W' : World} {B : Nat} (h : Below w0.heap.size w0 W) (hl : w0.heap.size ≤ B) (O : Oth (fun g => g = B) W W') : Below w0.heap.size w0 W' :=
  h.trans (O.below (fun g e => by subst e; exact hl) h.size)
theorem rdNum_any {w0 W : World} {B : Nat} {v : Value} {l : List UInt8} {s : St} (h : Rd9 w0 W B v l s) :
    Calls Tryz.prog 121 #[.pointer (some ⟨B, 0, none⟩)] W fun e W' => e = .returned (.int .i64 (rN l s)) ∧ Rd9 w0 W' B v l (sN l s) ∧ Oth (fun g => g = B) W W' := by
  obtain ⟨⟨p, ok, hk, hs, h0, h1⟩, h2, h3, h4, h5⟩ := h
  refine (readNum_any v l p ok B W (h2.below h3 (Nat.le_refl _)) hk h5 (by omega) (by omega)).mono ?_
  rintro e W' ⟨rfl, hk', hg⟩
  have O : Oth (fun g => g = B) W W' := Oth.of_grown hg (fun k e => by cases e; rfl)
  have hbd := (getN_bd l p).2.2
  subst hs
  cases ok
  · exact ⟨rfl, ⟨⟨_, _, hk', rfl, h0, h1⟩, h2, low_of h3 h4 O, h4, h5⟩, O⟩
  · refine ⟨rfl, ⟨⟨_, _, hk', ?_, hbd.1, hbd.2⟩, h2, low_of h3 h4 O, h4, h5⟩, O⟩
    show (if (getN l p).2.2 = true then some (getN l p).2.1 else none) = _
    cases (getN l p).2.2 <;> rfl
theorem rdText_any {w0 W : World} {B : Nat} {v : Value} {l : List UInt8} {s : St} (h : Rd9 w0 W B v l s) :
    Calls Tryz.prog 122 #[.pointer (some ⟨B, 0, none⟩)] W fun e W' => e = .returned (.string (rT l s)) ∧ Rd9 w0 W' B v l (sT l s) ∧ Oth (fun g => g = B) W W' := by
  obtain ⟨⟨p, ok, hk, hs, h0, h1⟩, h2, h3, h4, h5⟩ := h
  refine (readText_any v l p ok B W (h2.below h3 (Nat.le_refl _)) hk h5 (by omega) (by omega)).mono ?_
  rintro e W' ⟨rfl, hk', hg⟩
  have O : Oth (fun g => g = B) W W' := Oth.of_grown hg (fun k e => by cases e; rfl)
  have hbd := getT_bd l p
  subst hs
  cases ok
  · exact ⟨rfl, ⟨⟨_, _, hk', rfl, h0, h1⟩, h2, low_of h3 h4 O, h4, h5⟩, O⟩
  · refine ⟨rfl, ⟨⟨_, _, hk', ?_, hbd.1, hbd.2⟩, h2, low_of h3 h4 O, h4, h5⟩, O⟩
    show (if (getT l p).2.2 = true then some (getT l p).2.1 else none) = _
    cases (getT l p).2.2 <;> rfl
theorem nil_ownS (base : Nat) (w : World) : OwnS base w (.slice none 0 0) [] := ⟨rfl, .inl ⟨rfl, rfl⟩⟩
theorem getNs_bd (l : List UInt8) (p : Int) : 0 ≤ (getNs l p).2.1 ∧ (getNs l p).2.1 ≤ l.length := by
  have hL : ∀ (n : Nat) (q : Int) (acc : List ByteArray) (a : List ByteArray) (x : Int), 0 ≤ q → q ≤ l.length → getL n l q acc = some (a, x) → 0 ≤ x ∧ x ≤ l.length := by
    intro n
    induction n with
    | zero => intro q acc a x h0 h1 h; simp only [getL, Option.some.injEq, Prod.mk.injEq] at h; omega
    | succ n ih =>
      intro q acc a x h0 h1 h
      unfold getL at h
      split at h
      · have := getT_bd l q
        exact ih _ _ _ _ this.1 this.2 h
      · cases h
  have hb := (getN_bd l p).2.2
  unfold getNs
  split
  · split
    · simp
    · rename_i a q hq
      exact hL _ _ _ _ _ hb.1 hb.2 hq
  · simp
theorem getX_bd (l : List UInt8) (p : Int) : 0 ≤ (getX l p).2.1 ∧ (getX l p).2.1 ≤ l.length := by
  unfold getX
  split
  · split
    · exact (getN_bd l _).2.2
    · simp
  · simp
set_option maxRecDepth 20000 in
set_option maxHeartbeats 1000000 in
theorem rdNames_any {w0 W : World} {B : Nat} {v : Value} {l : List UInt8} {s : St} (h : Rd9 w0 W B v l s) :
    Calls Tryz.prog 142 #[.pointer (some ⟨B, 0, none⟩)] W fun e W' => ∃ v', e = .returned v' ∧ OwnS W.heap.size W' v' (rS l s) ∧ Rd9 w0 W' B v l (sS l s) ∧ Oth (fun g => g = B) W W' := by
  have h' := h
  have hBl := h.lt
  obtain ⟨⟨p, ok, hk, hs, h0, h1⟩, h2, h3, h4, h5⟩ := h'
  obtain ⟨a, cap, rfl⟩ := h2.shape
  have c0 := hk.cell 0
  have c1 := hk.cell 1
  have c2 := hk.cell 2
  simp only [List.getElem?_cons_zero, List.getElem?_cons_succ] at c0 c1 c2
  subst hs
  cases ok
  · have H := hide h
    clear h h2 h3 hk
    go_enter Tryz.func142, Tryz.ntmps142
    go_wp2
    go_ret
    exact ⟨_, rfl, nil_ownS _ _, H.out, Oth.refl _ _⟩
  · have hbd := getNs_bd l p
    have HC := hide (fun V (hV : Below W.heap.size W V) => implGetNames_any (.slice a l.length cap) l p V (h2.below (h3.trans (hV.mono h3.size)) (Nat.le_refl _)) h5 (by omega) (by omega))
    have HS : Hid (∀ V, Below W.heap.size W V → V.cell? ⟨B, 0, none⟩ = some (.slice a l.length cap) ∧ V.cell? ⟨B, 1, none⟩ = some (.int .i64 p)) := hide (fun V hV => ⟨(hV.cell (p := ⟨B, 0, none⟩) hBl).trans c0, (hV.cell (p := ⟨B, 1, none⟩) hBl).trans c1⟩)
    have HF : Hid (rS l (some p) = (getNs l p).1 ∧ sS l (some p) = if (getNs l p).2.2 = true then some (getNs l p).2.1 else none) := hide ⟨rfl, rfl⟩
    have e0 : (if true = true then some p else none) = some p := rfl
    rw [e0]
    generalize rS l (some p) = R at HF ⊢
    generalize sS l (some p) = T at HF ⊢
    generalize getNs l p = G at HC HF hbd
    obtain ⟨ns, q, o⟩ := G
    simp only at HC HF hbd
    have bD : Below W.heap.size W W.drew := (Below.refl _ W).drew
    have HK := hide hk
    have H2 := hide h2
    have H3 := hide h3
    clear h h2 h3 hk
    go_enter Tryz.func142, Tryz.ntmps142
    go_wp2
    clear c0 c1 c2
    go_region_held_law (fun w' => w'.cell? ⟨B, 0, none⟩ = some (.slice a l.length cap) ∧ w'.cell? ⟨B, 1, none⟩ = some (.int .i64 p)) ((refine HS.out _ ?_; repeat (first | with_reducible exact bD | with_reducible exact c2 | with_reducible exact Below.refl _ _ | refine Below.drew ?_)))
      ((go_at_call 153; (with_reducible refine (HC.out _ bD).mono ?_); rintro e w2 ⟨v2, rfl, ho2, hb2⟩; have c2 := bD.trans (hb2.mono bD.size)))
    have k2 : Rdr w2 B (.slice a l.length cap) p true := HK.out.below c2 hBl
    have x1 := k2.cell 1
    have x2 := k2.cell 2
    have f1 := k2.frozen 1
    have f2 := k2.frozen 2
    simp only [List.getElem?_cons_zero, List.getElem?_cons_succ] at x1 x2
    obtain ⟨a2, c2', rfl⟩ := ho2.rd.shape
    have hk3 := blk_two5 k2 (.int .i64 q) (.bool o)
    have HR : Hid (Rd9 w0 ((w2.setCell ⟨B, 1, none⟩ (.int .i64 q)).setCell ⟨B, 2, none⟩ (.bool o)) B (.slice a l.length cap) l T) := hide (by
      have O : Oth (fun g => g = B) W ((w2.setCell ⟨B, 1, none⟩ (.int .i64 q)).setCell ⟨B, 2, none⟩ (.bool o)) := ((Oth.of_below c2).set (S := fun g => g = B) rfl 1 _).set rfl 2 _
      refine ⟨⟨q, o, hk3, ?_, hbd.1, hbd.2⟩, H2.out, low_of H3.out h4 O, h4, h5⟩
      rw [HF.out.2])
    have HO : Hid (Oth (fun g => g = B) W ((w2.setCell ⟨B, 1, none⟩ (.int .i64 q)).setCell ⟨B, 2, none⟩ (.bool o))) := hide (((Oth.of_below c2).set (S := fun g => g = B) rfl 1 _).set rfl 2 _)
    have hdl : W.drew.heap.size = W.heap.size := rfl
    have HN : Hid (OwnS W.heap.size ((w2.setCell ⟨B, 1, none⟩ (.int .i64 q)).setCell ⟨B, 2, none⟩ (.bool o)) (.slice a2 ns.length c2') R) := hide (by
      rw [HF.out.1]
      exact (OwnS.olderC ho2 (by rw [hdl]; exact hBl) 1 _).olderC (by rw [hdl]; exact hBl) 2 _)
    clear k2 hk3 ho2 hb2 c2
    go_wp2
    go_ret
    exact ⟨_, rfl, HN.out, HR.out, HO.out⟩
set_option maxRecDepth 20000 in
set_option maxHeartbeats 1000000 in
theorem rdCount_any {w0 W : World} {B : Nat} {v : Value} {l : List UInt8} {s : St} (m : Int) (h : Rd9 w0 W B v l s) :
    Calls Tryz.prog 143 #[.pointer (some ⟨B, 0, none⟩), .int .i64 m] W fun e W' => e = .returned (.int .i64 (cI l m s)) ∧ Rd9 w0 W' B v l (sC l m s) ∧ Oth (fun g => g = B) W W' := by
  have HN := hide (rdNum_any h)
  have HF : Hid (cI l m s = (if inB (rN l s) 0 m = true then rN l s else 0) ∧ sC l m s = if inB (rN l s) 0 m = true then sN l s else none) := hide ⟨rfl, rfl⟩
  generalize cI l m s = X at HF ⊢
  generalize sC l m s = Y at HF ⊢
  generalize rN l s = n at HF HN
  generalize sN l s = T at HF HN
  clear h
  cases hx : inB n 0 m
  · rw [hx, if_neg (by simp), if_neg (by simp)] at HF
    have HI := hide (fun V => implWithinC_any n 0 m V)
    rw [hx] at HI
    clear hx
    go_enter Tryz.func143, Tryz.ntmps143
    go_wp2_with fail
    refine HN.out.mono ?_
    rintro e w1 ⟨rfl, h1, O1⟩
    obtain ⟨⟨p, ok, hk, hs, h0, h1'⟩, h2, h3, h4, h5⟩ := h1
    have x2 := hk.cell 2
    have f2 := hk.frozen 2
    simp only [List.getElem?_cons_zero, List.getElem?_cons_succ] at x2
    have hk2 : Rdr (w1.setCell ⟨B, 2, none⟩ (.bool false)) B v p false := hk.setC 2 (.bool false)
    have O2 : Oth (fun g => g = B) W (w1.setCell ⟨B, 2, none⟩ (.bool false)) := O1.set rfl 2 _
    have HR : Hid (Rd9 w0 (w1.setCell ⟨B, 2, none⟩ (.bool false)) B v l Y) := hide ⟨⟨p, false, hk2, HF.out.2, h0, h1'⟩, h2, low_of h3 h4 ((Oth.refl (fun g => g = B) w1).set rfl 2 _), h4, h5⟩
    clear hk hs h2 h3 hk2
    go_wp2_with (go_at_call 106; refine (HI.out _).mono ?_; rintro e w4 ⟨rfl, rfl⟩)
    go_ret
    exact ⟨ret_int HF.out.1.symm, HR.out, O2⟩
  · rw [hx, if_pos rfl, if_pos rfl] at HF
    have HI := hide (fun V => implWithinC_any n 0 m V)
    rw [hx] at HI
    clear hx
    go_enter Tryz.func143, Tryz.ntmps143
    go_wp2_with fail
    refine HN.out.mono ?_
    rintro e w1 ⟨rfl, h1, O1⟩
    rw [← HF.out.2] at h1
    go_wp2_with (go_at_call 106; refine (HI.out _).mono ?_; rintro e w4 ⟨rfl, rfl⟩)
    go_ret
    exact ⟨ret_int HF.out.1.symm, h1, O1⟩
end Go.Proofs.YtcmmdkabocfnfaaGreatDoor
