/- The landed code's orders read out of bytes. The landed code's GetTx. -/
import Derived.Test.YtcmmdkabocfnfaaGreatDoorZgTxRead
import Derived.Test.YtcmmdkabocfnfaaGreatDoorZgTxOkI
namespace Go.Proofs.YtcmmdkabocfnfaaGreatDoor
open Go.RowKit
set_option linter.unusedVariables false

/-- What the reader comes to: a part that is not there ends it. -/
theorem getX_run {l : List UInt8} {p k p1 P2 P3 P4 P5 X4 X5 : Int} {o1 O2 O3 O4 O5 : Bool} {X2 X3 : List UInt8} (h1 : getN l p = (k, p1, o1))
    (hX2 : (if o1 = true then (getT l p1).1 else []) = X2) (hP2 : (if o1 = true then (getT l p1).2.1 else p1) = P2) (hO2 : (o1 && (getT l p1).2.2) = O2)
    (hX3 : (if O2 = true then (getT l P2).1 else []) = X3) (hP3 : (if O2 = true then (getT l P2).2.1 else P2) = P3) (hO3 : (O2 && (getT l P2).2.2) = O3)
    (hX4 : (if O3 = true then (getN l P3).1 else 0) = X4) (hP4 : (if O3 = true then (getN l P3).2.1 else P3) = P4) (hO4 : (O3 && (getN l P3).2.2) = O4)
    (hX5 : (if O4 = true then (getN l P4).1 else 0) = X5) (hP5 : (if O4 = true then (getN l P4).2.1 else P4) = P5) (hO5 : (O4 && (getN l P4).2.2) = O5) :
    getX l p = if O5 = true then (if txB (k, ⟨X2.toArray⟩, ⟨X3.toArray⟩, X4, X5) = true then ((k, ⟨X2.toArray⟩, ⟨X3.toArray⟩, X4, X5), P5, true) else (tx0, 0, false)) else (tx0, 0, false) := by
  obtain ⟨f, p2, o2, h2⟩ : ∃ x y z, getT l p1 = (x, y, z) := ⟨_, _, _, rfl⟩
  obtain ⟨to, p3, o3, h3⟩ : ∃ x y z, getT l p2 = (x, y, z) := ⟨_, _, _, rfl⟩
  obtain ⟨am, p4, o4, h4⟩ : ∃ x y z, getN l p3 = (x, y, z) := ⟨_, _, _, rfl⟩
  obtain ⟨no, p5, o5, h5⟩ : ∃ x y z, getN l p4 = (x, y, z) := ⟨_, _, _, rfl⟩
  rw [getX_is h1 h2 h3 h4 h5]
  cases o1
  · simp only [Bool.false_and] at hO2
    subst hO2
    simp only [Bool.false_and] at hO3
    subst hO3
    simp only [Bool.false_and] at hO4
    subst hO4
    simp only [Bool.false_and] at hO5
    subst hO5
    simp
  · rw [if_pos rfl, h2] at hX2 hP2
    rw [Bool.true_and, h2] at hO2
    simp only at hX2 hP2 hO2
    subst hX2 hP2 hO2
    cases o2
    · simp only [Bool.false_and] at hO3
      subst hO3
      simp only [Bool.false_and] at hO4
      subst hO4
      simp only [Bool.false_and] at hO5
      subst hO5
      simp
    · rw [if_pos rfl, h3] at hX3 hP3
      rw [Bool.true_and, h3] at hO3
      simp only at hX3 hP3 hO3
      subst hX3 hP3 hO3
      cases o3
      · simp only [Bool.false_and] at hO4
        subst hO4
        simp only [Bool.false_and] at hO5
        subst hO5
        simp
      · rw [if_pos rfl, h4] at hX4 hP4
        rw [Bool.true_and, h4] at hO4
        simp only at hX4 hP4 hO4
        subst hX4 hP4 hO4
        cases o4
        · simp only [Bool.false_and] at hO5
          subst hO5
          simp
        · rw [if_pos rfl, h5] at hX5 hP5
          rw [Bool.true_and, h5] at hO5
          simp only at hX5 hP5 hO5
          subst hX5 hP5 hO5
          simp
theorem stepT_bd (l : List UInt8) (p : Int) (o : Bool) (h : 0 ≤ p ∧ p ≤ l.length) : 0 ≤ (if o = true then (getT l p).2.1 else p) ∧ (if o = true then (getT l p).2.1 else p) ≤ l.length := by
  split
  · exact getT_bd5 l p
  · exact h
theorem stepN_bd (l : List UInt8) (p : Int) (o : Bool) (h : 0 ≤ p ∧ p ≤ l.length) : 0 ≤ (if o = true then (getN l p).2.1 else p) ∧ (if o = true then (getN l p).2.1 else p) ≤ l.length := by
  split
  · exact (getN_bd l p).2.2
  · exact h
theorem stepX_len (l : List UInt8) (p : Int) (o : Bool) : (if o = true then (getT l p).1 else []).length ≤ l.length := by
  split
  · exact getT_len5 l p
  · simp

def z5 : List Value := [.int .i64 0, .string { data := #[] }, .string { data := #[] }, .int .i64 0, .int .i64 0]
/-- Half way: the reader at B, the order at T, the answer at R, the bytes as they were. -/
structure Sg (w : World) (v : Value) (l : List UInt8) (R B T : Nat) (W : World) (cs : List Value) (p : Int) (ok : Bool) : Prop where
  rdr : Rdr W B v p ok
  tx : Blk W T 52 cs
  res : Blk W R 52 z5
  bel : Below w.heap.size w W
theorem blk_other1 {W : World} {B b j : Nat} {t : TypeId} {cs : List Value} {y : Value} (h : Blk W B t cs) (hne : B ≠ b) : Blk (W.setCell ⟨b, j, none⟩ y) B t cs := by
  unfold Blk
  rw [heap_setCell_other _ ⟨b, j, none⟩ B _ hne]
  exact h
theorem Sg.step {w : World} {v : Value} {l : List UInt8} {R B T : Nat} {W W' : World} {cs cs' : List Value} {p p' : Int} {ok ok' : Bool} (h : Sg w v l R B T W cs p ok) (hB : w.heap.size ≤ B) (hT : w.heap.size ≤ T) (h1 : B ≠ T) (h2 : R ≠ B) (h3 : R ≠ T)
    (hk : Rdr W' B v p' ok') (hg : W.grownBy W' (some B)) (j : Nat) (x : Value) (hc : cs.toArray.setIfInBounds j x = cs'.toArray) : Sg w v l R B T (W'.setCell ⟨T, j, none⟩ x) cs' p' ok' := by
  refine ⟨blk_other1 hk h1, ?_, blk_other1 (h.res.kept hg (fun e => h2 (by injection e))) h3, ?_⟩
  · have e := heap_setCell_same W' T j cs.toArray 52 x (h.tx.kept hg (fun e => h1 (by injection e with e; exact e.symm)))
    unfold Blk
    rw [e, hc]
  · exact (h.bel.grown hg h.bel.size (fun k hk => by cases hk; exact hB)).setCell (p := ⟨T, j, none⟩) hT x
end Go.Proofs.YtcmmdkabocfnfaaGreatDoor

namespace Go.Proofs.YtcmmdkabocfnfaaGreatDoor
open Go.RowKit
set_option linter.unusedVariables false

set_option maxRecDepth 20000 in
set_option maxHeartbeats 4000000 in
theorem implGetTx_any (v : Value) (l : List UInt8) (p : Int) (w : World) (hr : RdB w v l) (hl : l.length ≤ 4000000) (hp1 : -9223372036854775808 ≤ p) (hp2 : p ≤ 9223372036854775807) :
    Calls Tryz.prog 154 #[v, .int .i64 p] w fun e w' => e = .returned (.tuple #[txV (getX l p).1, .int .i64 (getX l p).2.1, .bool (getX l p).2.2]) ∧ Below w.heap.size w w' := by
  have q1 := (getN_bd l p).2.2
  obtain ⟨k, p1, o1, h1⟩ : ∃ x y z, getN l p = (x, y, z) := ⟨_, _, _, rfl⟩
  rw [h1] at q1
  simp only at q1
  have q2 := stepT_bd l p1 o1 q1
  have z2 := stepX_len l p1 o1
  obtain ⟨X2, hX2⟩ : ∃ x, (if o1 = true then (getT l p1).1 else []) = x := ⟨_, rfl⟩
  obtain ⟨P2, hP2⟩ : ∃ x, (if o1 = true then (getT l p1).2.1 else p1) = x := ⟨_, rfl⟩
  obtain ⟨O2, hO2⟩ : ∃ x, (o1 && (getT l p1).2.2) = x := ⟨_, rfl⟩
  rw [hP2] at q2
  rw [hX2] at z2
  have q3 := stepT_bd l P2 O2 q2
  have z3 := stepX_len l P2 O2
  obtain ⟨X3, hX3⟩ : ∃ x, (if O2 = true then (getT l P2).1 else []) = x := ⟨_, rfl⟩
  obtain ⟨P3, hP3⟩ : ∃ x, (if O2 = true then (getT l P2).2.1 else P2) = x := ⟨_, rfl⟩
  obtain ⟨O3, hO3⟩ : ∃ x, (O2 && (getT l P2).2.2) = x := ⟨_, rfl⟩
  rw [hP3] at q3
  rw [hX3] at z3
  have q4 := stepN_bd l P3 O3 q3
  obtain ⟨X4, hX4⟩ : ∃ x, (if O3 = true then (getN l P3).1 else 0) = x := ⟨_, rfl⟩
  obtain ⟨P4, hP4⟩ : ∃ x, (if O3 = true then (getN l P3).2.1 else P3) = x := ⟨_, rfl⟩
  obtain ⟨O4, hO4⟩ : ∃ x, (O3 && (getN l P3).2.2) = x := ⟨_, rfl⟩
  rw [hP4] at q4
  obtain ⟨X5, hX5⟩ : ∃ x, (if O4 = true then (getN l P4).1 else 0) = x := ⟨_, rfl⟩
  obtain ⟨P5, hP5⟩ : ∃ x, (if O4 = true then (getN l P4).2.1 else P4) = x := ⟨_, rfl⟩
  obtain ⟨O5, hO5⟩ : ∃ x, (O4 && (getN l P4).2.2) = x := ⟨_, rfl⟩
  have HX := hide (getX_run h1 hX2 hP2 hO2 hX3 hP3 hO3 hX4 hP4 hO4 hX5 hP5 hO5)
  have C1 := hide (fun B W h1 h2 => readNum_any v l p true B W h1 h2 hl hp1 hp2)
  have C2 := hide (fun B W h1 h2 => readText_any v l p1 o1 B W h1 h2 hl (by omega) (by omega))
  have C3 := hide (fun B W h1 h2 => readText_any v l P2 O2 B W h1 h2 hl (by omega) (by omega))
  have C4 := hide (fun B W h1 h2 => readNum_any v l P3 O3 B W h1 h2 hl (by omega) (by omega))
  have C5 := hide (fun B W h1 h2 => readNum_any v l P4 O4 B W h1 h2 hl (by omega) (by omega))
  rw [if_pos rfl, h1, if_pos rfl, Bool.true_and] at C1
  rw [hX2, hP2, hO2] at C2
  rw [hX3, hP3, hO3] at C3
  rw [hX4, hP4, hO4] at C4
  rw [hX5, hP5, hO5] at C5
  have CO := hide (fun W => implTxOk_any (k, ⟨X2.toArray⟩, ⟨X3.toArray⟩, X4, X5) W (by unfold maxLen; show X2.toArray.size ≤ _; simp; omega) (by unfold maxLen; show X3.toArray.size ≤ _; simp; omega))
  simp only [txV] at CO
  clear h1 hX2 hP2 hO2 hX3 hP3 hO3 hX4 hP4 hO4 hX5 hP5 hO5 q1 q2 q3 q4 z2 z3
  obtain ⟨a, cap, rfl⟩ := hr.shape
  go_enter Tryz.func154, Tryz.ntmps154
  go_wp2_with fail
  refine (readerAt_any _ l.length cap a p _ rfl).mono ?_
  rintro e w2 ⟨rfl, hb2⟩
  have hB2 : Below w.heap.size w w2 := ((Below.refl _ w).alloc (Nat.le_refl _) _).trans (hb2.mono (by simp))
  have hs2 : w.heap.size + 1 ≤ w2.heap.size := by have := hb2.size; simpa using this
  have kR2 : Blk w2 w.heap.size 52 z5 := (Blk.new w 52 z5).below hb2 (by simp)
  clear hb2
  go_wp2_with fail
  obtain ⟨w3, hw3⟩ : ∃ w3, (w2.alloc (.cells #[.slice a l.length cap, .int .i64 p, .bool true] 101)).alloc (.cells #[.int .i64 0, .string { data := #[] }, .string { data := #[] }, .int .i64 0, .int .i64 0] 52) = w3 := ⟨_, rfl⟩
  rw [hw3]
  have S3 : Sg w (.slice a l.length cap) l w.heap.size w2.heap.size (w2.heap.size + 1) w3 z5 p true := by
    have b1 : Below w2.heap.size w2 w3 := by rw [← hw3]; exact ((Below.refl _ w2).alloc (Nat.le_refl _) _).alloc (by simp) _
    refine ⟨?_, ?_, kR2.below b1 (by omega), hB2.trans (b1.mono (by omega))⟩
    · rw [← hw3]
      exact (Blk.new w2 101 [.slice a l.length cap, .int .i64 p, .bool true]).below ((Below.refl (w2.heap.size + 1) _).alloc (by simp) _) (by omega)
    · rw [← hw3]
      have h := Blk.new (w2.alloc (.cells #[.slice a l.length cap, .int .i64 p, .bool true] 101)) 52 z5
      rw [World.size_alloc] at h
      exact h
  clear kR2 hB2 hw3
  have n1 : w2.heap.size ≠ w2.heap.size + 1 := by omega
  have n2 : w.heap.size ≠ w2.heap.size := by omega
  have n3 : w.heap.size ≠ w2.heap.size + 1 := by omega
  have m1 : w.heap.size ≤ w2.heap.size := by omega
  have m2 : w.heap.size ≤ w2.heap.size + 1 := by omega
  have n4 : some (w2.heap.size + 1) ≠ some w2.heap.size := by intro e; injection e; omega
  have Hr := hide hr
  clear hr
  refine (C1.out w2.heap.size w3 (Hr.out.below S3.bel (Nat.le_refl _)) S3.rdr).mono ?_
  rintro e w4 ⟨rfl, k4, g4⟩
  have t0 := (S3.tx.kept g4 n4).cell 0
  have f0 := (S3.tx.kept g4 n4).frozen 0
  simp only [z5, List.getElem?_cons_zero] at t0
  have S4 := S3.step (cs' := [.int .i64 k, .string { data := #[] }, .string { data := #[] }, .int .i64 0, .int .i64 0]) m1 m2 n1 n2 n3 k4 g4 0 (.int .i64 k) rfl
  clear S3 k4 g4 C1
  go_wp2_with fail
  clear t0 f0
  refine (C2.out w2.heap.size _ (Hr.out.below S4.bel (Nat.le_refl _)) S4.rdr).mono ?_
  rintro e w5 ⟨rfl, k5, g5⟩
  have t1 := (S4.tx.kept g5 n4).cell 1
  have f1 := (S4.tx.kept g5 n4).frozen 1
  simp only [List.getElem?_cons_zero, List.getElem?_cons_succ] at t1
  have S5 := S4.step (cs' := [.int .i64 k, .string ⟨X2.toArray⟩, .string { data := #[] }, .int .i64 0, .int .i64 0]) m1 m2 n1 n2 n3 k5 g5 1 (.string ⟨X2.toArray⟩) rfl
  clear S4 k5 g5 C2
  go_wp2_with fail
  clear t1 f1
  refine (C3.out w2.heap.size _ (Hr.out.below S5.bel (Nat.le_refl _)) S5.rdr).mono ?_
  rintro e w6 ⟨rfl, k6, g6⟩
  have t2 := (S5.tx.kept g6 n4).cell 2
  have f2 := (S5.tx.kept g6 n4).frozen 2
  simp only [List.getElem?_cons_zero, List.getElem?_cons_succ] at t2
  have S6 := S5.step (cs' := [.int .i64 k, .string ⟨X2.toArray⟩, .string ⟨X3.toArray⟩, .int .i64 0, .int .i64 0]) m1 m2 n1 n2 n3 k6 g6 2 (.string ⟨X3.toArray⟩) rfl
  clear S5 k6 g6 C3
  go_wp2_with fail
  clear t2 f2
  refine (C4.out w2.heap.size _ (Hr.out.below S6.bel (Nat.le_refl _)) S6.rdr).mono ?_
  rintro e w7 ⟨rfl, k7, g7⟩
  have t3 := (S6.tx.kept g7 n4).cell 3
  have f3 := (S6.tx.kept g7 n4).frozen 3
  simp only [List.getElem?_cons_zero, List.getElem?_cons_succ] at t3
  have S7 := S6.step (cs' := [.int .i64 k, .string ⟨X2.toArray⟩, .string ⟨X3.toArray⟩, .int .i64 X4, .int .i64 0]) m1 m2 n1 n2 n3 k7 g7 3 (.int .i64 X4) rfl
  clear S6 k7 g7 C4
  go_wp2_with fail
  clear t3 f3
  refine (C5.out w2.heap.size _ (Hr.out.below S7.bel (Nat.le_refl _)) S7.rdr).mono ?_
  rintro e w8 ⟨rfl, k8, g8⟩
  have t4 := (S7.tx.kept g8 n4).cell 4
  have f4 := (S7.tx.kept g8 n4).frozen 4
  simp only [List.getElem?_cons_zero, List.getElem?_cons_succ] at t4
  have S8 := S7.step (cs' := [.int .i64 k, .string ⟨X2.toArray⟩, .string ⟨X3.toArray⟩, .int .i64 X4, .int .i64 X5]) m1 m2 n1 n2 n3 k8 g8 4 (.int .i64 X5) rfl
  clear S7 k8 g8 C5
  obtain ⟨w9, hw9⟩ : ∃ w9, w8.setCell ⟨w2.heap.size + 1, 4, none⟩ (.int .i64 X5) = w9 := ⟨_, rfl⟩
  rw [hw9] at S8
  have hb9 := S8.bel
  have r0 := S8.res.cell 0
  have gr0 := S8.res.frozen 0
  have u0 := S8.tx.cell 0
  have r1 := S8.res.cell 1
  have gr1 := S8.res.frozen 1
  have u1 := S8.tx.cell 1
  have r2 := S8.res.cell 2
  have gr2 := S8.res.frozen 2
  have u2 := S8.tx.cell 2
  have r3 := S8.res.cell 3
  have gr3 := S8.res.frozen 3
  have u3 := S8.tx.cell 3
  have r4 := S8.res.cell 4
  have gr4 := S8.res.frozen 4
  have u4 := S8.tx.cell 4
  have c1 := S8.rdr.cell 1
  have c2 := S8.rdr.cell 2
  simp only [z5, List.getElem?_cons_zero, List.getElem?_cons_succ] at r0 r1 r2 r3 r4 u0 u1 u2 u3 u4 c1 c2
  cases O5
  · have HZ : Hid (getX l p = (tx0, 0, false)) := hide (by rw [HX.out, if_neg (by simp)])
    clear HX CO S8 u0 u1 u2 u3 u4 c1
    go_wp2
    refine bodyPost_ret (v := .tuple #[.agg #[.int .i64 0, .string { data := #[] }, .string { data := #[] }, .int .i64 0, .int .i64 0], .int .i64 0, .bool false]) (by simp [results, Tryz.f154, go_sem, r0, r1, r2, r3, r4]) rfl ?_
    rw [HZ.out]
    exact ⟨rfl, (((((hb9.setCell (p := ⟨w.heap.size, 0, none⟩) (Nat.le_refl _) _).setCell (p := ⟨w.heap.size, 1, none⟩) (Nat.le_refl _) _).setCell (p := ⟨w.heap.size, 2, none⟩) (Nat.le_refl _) _).setCell (p := ⟨w.heap.size, 3, none⟩) (Nat.le_refl _) _).setCell (p := ⟨w.heap.size, 4, none⟩) (Nat.le_refl _) _)⟩
  · rw [if_pos rfl] at HX
    clear r0 r1 r2 r3 r4 gr0 gr1 gr2 gr3 gr4 c1
    go_wp2_with fail
    refine (CO.out _).mono ?_
    rintro e w10 ⟨rfl, hb10⟩
    have hB10 : Below w.heap.size w w10 := hb9.trans (hb10.mono hb9.size)
    have kR := S8.res.below hb10 S8.res.lt
    have kT := S8.tx.below hb10 S8.tx.lt
    have kB : Blk w10 w2.heap.size 101 _ := Blk.below S8.rdr hb10 (Blk.lt S8.rdr)
    clear u0 u1 u2 u3 u4 c2 hw9 t4 f4
    have r0 := kR.cell 0
    have gr0 := kR.frozen 0
    have u0 := kT.cell 0
    have gu0 := kT.frozen 0
    have r1 := kR.cell 1
    have gr1 := kR.frozen 1
    have u1 := kT.cell 1
    have gu1 := kT.frozen 1
    have r2 := kR.cell 2
    have gr2 := kR.frozen 2
    have u2 := kT.cell 2
    have gu2 := kT.frozen 2
    have r3 := kR.cell 3
    have gr3 := kR.frozen 3
    have u3 := kT.cell 3
    have gu3 := kT.frozen 3
    have r4 := kR.cell 4
    have gr4 := kR.frozen 4
    have u4 := kT.cell 4
    have gu4 := kT.frozen 4
    have c1 := kB.cell 1
    have gc1 := kB.frozen 1
    simp only [z5, List.getElem?_cons_zero, List.getElem?_cons_succ] at r0 r1 r2 r3 r4 u0 u1 u2 u3 u4 c1
    clear kR kT kB S8 hb10
    cases hx : txB (k, ⟨X2.toArray⟩, ⟨X3.toArray⟩, X4, X5)
    · have HZ : Hid (getX l p = (tx0, 0, false)) := hide (by rw [HX.out, hx]; rfl)
      clear HX CO hx
      go_wp2
      refine bodyPost_ret (v := .tuple #[.agg #[.int .i64 0, .string { data := #[] }, .string { data := #[] }, .int .i64 0, .int .i64 0], .int .i64 0, .bool false]) (by simp [results, Tryz.f154, go_sem, r0, r1, r2, r3, r4]) rfl ?_
      rw [HZ.out]
      exact ⟨rfl, (((((hB10.setCell (p := ⟨w.heap.size, 0, none⟩) (Nat.le_refl _) _).setCell (p := ⟨w.heap.size, 1, none⟩) (Nat.le_refl _) _).setCell (p := ⟨w.heap.size, 2, none⟩) (Nat.le_refl _) _).setCell (p := ⟨w.heap.size, 3, none⟩) (Nat.le_refl _) _).setCell (p := ⟨w.heap.size, 4, none⟩) (Nat.le_refl _) _)⟩
    · have HZ : Hid (getX l p = ((k, ⟨X2.toArray⟩, ⟨X3.toArray⟩, X4, X5), P5, true)) := hide (by rw [HX.out, hx]; rfl)
      clear HX CO hx
      go_wp2
      go_region
      go_wp2
      refine bodyPost_ret (v := .tuple #[.agg #[.int .i64 k, .string ⟨X2.toArray⟩, .string ⟨X3.toArray⟩, .int .i64 X4, .int .i64 X5], .int .i64 P5, .bool true]) (by simp [results, Tryz.f154, go_sem, r0, r1, r2, r3, r4]) rfl ?_
      rw [HZ.out]
      exact ⟨rfl, (((((hB10.setCell (p := ⟨w.heap.size, 0, none⟩) (Nat.le_refl _) _).setCell (p := ⟨w.heap.size, 1, none⟩) (Nat.le_refl _) _).setCell (p := ⟨w.heap.size, 2, none⟩) (Nat.le_refl _) _).setCell (p := ⟨w.heap.size, 3, none⟩) (Nat.le_refl _) _).setCell (p := ⟨w.heap.size, 4, none⟩) (Nat.le_refl _) _).drew⟩
end Go.Proofs.YtcmmdkabocfnfaaGreatDoor
