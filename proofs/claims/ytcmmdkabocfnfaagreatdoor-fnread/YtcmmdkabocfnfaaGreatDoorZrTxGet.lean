/- The model's orders read out of bytes. -/
import Derived.Test.YtcmmdkabocfnfaaGreatDoorZrTxPut
import Derived.Test.YtcmmdkabocfnfaaGreatDoorZrRoundText
import Derived.Test.YtcmmdkabocfnfaaGreatDoorZrTxBlk
namespace Go.Proofs.YtcmmdkabocfnfaaGreatDoor
open Go.RowKit
set_option linter.unusedVariables false

def tx0 : Tx5 := (0, ByteArray.empty, ByteArray.empty, 0, 0)
/-- What GetTx answers: the order, where it ends, whether it is one. -/
def getX (l : List UInt8) (p : Int) : Tx5 × Int × Bool :=
  if ((getN l p).2.2 && ((getT l (getN l p).2.1).2.2 && ((getT l (getT l (getN l p).2.1).2.1).2.2 && ((getN l (getT l (getT l (getN l p).2.1).2.1).2.1).2.2 && (getN l (getN l (getT l (getT l (getN l p).2.1).2.1).2.1).2.1).2.2)))) = true then
    (if txB ((getN l p).1, ⟨(getT l (getN l p).2.1).1.toArray⟩, ⟨(getT l (getT l (getN l p).2.1).2.1).1.toArray⟩, (getN l (getT l (getT l (getN l p).2.1).2.1).2.1).1, (getN l (getN l (getT l (getT l (getN l p).2.1).2.1).2.1).2.1).1) = true then
      (((getN l p).1, ⟨(getT l (getN l p).2.1).1.toArray⟩, ⟨(getT l (getT l (getN l p).2.1).2.1).1.toArray⟩, (getN l (getT l (getT l (getN l p).2.1).2.1).2.1).1, (getN l (getN l (getT l (getT l (getN l p).2.1).2.1).2.1).2.1).1), (getN l (getN l (getT l (getT l (getN l p).2.1).2.1).2.1).2.1).2.1, true)
    else (tx0, 0, false))
  else (tx0, 0, false)
theorem getX_is {l : List UInt8} {p k p1 p2 p3 am p4 no p5 : Int} {f to : List UInt8} {o1 o2 o3 o4 o5 : Bool} (h1 : getN l p = (k, p1, o1)) (h2 : getT l p1 = (f, p2, o2)) (h3 : getT l p2 = (to, p3, o3)) (h4 : getN l p3 = (am, p4, o4)) (h5 : getN l p4 = (no, p5, o5)) :
    getX l p = if (o1 && (o2 && (o3 && (o4 && o5)))) = true then (if txB (k, ⟨f.toArray⟩, ⟨to.toArray⟩, am, no) = true then ((k, ⟨f.toArray⟩, ⟨to.toArray⟩, am, no), p5, true) else (tx0, 0, false)) else (tx0, 0, false) := by
  unfold getX
  simp only [h1, h2, h3, h4, h5]
theorem getT_bd5 (l : List UInt8) (p : Int) : 0 ≤ (getT l p).2.1 ∧ (getT l p).2.1 ≤ l.length := by
  have h := getN_bd l p
  unfold getT
  split
  · simp only; omega
  · simp
theorem getT_len5 (l : List UInt8) (p : Int) : (getT l p).1.length ≤ l.length := by
  unfold getT
  split
  · simp only [List.length_take, List.length_drop]; omega
  · simp
theorem tx0V : txV tx0 = .agg #[.int .i64 0, .string { data := #[] }, .string { data := #[] }, .int .i64 0, .int .i64 0] := rfl
set_option maxRecDepth 20000 in
set_option maxHeartbeats 4000000 in
theorem specGetTx_any (v : Value) (l : List UInt8) (p : Int) (w : World) (hr : RdB w v l) (hl : l.length ≤ 4000000) (hp1 : -9223372036854775808 ≤ p) (hp2 : p ≤ 9223372036854775807) :
    Calls Tryz.prog 26 #[v, .int .i64 p] w fun e w' => e = .returned (.tuple #[txV (getX l p).1, .int .i64 (getX l p).2.1, .bool (getX l p).2.2]) ∧ Below w.heap.size w w' := by
  have n1 := getN_bd l p
  obtain ⟨k, p1, o1, h1⟩ : ∃ x y z, getN l p = (x, y, z) := ⟨_, _, _, rfl⟩
  rw [h1] at n1
  simp only at n1
  have n2 := getT_bd5 l p1
  have z2 := getT_len5 l p1
  obtain ⟨f, p2, o2, h2⟩ : ∃ x y z, getT l p1 = (x, y, z) := ⟨_, _, _, rfl⟩
  rw [h2] at n2 z2
  simp only at n2 z2
  have n3 := getT_bd5 l p2
  have z3 := getT_len5 l p2
  obtain ⟨to, p3, o3, h3⟩ : ∃ x y z, getT l p2 = (x, y, z) := ⟨_, _, _, rfl⟩
  rw [h3] at n3 z3
  simp only at n3 z3
  have n4 := getN_bd l p3
  obtain ⟨am, p4, o4, h4⟩ : ∃ x y z, getN l p3 = (x, y, z) := ⟨_, _, _, rfl⟩
  rw [h4] at n4
  simp only at n4
  obtain ⟨no, p5, o5, h5⟩ : ∃ x y z, getN l p4 = (x, y, z) := ⟨_, _, _, rfl⟩
  have HX := hide (getX_is h1 h2 h3 h4 h5)
  have C1 := hide (fun W h => specGetNum_any v l p W h hl hp1 hp2)
  have C2 := hide (fun W h => specGetText_any v l p1 W h hl (by omega) (by omega))
  have C3 := hide (fun W h => specGetText_any v l p2 W h hl (by omega) (by omega))
  have C4 := hide (fun W h => specGetNum_any v l p3 W h hl (by omega) (by omega))
  have C5 := hide (fun W h => specGetNum_any v l p4 W h hl (by omega) (by omega))
  have CO := hide (fun W => specTxOk_any (k, ⟨f.toArray⟩, ⟨to.toArray⟩, am, no) W (by unfold maxLen; show f.toArray.size ≤ _; simp; omega) (by unfold maxLen; show to.toArray.size ≤ _; simp; omega))
  rw [h1] at C1
  rw [h2] at C2
  rw [h3] at C3
  rw [h4] at C4
  rw [h5] at C5
  simp only [tri, trs, txV] at C1 C2 C3 C4 C5 CO
  clear h1 h2 h3 h4 h5 n1 n2 n3 n4 z2 z3
  go_enter Tryz.func26, Tryz.ntmps26
  go_wp2_with fail
  obtain ⟨w1, hw1⟩ : ∃ w1, (w.alloc (.cells #[.int .i64 0, .string { data := #[] }, .string { data := #[] }, .int .i64 0, .int .i64 0] 52)).alloc (.cells #[.int .i64 0, .string { data := #[] }, .string { data := #[] }, .int .i64 0, .int .i64 0] 52) = w1 := ⟨_, rfl⟩
  rw [hw1]
  have hb1 : Below w.heap.size w w1 := by rw [← hw1]; exact ((Below.refl _ w).alloc (Nat.le_refl _) _).alloc (by simp) _
  have kR : w1.heap[w.heap.size]? = some (.cells #[.int .i64 0, .string { data := #[] }, .string { data := #[] }, .int .i64 0, .int .i64 0] 52 (0, 0)) := by
    rw [← hw1]
    have h := heap_alloc_new w (.cells #[.int .i64 0, .string { data := #[] }, .string { data := #[] }, .int .i64 0, .int .i64 0] 52)
    rw [((Below.refl (w.heap.size + 1) _).alloc (by simp) _).block w.heap.size (by omega)]
    exact h
  have kT : w1.heap[w.heap.size + 1]? = some (.cells #[.int .i64 0, .string { data := #[] }, .string { data := #[] }, .int .i64 0, .int .i64 0] 52 (0, 0)) := by
    rw [← hw1]
    have h := heap_alloc_new (w.alloc (.cells #[.int .i64 0, .string { data := #[] }, .string { data := #[] }, .int .i64 0, .int .i64 0] 52)) (.cells #[.int .i64 0, .string { data := #[] }, .string { data := #[] }, .int .i64 0, .int .i64 0] 52)
    rw [World.size_alloc] at h
    exact h
  have r0 : w1.cell? ⟨w.heap.size, 0, none⟩ = some (.int .i64 0) := by simp [World.cell?, kR]
  have gr0 : w1.frozen? ⟨w.heap.size, 0, none⟩ = false := by simp [World.frozen?, kR]
  have r1 : w1.cell? ⟨w.heap.size, 1, none⟩ = some (.string { data := #[] }) := by simp [World.cell?, kR]
  have gr1 : w1.frozen? ⟨w.heap.size, 1, none⟩ = false := by simp [World.frozen?, kR]
  have r2 : w1.cell? ⟨w.heap.size, 2, none⟩ = some (.string { data := #[] }) := by simp [World.cell?, kR]
  have gr2 : w1.frozen? ⟨w.heap.size, 2, none⟩ = false := by simp [World.frozen?, kR]
  have r3 : w1.cell? ⟨w.heap.size, 3, none⟩ = some (.int .i64 0) := by simp [World.cell?, kR]
  have gr3 : w1.frozen? ⟨w.heap.size, 3, none⟩ = false := by simp [World.frozen?, kR]
  have r4 : w1.cell? ⟨w.heap.size, 4, none⟩ = some (.int .i64 0) := by simp [World.cell?, kR]
  have gr4 : w1.frozen? ⟨w.heap.size, 4, none⟩ = false := by simp [World.frozen?, kR]
  have t0 : w1.cell? ⟨w.heap.size + 1, 0, none⟩ = some (.int .i64 0) := by simp [World.cell?, kT]
  have gt0 : w1.frozen? ⟨w.heap.size + 1, 0, none⟩ = false := by simp [World.frozen?, kT]
  have t1 : w1.cell? ⟨w.heap.size + 1, 1, none⟩ = some (.string { data := #[] }) := by simp [World.cell?, kT]
  have gt1 : w1.frozen? ⟨w.heap.size + 1, 1, none⟩ = false := by simp [World.frozen?, kT]
  have t2 : w1.cell? ⟨w.heap.size + 1, 2, none⟩ = some (.string { data := #[] }) := by simp [World.cell?, kT]
  have gt2 : w1.frozen? ⟨w.heap.size + 1, 2, none⟩ = false := by simp [World.frozen?, kT]
  have t3 : w1.cell? ⟨w.heap.size + 1, 3, none⟩ = some (.int .i64 0) := by simp [World.cell?, kT]
  have gt3 : w1.frozen? ⟨w.heap.size + 1, 3, none⟩ = false := by simp [World.frozen?, kT]
  have t4 : w1.cell? ⟨w.heap.size + 1, 4, none⟩ = some (.int .i64 0) := by simp [World.cell?, kT]
  have gt4 : w1.frozen? ⟨w.heap.size + 1, 4, none⟩ = false := by simp [World.frozen?, kT]
  have Hr1 := hide (hr.below hb1 (Nat.le_refl _))
  have KR : Hid (Blk w1 w.heap.size 52 [.int .i64 0, .string { data := #[] }, .string { data := #[] }, .int .i64 0, .int .i64 0]) := hide kR
  have KT : Hid (Blk w1 (w.heap.size + 1) 52 [.int .i64 0, .string { data := #[] }, .string { data := #[] }, .int .i64 0, .int .i64 0]) := hide kT
  have hs1 : w.heap.size + 1 < w1.heap.size := (Array.getElem?_eq_some_iff.1 kT).1
  clear hr kR kT
  refine (C1.out _ Hr1.out).mono ?_
  rintro e w1 ⟨rfl, rfl⟩
  go_wp2_with fail
  refine (C2.out _ Hr1.out).mono ?_
  rintro e w1 ⟨rfl, rfl⟩
  go_wp2_with fail
  refine (C3.out _ Hr1.out).mono ?_
  rintro e w1 ⟨rfl, rfl⟩
  go_wp2_with fail
  refine (C4.out _ Hr1.out).mono ?_
  rintro e w1 ⟨rfl, rfl⟩
  go_wp2_with fail
  refine (C5.out _ Hr1.out).mono ?_
  rintro e w1 ⟨rfl, rfl⟩
  by_cases hok : (o1 && (o2 && (o3 && (o4 && o5)))) = true
  · have ⟨q1, q2, q3, q4, q5⟩ : o1 = true ∧ o2 = true ∧ o3 = true ∧ o4 = true ∧ o5 = true := by simpa using hok
    subst q1 q2 q3 q4 q5
    clear hok C1 C2 C3 C4 C5
    go_wp2_with fail
    have kT2 := blk_put5 KT.out (.int .i64 k) (.string ⟨f.toArray⟩) (.string ⟨to.toArray⟩) (.int .i64 am) (.int .i64 no)
    have kR2 := blk_other5 KR.out (show w.heap.size ≠ w.heap.size + 1 by omega) (.int .i64 k) (.string ⟨f.toArray⟩) (.string ⟨to.toArray⟩) (.int .i64 am) (.int .i64 no)
    have hbW : Below w.heap.size w (((((w1.setCell ⟨w.heap.size + 1, 0, none⟩ (.int .i64 k)).setCell ⟨w.heap.size + 1, 1, none⟩ (.string ⟨f.toArray⟩)).setCell ⟨w.heap.size + 1, 2, none⟩ (.string ⟨to.toArray⟩)).setCell ⟨w.heap.size + 1, 3, none⟩ (.int .i64 am)).setCell ⟨w.heap.size + 1, 4, none⟩ (.int .i64 no)) := ((((hb1.setCell (p := ⟨w.heap.size + 1, 0, none⟩) (Nat.le_succ _) _).setCell (p := ⟨w.heap.size + 1, 1, none⟩) (Nat.le_succ _) _).setCell (p := ⟨w.heap.size + 1, 2, none⟩) (Nat.le_succ _) _).setCell (p := ⟨w.heap.size + 1, 3, none⟩) (Nat.le_succ _) _).setCell (p := ⟨w.heap.size + 1, 4, none⟩) (Nat.le_succ _) _
    refine (CO.out _).mono ?_
    rintro e w9 ⟨rfl, hb9⟩
    have hB9 : Below w.heap.size w w9 := hbW.trans (hb9.mono hbW.size)
    have kT9 := kT2.below hb9 kT2.lt
    have kR9 := kR2.below hb9 kR2.lt
    clear kT2 kR2 hbW hb9 r0 r1 r2 r3 r4 t0 t1 t2 t3 t4 gr0 gr1 gr2 gr3 gr4 gt0 gt1 gt2 gt3 gt4
    have r0 := kR9.cell 0
    have gr0 := kR9.frozen 0
    have r1 := kR9.cell 1
    have gr1 := kR9.frozen 1
    have r2 := kR9.cell 2
    have gr2 := kR9.frozen 2
    have r3 := kR9.cell 3
    have gr3 := kR9.frozen 3
    have r4 := kR9.cell 4
    have gr4 := kR9.frozen 4
    have t0 := kT9.cell 0
    have gt0 := kT9.frozen 0
    have t1 := kT9.cell 1
    have gt1 := kT9.frozen 1
    have t2 := kT9.cell 2
    have gt2 := kT9.frozen 2
    have t3 := kT9.cell 3
    have gt3 := kT9.frozen 3
    have t4 := kT9.cell 4
    have gt4 := kT9.frozen 4
    simp only [List.getElem?_cons_zero, List.getElem?_cons_succ] at r0 r1 r2 r3 r4 t0 t1 t2 t3 t4
    cases hx : txB (k, ⟨f.toArray⟩, ⟨to.toArray⟩, am, no)
    · have HZ : Hid (getX l p = (tx0, 0, false)) := hide (by rw [HX.out, hx]; rfl)
      clear HX CO hx kT9 kR9
      go_wp2
      refine bodyPost_ret (v := .tuple #[.agg #[.int .i64 0, .string { data := #[] }, .string { data := #[] }, .int .i64 0, .int .i64 0], .int .i64 0, .bool false]) (by simp [results, Tryz.f26, go_sem, r0, r1, r2, r3, r4]) rfl ?_
      rw [HZ.out]
      exact ⟨rfl, ((((hB9.setCell (p := ⟨w.heap.size, 0, none⟩) (Nat.le_refl _) _).setCell (p := ⟨w.heap.size, 1, none⟩) (Nat.le_refl _) _).setCell (p := ⟨w.heap.size, 2, none⟩) (Nat.le_refl _) _).setCell (p := ⟨w.heap.size, 3, none⟩) (Nat.le_refl _) _).setCell (p := ⟨w.heap.size, 4, none⟩) (Nat.le_refl _) _⟩
    · have HZ : Hid (getX l p = ((k, ⟨f.toArray⟩, ⟨to.toArray⟩, am, no), p5, true)) := hide (by rw [HX.out, hx]; rfl)
      clear HX CO hx kT9 kR9
      go_wp2
      refine bodyPost_ret (v := .tuple #[.agg #[.int .i64 k, .string ⟨f.toArray⟩, .string ⟨to.toArray⟩, .int .i64 am, .int .i64 no], .int .i64 p5, .bool true]) (by simp [results, Tryz.f26, go_sem, r0, r1, r2, r3, r4]) rfl ?_
      rw [HZ.out]
      exact ⟨rfl, ((((hB9.setCell (p := ⟨w.heap.size, 0, none⟩) (Nat.le_refl _) _).setCell (p := ⟨w.heap.size, 1, none⟩) (Nat.le_refl _) _).setCell (p := ⟨w.heap.size, 2, none⟩) (Nat.le_refl _) _).setCell (p := ⟨w.heap.size, 3, none⟩) (Nat.le_refl _) _).setCell (p := ⟨w.heap.size, 4, none⟩) (Nat.le_refl _) _⟩
  · have HZ : Hid (getX l p = (tx0, 0, false)) := hide (by rw [HX.out, if_neg hok])
    have hor : o1 = false ∨ (o1 = true ∧ o2 = false) ∨ (o1 = true ∧ o2 = true ∧ o3 = false) ∨ (o1 = true ∧ o2 = true ∧ o3 = true ∧ o4 = false) ∨ (o1 = true ∧ o2 = true ∧ o3 = true ∧ o4 = true ∧ o5 = false) := by
      cases o1 <;> cases o2 <;> cases o3 <;> cases o4 <;> cases o5 <;> simp at hok ⊢
    clear hok HX CO C1 C2 C3 C4 C5
    rcases hor with rfl | ⟨rfl, rfl⟩ | ⟨rfl, rfl, rfl⟩ | ⟨rfl, rfl, rfl, rfl⟩ | ⟨rfl, rfl, rfl, rfl, rfl⟩
    all_goals
      go_wp2
      refine bodyPost_ret (v := .tuple #[.agg #[.int .i64 0, .string { data := #[] }, .string { data := #[] }, .int .i64 0, .int .i64 0], .int .i64 0, .bool false]) (by simp [results, Tryz.f26, go_sem, r0, r1, r2, r3, r4]) rfl ?_
      rw [HZ.out]
      exact ⟨rfl, ((((hb1.setCell (p := ⟨w.heap.size, 0, none⟩) (Nat.le_refl _) _).setCell (p := ⟨w.heap.size, 1, none⟩) (Nat.le_refl _) _).setCell (p := ⟨w.heap.size, 2, none⟩) (Nat.le_refl _) _).setCell (p := ⟨w.heap.size, 3, none⟩) (Nat.le_refl _) _).setCell (p := ⟨w.heap.size, 4, none⟩) (Nat.le_refl _) _⟩
end Go.Proofs.YtcmmdkabocfnfaaGreatDoor
