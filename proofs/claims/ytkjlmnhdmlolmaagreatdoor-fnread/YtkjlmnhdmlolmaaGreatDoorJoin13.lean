/- The model's orders read out of bytes. An order comes back of its bytes (plain). The landed code's reader: one part behind the other. -/
import Derived.Test.YtkjlmnhdmlolmaaGreatDoorTxPut
import Derived.Test.YtkjlmnhdmlolmaaGreatDoorGetText
import Derived.Test.YtkjlmnhdmlolmaaGreatDoorJoin3
import Derived.Test.YtkjlmnhdmlolmaaGreatDoorJoin7
namespace Go.Proofs.YtkjlmnhdmlolmaaGreatDoor
open Go.RowKit
set_option linter.unusedVariables false

def tx0 : Tx5 := (0, ByteArray.empty, ByteArray.empty, 0, 0)
/-- What GetTx answers: the order, where it ends, whether it is one. -/
def getX (l : List UInt8) (p : Int) : Tx5 × Int × Bool :=
  if ((getN l p).2.2 && ((getT l (getN l p).2.1).2.2 && ((getT l (getT l (getN l p).2.1).2.1).2.2 && ((getN l (getT l (getT l (getN l p).2.1).2.1).2.1).2.2 && (getN l (getN l (getT l (getT l (getN l p).2.1).2.1).2.1).2.1).2.2)))) = true then
    (if txB ((getN l p).1, ⟨(getT l (getN l p).2.1).1.toArray⟩, ⟨(getT l (getT l (getN l p).2.1).2.1).1.toArray⟩, (getN l (getT l (getT l (getN l p).2.1).2.1).2.1).1, (getN l (getN l (getT l (getT l (getN l p).2.1).2.1).2.1).2.1).1) = true then
      (((getN l p).1, ⟨(getT l (getN l p).2.1).1.toArray⟩, ⟨(getT l (getT l (getN l p).2.1).2.1).1.toArray⟩, (getN l (getT l (getT l (getN l p).2.1).2.1).2.1).1, (getN l (getN l (getT l (getT l (getN l p).2.1).2.1).2.1).2.1).1), (getN l (getN l (getT l (getT l (getN l p).2.1).2.1).2.1).2.1).2.1, true)
    else (tx0, 0, false))
  else (tx0, 0, false)
theorem getX_is {l : List UInt8} {p k p1 p2 p3 am p4 no p5 : Int} {f to : List UInt8} {o1 o2 o3 o4 o5 : Bool} (h1 : getN l p = (k, p1, o1)) (h2 : getT l p1 = (f, p2, o2)) (h3 : getT l p2 = (to, p3, o3)) (h4 : getN l p3 = (am, p4, o4)) (h5 : getN l p4 = (no, p5, o5)) :
    getX l p = if (o1 && (o2 && (o3 && (o4 && o5)))) = true then (if txB (k, ⟨f.toArray⟩, ⟨to.toArray⟩, am, no) = true then ((k, ⟨f.toArray⟩, ⟨to.toArray⟩, am, no), p5, true) else (tx0, 0, false)) else (tx0, 0, false) := by
  unfold getX
  simp only [h1, h2, h3, h4, h5]
theorem getT_bd5 (l : List UInt8) (p : Int) : 0 ≤ (getT l p).2.1 ∧ (getT l p).2.1 ≤ l.length := by
  have h := getN_bd l p
  unfold getT
  split
  · simp only; omega
  · simp
theorem getT_len5 (l : List UInt8) (p : Int) : (getT l p).1.length ≤ l.length := by
  unfold getT
  split
  · simp only [List.length_take, List.length_drop]; omega
  · simp
theorem tx0V : txV tx0 = .agg #[.int .i64 0, .string { data := #[] }, .string { data := #[] }, .int .i64 0, .int .i64 0] := rfl
set_option maxRecDepth 20000 in
set_option maxHeartbeats 4000000 in
theorem specGetTx_any (v : Value) (l : List UInt8) (p : Int) (w : World) (hr : RdB w v l) (hl : l.length ≤ 4000000) (hp1 : -9223372036854775808 ≤ p) (hp2 : p ≤ 9223372036854775807) :
    Calls Tryz.prog 76 #[v, .int .i64 p] w fun e w' => e = .returned (.tuple #[txV (getX l p).1, .int .i64 (getX l p).2.1, .bool (getX l p).2.2]) ∧ Below w.heap.size w w' := by
  have n1 := getN_bd l p
  obtain ⟨k, p1, o1, h1⟩ : ∃ x y z, getN l p = (x, y, z) := ⟨_, _, _, rfl⟩
  rw [h1] at n1
  simp only at n1
  have n2 := getT_bd5 l p1
  have z2 := getT_len5 l p1
  obtain ⟨f, p2, o2, h2⟩ : ∃ x y z, getT l p1 = (x, y, z) := ⟨_, _, _, rfl⟩
  rw [h2] at n2 z2
  simp only at n2 z2
  have n3 := getT_bd5 l p2
  have z3 := getT_len5 l p2
  obtain ⟨to, p3, o3, h3⟩ : ∃ x y z, getT l p2 = (x, y, z) := ⟨_, _, _, rfl⟩
  rw [h3] at n3 z3
  simp only at n3 z3
  have n4 := getN_bd l p3
  obtain ⟨am, p4, o4, h4⟩ : ∃ x y z, getN l p3 = (x, y, z) := ⟨_, _, _, rfl⟩
  rw [h4] at n4
  simp only at n4
  obtain ⟨no, p5, o5, h5⟩ : ∃ x y z, getN l p4 = (x, y, z) := ⟨_, _, _, rfl⟩
  have HX := hide (getX_is h1 h2 h3 h4 h5)
  have C1 := hide (fun W h => specGetNum_any v l p W h hl hp1 hp2)
  have C2 := hide (fun W h => specGetText_any v l p1 W h hl (by omega) (by omega))
  have C3 := hide (fun W h => specGetText_any v l p2 W h hl (by omega) (by omega))
  have C4 := hide (fun W h => specGetNum_any v l p3 W h hl (by omega) (by omega))
  have C5 := hide (fun W h => specGetNum_any v l p4 W h hl (by omega) (by omega))
  have CO := hide (fun W => specTxOk_any (k, ⟨f.toArray⟩, ⟨to.toArray⟩, am, no) W (by unfold maxLen; show f.toArray.size ≤ _; simp; omega) (by unfold maxLen; show to.toArray.size ≤ _; simp; omega))
  rw [h1] at C1
  rw [h2] at C2
  rw [h3] at C3
  rw [h4] at C4
  rw [h5] at C5
  simp only [tri, trs, txV] at C1 C2 C3 C4 C5 CO
  clear h1 h2 h3 h4 h5 n1 n2 n3 n4 z2 z3
  go_enter Tryz.func76, Tryz.ntmps76
  go_wp2_with fail
  obtain ⟨w1, hw1⟩ : ∃ w1, (w.alloc (.cells #[.int .i64 0, .string { data := #[] }, .string { data := #[] }, .int .i64 0, .int .i64 0] 35)).alloc (.cells #[.int .i64 0, .string { data := #[] }, .string { data := #[] }, .int .i64 0, .int .i64 0] 35) = w1 := ⟨_, rfl⟩
  rw [hw1]
  have hb1 : Below w.heap.size w w1 := by rw [← hw1]; exact ((Below.refl _ w).alloc (Nat.le_refl _) _).alloc (by simp) _
  have kR : w1.heap[w.heap.size]? = some (.cells #[.int .i64 0, .string { data := #[] }, .string { data := #[] }, .int .i64 0, .int .i64 0] 35 (0, 0)) := by
    rw [← hw1]
    have h := heap_alloc_new w (.cells #[.int .i64 0, .string { data := #[] }, .string { data := #[] }, .int .i64 0, .int .i64 0] 35)
    rw [((Below.refl (w.heap.size + 1) _).alloc (by simp) _).block w.heap.size (by omega)]
    exact h
  have kT : w1.heap[w.heap.size + 1]? = some (.cells #[.int .i64 0, .string { data := #[] }, .string { data := #[] }, .int .i64 0, .int .i64 0] 35 (0, 0)) := by
    rw [← hw1]
    have h := heap_alloc_new (w.alloc (.cells #[.int .i64 0, .string { data := #[] }, .string { data := #[] }, .int .i64 0, .int .i64 0] 35)) (.cells #[.int .i64 0, .string { data := #[] }, .string { data := #[] }, .int .i64 0, .int .i64 0] 35)
    rw [World.size_alloc] at h
    exact h
  have r0 : w1.cell? ⟨w.heap.size, 0, none⟩ = some (.int .i64 0) := by simp [World.cell?, kR]
  have gr0 : w1.frozen? ⟨w.heap.size, 0, none⟩ = false := by simp [World.frozen?, kR]
  have r1 : w1.cell? ⟨w.heap.size, 1, none⟩ = some (.string { data := #[] }) := by simp [World.cell?, kR]
  have gr1 : w1.frozen? ⟨w.heap.size, 1, none⟩ = false := by simp [World.frozen?, kR]
  have r2 : w1.cell? ⟨w.heap.size, 2, none⟩ = some (.string { data := #[] }) := by simp [World.cell?, kR]
  have gr2 : w1.frozen? ⟨w.heap.size, 2, none⟩ = false := by simp [World.frozen?, kR]
  have r3 : w1.cell? ⟨w.heap.size, 3, none⟩ = some (.int .i64 0) := by simp [World.cell?, kR]
  have gr3 : w1.frozen? ⟨w.heap.size, 3, none⟩ = false := by simp [World.frozen?, kR]
  have r4 : w1.cell? ⟨w.heap.size, 4, none⟩ = some (.int .i64 0) := by simp [World.cell?, kR]
  have gr4 : w1.frozen? ⟨w.heap.size, 4, none⟩ = false := by simp [World.frozen?, kR]
  have t0 : w1.cell? ⟨w.heap.size + 1, 0, none⟩ = some (.int .i64 0) := by simp [World.cell?, kT]
  have gt0 : w1.frozen? ⟨w.heap.size + 1, 0, none⟩ = false := by simp [World.frozen?, kT]
  have t1 : w1.cell? ⟨w.heap.size + 1, 1, none⟩ = some (.string { data := #[] }) := by simp [World.cell?, kT]
  have gt1 : w1.frozen? ⟨w.heap.size + 1, 1, none⟩ = false := by simp [World.frozen?, kT]
  have t2 : w1.cell? ⟨w.heap.size + 1, 2, none⟩ = some (.string { data := #[] }) := by simp [World.cell?, kT]
  have gt2 : w1.frozen? ⟨w.heap.size + 1, 2, none⟩ = false := by simp [World.frozen?, kT]
  have t3 : w1.cell? ⟨w.heap.size + 1, 3, none⟩ = some (.int .i64 0) := by simp [World.cell?, kT]
  have gt3 : w1.frozen? ⟨w.heap.size + 1, 3, none⟩ = false := by simp [World.frozen?, kT]
  have t4 : w1.cell? ⟨w.heap.size + 1, 4, none⟩ = some (.int .i64 0) := by simp [World.cell?, kT]
  have gt4 : w1.frozen? ⟨w.heap.size + 1, 4, none⟩ = false := by simp [World.frozen?, kT]
  have Hr1 := hide (hr.below hb1 (Nat.le_refl _))
  have KR : Hid (Blk w1 w.heap.size 35 [.int .i64 0, .string { data := #[] }, .string { data := #[] }, .int .i64 0, .int .i64 0]) := hide kR
  have KT : Hid (Blk w1 (w.heap.size + 1) 35 [.int .i64 0, .string { data := #[] }, .string { data := #[] }, .int .i64 0, .int .i64 0]) := hide kT
  have hs1 : w.heap.size + 1 < w1.heap.size := (Array.getElem?_eq_some_iff.1 kT).1
  clear hr kR kT
  refine (C1.out _ Hr1.out).mono ?_
  rintro e w1 ⟨rfl, rfl⟩
  go_wp2_with fail
  refine (C2.out _ Hr1.out).mono ?_
  rintro e w1 ⟨rfl, rfl⟩
  go_wp2_with fail
  refine (C3.out _ Hr1.out).mono ?_
  rintro e w1 ⟨rfl, rfl⟩
  go_wp2_with fail
  refine (C4.out _ Hr1.out).mono ?_
  rintro e w1 ⟨rfl, rfl⟩
  go_wp2_with fail
  refine (C5.out _ Hr1.out).mono ?_
  rintro e w1 ⟨rfl, rfl⟩
  by_cases hok : (o1 && (o2 && (o3 && (o4 && o5)))) = true
  · have ⟨q1, q2, q3, q4, q5⟩ : o1 = true ∧ o2 = true ∧ o3 = true ∧ o4 = true ∧ o5 = true := by simpa using hok
    subst q1 q2 q3 q4 q5
    clear hok C1 C2 C3 C4 C5
    go_wp2_with fail
    have kT2 := blk_put5 KT.out (.int .i64 k) (.string ⟨f.toArray⟩) (.string ⟨to.toArray⟩) (.int .i64 am) (.int .i64 no)
    have kR2 := blk_other5 KR.out (show w.heap.size ≠ w.heap.size + 1 by omega) (.int .i64 k) (.string ⟨f.toArray⟩) (.string ⟨to.toArray⟩) (.int .i64 am) (.int .i64 no)
    have hbW : Below w.heap.size w (((((w1.setCell ⟨w.heap.size + 1, 0, none⟩ (.int .i64 k)).setCell ⟨w.heap.size + 1, 1, none⟩ (.string ⟨f.toArray⟩)).setCell ⟨w.heap.size + 1, 2, none⟩ (.string ⟨to.toArray⟩)).setCell ⟨w.heap.size + 1, 3, none⟩ (.int .i64 am)).setCell ⟨w.heap.size + 1, 4, none⟩ (.int .i64 no)) := ((((hb1.setCell (p := ⟨w.heap.size + 1, 0, none⟩) (Nat.le_succ _) _).setCell (p := ⟨w.heap.size + 1, 1, none⟩) (Nat.le_succ _) _).setCell (p := ⟨w.heap.size + 1, 2, none⟩) (Nat.le_succ _) _).setCell (p := ⟨w.heap.size + 1, 3, none⟩) (Nat.le_succ _) _).setCell (p := ⟨w.heap.size + 1, 4, none⟩) (Nat.le_succ _) _
    refine (CO.out _).mono ?_
    rintro e w9 ⟨rfl, hb9⟩
    have hB9 : Below w.heap.size w w9 := hbW.trans (hb9.mono hbW.size)
    have kT9 := kT2.below hb9 kT2.lt
    have kR9 := kR2.below hb9 kR2.lt
    clear kT2 kR2 hbW hb9 r0 r1 r2 r3 r4 t0 t1 t2 t3 t4 gr0 gr1 gr2 gr3 gr4 gt0 gt1 gt2 gt3 gt4
    have r0 := kR9.cell 0
    have gr0 := kR9.frozen 0
    have r1 := kR9.cell 1
    have gr1 := kR9.frozen 1
    have r2 := kR9.cell 2
    have gr2 := kR9.frozen 2
    have r3 := kR9.cell 3
    have gr3 := kR9.frozen 3
    have r4 := kR9.cell 4
    have gr4 := kR9.frozen 4
    have t0 := kT9.cell 0
    have gt0 := kT9.frozen 0
    have t1 := kT9.cell 1
    have gt1 := kT9.frozen 1
    have t2 := kT9.cell 2
    have gt2 := kT9.frozen 2
    have t3 := kT9.cell 3
    have gt3 := kT9.frozen 3
    have t4 := kT9.cell 4
    have gt4 := kT9.frozen 4
    simp only [List.getElem?_cons_zero, List.getElem?_cons_succ] at r0 r1 r2 r3 r4 t0 t1 t2 t3 t4
    cases hx : txB (k, ⟨f.toArray⟩, ⟨to.toArray⟩, am, no)
    · have HZ : Hid (getX l p = (tx0, 0, false)) := hide (by rw [HX.out, hx]; rfl)
      clear HX CO hx kT9 kR9
      go_wp2
      refine bodyPost_ret (v := .tuple #[.agg #[.int .i64 0, .string { data := #[] }, .string { data := #[] }, .int .i64 0, .int .i64 0], .int .i64 0, .bool false]) (by simp [results, Tryz.f76, go_sem, r0, r1, r2, r3, r4]) rfl ?_
      rw [HZ.out]
      exact ⟨rfl, ((((hB9.setCell (p := ⟨w.heap.size, 0, none⟩) (Nat.le_refl _) _).setCell (p := ⟨w.heap.size, 1, none⟩) (Nat.le_refl _) _).setCell (p := ⟨w.heap.size, 2, none⟩) (Nat.le_refl _) _).setCell (p := ⟨w.heap.size, 3, none⟩) (Nat.le_refl _) _).setCell (p := ⟨w.heap.size, 4, none⟩) (Nat.le_refl _) _⟩
    · have HZ : Hid (getX l p = ((k, ⟨f.toArray⟩, ⟨to.toArray⟩, am, no), p5, true)) := hide (by rw [HX.out, hx]; rfl)
      clear HX CO hx kT9 kR9
      go_wp2
      refine bodyPost_ret (v := .tuple #[.agg #[.int .i64 k, .string ⟨f.toArray⟩, .string ⟨to.toArray⟩, .int .i64 am, .int .i64 no], .int .i64 p5, .bool true]) (by simp [results, Tryz.f76, go_sem, r0, r1, r2, r3, r4]) rfl ?_
      rw [HZ.out]
      exact ⟨rfl, ((((hB9.setCell (p := ⟨w.heap.size, 0, none⟩) (Nat.le_refl _) _).setCell (p := ⟨w.heap.size, 1, none⟩) (Nat.le_refl _) _).setCell (p := ⟨w.heap.size, 2, none⟩) (Nat.le_refl _) _).setCell (p := ⟨w.heap.size, 3, none⟩) (Nat.le_refl _) _).setCell (p := ⟨w.heap.size, 4, none⟩) (Nat.le_refl _) _⟩
  · have HZ : Hid (getX l p = (tx0, 0, false)) := hide (by rw [HX.out, if_neg hok])
    have hor : o1 = false ∨ (o1 = true ∧ o2 = false) ∨ (o1 = true ∧ o2 = true ∧ o3 = false) ∨ (o1 = true ∧ o2 = true ∧ o3 = true ∧ o4 = false) ∨ (o1 = true ∧ o2 = true ∧ o3 = true ∧ o4 = true ∧ o5 = false) := by
      cases o1 <;> cases o2 <;> cases o3 <;> cases o4 <;> cases o5 <;> simp at hok ⊢
    clear hok HX CO C1 C2 C3 C4 C5
    rcases hor with rfl | ⟨rfl, rfl⟩ | ⟨rfl, rfl, rfl⟩ | ⟨rfl, rfl, rfl, rfl⟩ | ⟨rfl, rfl, rfl, rfl, rfl⟩
    all_goals
      go_wp2
      refine bodyPost_ret (v := .tuple #[.agg #[.int .i64 0, .string { data := #[] }, .string { data := #[] }, .int .i64 0, .int .i64 0], .int .i64 0, .bool false]) (by simp [results, Tryz.f76, go_sem, r0, r1, r2, r3, r4]) rfl ?_
      rw [HZ.out]
      exact ⟨rfl, ((((hb1.setCell (p := ⟨w.heap.size, 0, none⟩) (Nat.le_refl _) _).setCell (p := ⟨w.heap.size, 1, none⟩) (Nat.le_refl _) _).setCell (p := ⟨w.heap.size, 2, none⟩) (Nat.le_refl _) _).setCell (p := ⟨w.heap.size, 3, none⟩) (Nat.le_refl _) _).setCell (p := ⟨w.heap.size, 4, none⟩) (Nat.le_refl _) _⟩
end Go.Proofs.YtkjlmnhdmlolmaaGreatDoor

namespace Go.Proofs.YtkjlmnhdmlolmaaGreatDoor
open Go.RowKit
set_option linter.unusedVariables false

theorem clamp_in5 (n : Int) (h : -1000000000 ≤ n ∧ n ≤ 1000000000) : clampN n = n := by
  unfold clampN; rw [if_neg (by omega), if_neg (by omega)]
theorem back_bytes5 (s : ByteArray) : (⟨s.data.toList.toArray⟩ : ByteArray) = s := by
  apply ByteArray.ext; simp
theorem getT_put5 (l rest : List UInt8) (s : ByteArray) (hs : s.size ≤ 1000000000) : getT (l ++ (textB s ++ rest)) (l.length : Int) = (s.data.toList, (l.length : Int) + (textB s).length, true) := by
  have e : l ++ (textB s ++ rest) = l ++ (numB (s.size : Int) ++ (s.data.toList ++ rest)) := by simp [textB]
  have hg := getN_put l (s.data.toList ++ rest) (s.size : Int)
  rw [clamp_in5 _ (by omega)] at hg
  rw [e]
  have hsz : s.data.toList.length = s.size := by simp
  have := getT_yes (l ++ (numB (s.size : Int) ++ (s.data.toList ++ rest))) (l.length : Int) s.size (l.length + (numB (s.size : Int)).length) (by rw [hg]; simp) (by simp; omega)
  rw [this]
  have e2 : (l ++ (numB (s.size : Int) ++ (s.data.toList ++ rest))).drop (l.length + (numB (s.size : Int)).length) = s.data.toList ++ rest := by
    rw [← List.append_assoc, ← List.length_append, List.drop_left]
  rw [e2, List.take_append_of_le_length (by omega), List.take_of_length_le (by omega)]
  have e3 : (textB s).length = (numB (s.size : Int)).length + s.size := by simp [textB]
  rw [e3]
  simp only [Prod.mk.injEq, and_true, true_and]
  omega
theorem getN_at5 (L l rest : List UInt8) (n p : Int) (e : L = l ++ (numB n ++ rest)) (hp : p = l.length) (hn : -1000000000 ≤ n ∧ n ≤ 1000000000) : getN L p = (n, ((l ++ numB n).length : Int), true) := by
  rw [e, hp, getN_put, clamp_in5 _ hn]
  simp
theorem getT_at5 (L l rest : List UInt8) (s : ByteArray) (p : Int) (e : L = l ++ (textB s ++ rest)) (hp : p = l.length) (hs : s.size ≤ 1000000000) : getT L p = (s.data.toList, ((l ++ textB s).length : Int), true) := by
  rw [e, hp, getT_put5 _ _ _ hs]
  simp
/-- What was put comes back. -/
theorem getX_put (l : List UInt8) (t : Tx5) (hok : txB t = true) (hf : t.2.1.size ≤ 1000000) (ht : t.2.2.1.size ≤ 1000000) : getX (l ++ txP t) (l.length : Int) = (t, ((l ++ txP t).length : Int), true) := by
  obtain ⟨k, f, to, am, no⟩ := t
  have hk : (-1000000000 ≤ k ∧ k ≤ 1000000000) ∧ (-1000000000 ≤ am ∧ am ≤ 1000000000) ∧ (-1000000000 ≤ no ∧ no ≤ 1000000000) := by
    simp only [txB, inB, Bool.and_eq_true, decide_eq_true_eq] at hok
    obtain ⟨-, h2, h3, h4⟩ := hok
    refine ⟨?_, by omega, by omega⟩
    split at h4
    · omega
    · simp only [Bool.and_eq_true, decide_eq_true_eq] at h4; omega
  obtain ⟨hk, ha, hn⟩ := hk
  simp only at hf ht
  simp only [txP]
  have e1 := getN_at5 (l ++ (numB k ++ (textB f ++ (textB to ++ (numB am ++ numB no))))) l _ k l.length rfl rfl hk
  have e2 := getT_at5 (l ++ (numB k ++ (textB f ++ (textB to ++ (numB am ++ numB no))))) (l ++ numB k) (textB to ++ (numB am ++ numB no)) f _ (by simp) rfl (by omega)
  have e3 := getT_at5 (l ++ (numB k ++ (textB f ++ (textB to ++ (numB am ++ numB no))))) (l ++ numB k ++ textB f) (numB am ++ numB no) to _ (by simp) rfl (by omega)
  have e4 := getN_at5 (l ++ (numB k ++ (textB f ++ (textB to ++ (numB am ++ numB no))))) (l ++ numB k ++ textB f ++ textB to) (numB no) am _ (by simp) rfl ha
  have e5 := getN_at5 (l ++ (numB k ++ (textB f ++ (textB to ++ (numB am ++ numB no))))) (l ++ numB k ++ textB f ++ textB to ++ numB am) [] no _ (by simp) rfl hn
  rw [getX_is e1 e2 e3 e4 e5, back_bytes5, back_bytes5, hok]
  simp
theorem putG_pos5 (n : Int) : 0 < (numB n).length := by
  cases h : numB n with
  | nil => exact absurd h (putG_ne _ _)
  | cons _ _ => simp
theorem txP_pos (t : Tx5) : 0 < (txP t).length := by
  have := putG_pos5 t.1
  unfold txP; rw [List.length_append]; omega

end Go.Proofs.YtkjlmnhdmlolmaaGreatDoor

namespace Go.Proofs.YtkjlmnhdmlolmaaGreatDoor
open Go.RowKit
set_option linter.unusedVariables false

theorem Blk.kept {W W' : World} {row : Option Nat} {B : Nat} {t : TypeId} {cs : List Value} (h : Blk W B t cs) (hg : W.grownBy W' row) (hne : some B ≠ row) : Blk W' B t cs := (hg.block B h.lt hne).trans h
theorem grown_two5 (w : World) (d g : Nat) (a b : Value) : w.grownBy (((w.drewN d).setCell ⟨g, 1, none⟩ a).setCell ⟨g, 2, none⟩ b) (some g) :=
  ⟨rfl, rfl, rfl, by simp, fun k _ hk => by
    have hne : k ≠ g := fun e => hk (by simp [e])
    rw [heap_setCell_other _ ⟨g, 2, none⟩ k _ hne, heap_setCell_other _ ⟨g, 1, none⟩ k _ hne]
    rfl⟩
theorem below_drewN5 (w : World) (d : Nat) : Below w.heap.size w (w.drewN d) := ⟨rfl, rfl, rfl, Nat.le_refl _, fun _ _ => rfl⟩
theorem blk_two5 {W : World} {B : Nat} {t : TypeId} {a0 a1 a2 : Value} (h : Blk W B t [a0, a1, a2]) (y1 y2 : Value) : Blk ((W.setCell ⟨B, 1, none⟩ y1).setCell ⟨B, 2, none⟩ y2) B t [a0, y1, y2] := by
  have e1 : Blk (W.setCell ⟨B, 1, none⟩ y1) B t [a0, y1, a2] := heap_setCell_same W B 1 #[a0, a1, a2] t y1 h
  exact heap_setCell_same _ B 2 #[a0, y1, a2] t y2 e1
/-- A reader at block B: the bytes v, the place p, whether all was there. -/
def Rdr (W : World) (B : Nat) (v : Value) (p : Int) (ok : Bool) : Prop := Blk W B 156 [v, .int .i64 p, .bool ok]

set_option maxRecDepth 20000 in
theorem readerAt_any (v : Value) (n c : Nat) (a : Option Addr) (p : Int) (w : World) (hv : v = .slice a n c) :
    Calls Tryz.prog 123 #[v, .int .i64 p] w fun e w' => e = .returned (.agg #[v, .int .i64 p, .bool true]) ∧ Below w.heap.size w w' := by
  subst hv
  go_enter Tryz.func123, Tryz.ntmps123
  go_wp2
  refine bodyPost_ret (v := .agg #[.slice a n c, .int .i64 p, .bool true]) (by simp [results, Tryz.f123, go_sem]) rfl ?_
  exact ⟨rfl, (Below.refl _ w).alloc (Nat.le_refl _) _⟩
set_option maxRecDepth 20000 in
set_option maxHeartbeats 1000000 in
theorem readNum_any (v : Value) (l : List UInt8) (p : Int) (ok : Bool) (B : Nat) (W : World) (hr : RdB W v l) (hk : Rdr W B v p ok) (hl : l.length ≤ 4000000) (hp1 : -9223372036854775808 ≤ p) (hp2 : p ≤ 9223372036854775807) :
    Calls Tryz.prog 182 #[.pointer (some ⟨B, 0, none⟩)] W fun e W' => e = .returned (.int .i64 (if ok = true then (getN l p).1 else 0)) ∧ Rdr W' B v (if ok = true then (getN l p).2.1 else p) (ok && (getN l p).2.2) ∧ W.grownBy W' (some B) := by
  have C := hide (fun W' h => implGetNum_any v l p W' h hl hp1 hp2)
  obtain ⟨n, x, o, h1⟩ : ∃ n x o, getN l p = (n, x, o) := ⟨_, _, _, rfl⟩
  rw [h1] at C ⊢
  simp only [tri] at C ⊢
  obtain ⟨a, cap, rfl⟩ := hr.shape
  have c0 := hk.cell 0
  have c1 := hk.cell 1
  have c2 := hk.cell 2
  simp only [List.getElem?_cons_zero, List.getElem?_cons_succ] at c0 c1 c2
  have f1 := hk.frozen 1
  have f2 := hk.frozen 2
  have HK := hide hk
  clear h1 hk
  cases ok
  · rw [if_neg (by simp), if_neg (by simp), Bool.false_and]
    clear C f1 f2 c1
    go_enter Tryz.func182, Tryz.ntmps182
    go_wp2
    go_ret
    exact ⟨rfl, HK.out, World.grownBy.refl _ _⟩
  · rw [if_pos rfl, if_pos rfl, Bool.true_and]
    have HC : Hid (∀ d : Nat, Calls Tryz.prog 207 #[.slice a l.length cap, .int .i64 p] (W.drewN d) fun e w' => e = .returned (.tuple #[.int .i64 n, .int .i64 x, .bool o]) ∧ w' = W.drewN d) := hide (fun d => C.out _ (hr.below (below_drewN5 W d) (Nat.le_refl _)))
    clear C hr
    go_enter Tryz.func182, Tryz.ntmps182
    go_wp2
    go_quiet ((go_at_call 207; exact Calls.quiet_of_same (HC.out _)))
    go_wp2
    go_ret
    exact ⟨rfl, blk_two5 HK.out _ _, grown_two5 _ _ _ _ _⟩
set_option maxRecDepth 20000 in
set_option maxHeartbeats 1000000 in
theorem readText_any (v : Value) (l : List UInt8) (p : Int) (ok : Bool) (B : Nat) (W : World) (hr : RdB W v l) (hk : Rdr W B v p ok) (hl : l.length ≤ 4000000) (hp1 : -9223372036854775808 ≤ p) (hp2 : p ≤ 9223372036854775807) :
    Calls Tryz.prog 183 #[.pointer (some ⟨B, 0, none⟩)] W fun e W' => e = .returned (.string ⟨(if ok = true then (getT l p).1 else []).toArray⟩) ∧ Rdr W' B v (if ok = true then (getT l p).2.1 else p) (ok && (getT l p).2.2) ∧ W.grownBy W' (some B) := by
  have C := hide (fun W' h => implGetText_any v l p W' h hl hp1 hp2)
  obtain ⟨n, x, o, h1⟩ : ∃ n x o, getT l p = (n, x, o) := ⟨_, _, _, rfl⟩
  rw [h1] at C ⊢
  simp only [trs] at C ⊢
  obtain ⟨a, cap, rfl⟩ := hr.shape
  have c0 := hk.cell 0
  have c1 := hk.cell 1
  have c2 := hk.cell 2
  simp only [List.getElem?_cons_zero, List.getElem?_cons_succ] at c0 c1 c2
  have f1 := hk.frozen 1
  have f2 := hk.frozen 2
  have HK := hide hk
  clear h1 hk
  cases ok
  · rw [if_neg (by simp), if_neg (by simp), Bool.false_and]
    clear C f1 f2 c1
    go_enter Tryz.func183, Tryz.ntmps183
    go_wp2
    go_ret
    exact ⟨rfl, HK.out, World.grownBy.refl _ _⟩
  · rw [if_pos rfl, if_pos rfl, Bool.true_and]
    have HC : Hid (∀ d : Nat, Calls Tryz.prog 208 #[.slice a l.length cap, .int .i64 p] (W.drewN d) fun e w' => e = .returned (.tuple #[.string ⟨n.toArray⟩, .int .i64 x, .bool o]) ∧ w' = W.drewN d) := hide (fun d => C.out _ (hr.below (below_drewN5 W d) (Nat.le_refl _)))
    clear C hr
    go_enter Tryz.func183, Tryz.ntmps183
    go_wp2
    go_quiet ((go_at_call 208; exact Calls.quiet_of_same (HC.out _)))
    go_wp2
    go_ret
    exact ⟨rfl, blk_two5 HK.out _ _, grown_two5 _ _ _ _ _⟩
end Go.Proofs.YtkjlmnhdmlolmaaGreatDoor
