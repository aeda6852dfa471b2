/- The landed code's orders read out of bytes. -/
import Derived.Test.YtimiimedjfdlmabTxRead
import Derived.Test.YtimiimedjfdlmabTxOkI
namespace Go.Proofs.Ytimiimedjfdlmab
open Go.RowKit
set_option linter.unusedVariables false

/-- What the reader comes to: a part that is not there ends it. -/
theorem getX_run {l : List UInt8} {p k p1 P2 P3 P4 P5 X4 X5 : Int} {o1 O2 O3 O4 O5 : Bool} {X2 X3 : List UInt8} (h1 : getN l p = (k, p1, o1))
    (hX2 : (if o1 = true then (getT l p1).1 else []) = X2) (hP2 : (if o1 = true then (getT l p1).2.1 else p1) = P2) (hO2 : (o1 && (getT l p1).2.2) = O2)
    (hX3 : (if O2 = true then (getT l P2).1 else []) = X3) (hP3 : (if O2 = true then (getT l P2).2.1 else P2) = P3) (hO3 : (O2 && (getT l P2).2.2) = O3)
    (hX4 : (if O3 = true then (getN l P3).1 else 0) = X4) (hP4 : (if O3 = true then (getN l P3).2.1 else P3) = P4) (hO4 : (O3 && (getN l P3).2.2) = O4)
    (hX5 : (if O4 = true then (getN l P4).1 else 0) = X5) (hP5 : (if O4 = true then (getN l P4).2.1 else P4) = P5) (hO5 : (O4 && (getN l P4).2.2) = O5) :
    getX l p = if O5 = true then (if txB (k, ⟨X2.toArray⟩, ⟨X3.toArray⟩, X4, X5) = true then ((k, ⟨X2.toArray⟩, ⟨X3.toArray⟩, X4, X5), P5, true) else (tx0, 0, false)) else (tx0, 0, false) := by
  obtain ⟨f, p2, o2, h2⟩ : ∃ x y z, getT l p1 = (x, y, z) := ⟨_, _, _, rfl⟩
  obtain ⟨to, p3, o3, h3⟩ : ∃ x y z, getT l p2 = (x, y, z) := ⟨_, _, _, rfl⟩
  obtain ⟨am, p4, o4, h4⟩ : ∃ x y z, getN l p3 = (x, y, z) := ⟨_, _, _, rfl⟩
  obtain ⟨no, p5, o5, h5⟩ : ∃ x y z, getN l p4 = (x, y, z) := ⟨_, _, _, rfl⟩
  rw [getX_is h1 h2 h3 h4 h5]
  cases o1
  · simp only [Bool.false_and] at hO2
    subst hO2
    simp only [Bool.false_and] at hO3
    subst hO3
    simp only [Bool.false_and] at hO4
    subst hO4
    simp only [Bool.false_and] at hO5
    subst hO5
    simp
  · rw [if_pos rfl, h2] at hX2 hP2
    rw [Bool.true_and, h2] at hO2
    simp only at hX2 hP2 hO2
    subst hX2 hP2 hO2
    cases o2
    · simp only [Bool.false_and] at hO3
      subst hO3
      simp only [Bool.false_and] at hO4
      subst hO4
      simp only [Bool.false_and] at hO5
      subst hO5
      simp
    · rw [if_pos rfl, h3] at hX3 hP3
      rw [Bool.true_and, h3] at hO3
      simp only at hX3 hP3 hO3
      subst hX3 hP3 hO3
      cases o3
      · simp only [Bool.false_and] at hO4
        subst hO4
        simp only [Bool.false_and] at hO5
        subst hO5
        simp
      · rw [if_pos rfl, h4] at hX4 hP4
        rw [Bool.true_and, h4] at hO4
        simp only at hX4 hP4 hO4
        subst hX4 hP4 hO4
        cases o4
        · simp only [Bool.false_and] at hO5
          subst hO5
          simp
        · rw [if_pos rfl, h5] at hX5 hP5
          rw [Bool.true_and, h5] at hO5
          simp only at hX5 hP5 hO5
          subst hX5 hP5 hO5
          simp
theorem stepT_bd (l : List UInt8) (p : Int) (o : Bool) (h : 0 ≤ p ∧ p ≤ l.length) : 0 ≤ (if o = true then (getT l p).2.1 else p) ∧ (if o = true then (getT l p).2.1 else p) ≤ l.length := by
  split
  · exact getT_bd5 l p
  · exact h
theorem stepN_bd (l : List UInt8) (p : Int) (o : Bool) (h : 0 ≤ p ∧ p ≤ l.length) : 0 ≤ (if o = true then (getN l p).2.1 else p) ∧ (if o = true then (getN l p).2.1 else p) ≤ l.length := by
  split
  · exact (getN_bd l p).2.2
  · exact h
theorem stepX_len (l : List UInt8) (p : Int) (o : Bool) : (if o = true then (getT l p).1 else []).length ≤ l.length := by
  split
  · exact getT_len5 l p
  · simp

def z5 : List Value := [.int .i64 0, .string { data := #[] }, .string { data := #[] }, .int .i64 0, .int .i64 0]
/-- Half way: the reader at B, the order at T, the answer at R, the bytes as they were. -/
structure Sg (w : World) (v : Value) (l : List UInt8) (R B T : Nat) (W : World) (cs : List Value) (p : Int) (ok : Bool) : Prop where
  rdr : Rdr W B v p ok
  tx : Blk W T 41 cs
  res : Blk W R 41 z5
  bel : Below w.heap.size w W
theorem blk_other1 {W : World} {B b j : Nat} {t : TypeId} {cs : List Value} {y : Value} (h : Blk W B t cs) (hne : B ≠ b) : Blk (W.setCell ⟨b, j, none⟩ y) B t cs := by
  unfold Blk
  rw [heap_setCell_other _ ⟨b, j, none⟩ B _ hne]
  exact h
theorem Sg.step {w : World} {v : Value} {l : List UInt8} {R B T : Nat} {W W' : World} {cs cs' : List Value} {p p' : Int} {ok ok' : Bool} (h : Sg w v l R B T W cs p ok) (hB : w.heap.size ≤ B) (hT : w.heap.size ≤ T) (h1 : B ≠ T) (h2 : R ≠ B) (h3 : R ≠ T)
    (hk : Rdr W' B v p' ok') (hg : W.grownBy W' (some B)) (j : Nat) (x : Value) (hc : cs.toArray.setIfInBounds j x = cs'.toArray) : Sg w v l R B T (W'.setCell ⟨T, j, none⟩ x) cs' p' ok' := by
  refine ⟨blk_other1 hk h1, ?_, blk_other1 (h.res.kept hg (fun e => h2 (by injection e))) h3, ?_⟩
  · have e := heap_setCell_same W' T j cs.toArray 41 x (h.tx.kept hg (fun e => h1 (by injection e with e; exact e.symm)))
    unfold Blk
    rw [e, hc]
  · exact (h.bel.grown hg h.bel.size (fun k hk => by cases hk; exact hB)).setCell (p := ⟨T, j, none⟩) hT x
end Go.Proofs.Ytimiimedjfdlmab
