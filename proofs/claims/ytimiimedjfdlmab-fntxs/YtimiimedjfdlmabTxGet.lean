/- The model's orders read out of bytes. -/
import Derived.Test.YtimiimedjfdlmabTxPut
import Derived.Test.YtimiimedjfdlmabGetText
import Derived.Test.YtimiimedjfdlmabTxBlk
namespace Go.Proofs.Ytimiimedjfdlmab
open Go.RowKit
set_option linter.unusedVariables false

def tx0 : Tx5 := (0, ByteArray.empty, ByteArray.empty, 0, 0)
/-- What GetTx answers: the order, where it ends, whether it is one. -/
def getX (l : List UInt8) (p : Int) : Tx5 × Int × Bool :=
  if ((getN l p).2.2 && ((getT l (getN l p).2.1).2.2 && ((getT l (getT l (getN l p).2.1).2.1).2.2 && ((getN l (getT l (getT l (getN l p).2.1).2.1).2.1).2.2 && (getN l (getN l (getT l (getT l (getN l p).2.1).2.1).2.1).2.1).2.2)))) = true then
    (if txB ((getN l p).1, ⟨(getT l (getN l p).2.1).1.toArray⟩, ⟨(getT l (getT l (getN l p).2.1).2.1).1.toArray⟩, (getN l (getT l (getT l (getN l p).2.1).2.1).2.1).1, (getN l (getN l (getT l (getT l (getN l p).2.1).2.1).2.1).2.1).1) = true then
      (((getN l p).1, ⟨(getT l (getN l p).2.1).1.toArray⟩, ⟨(getT l (getT l (getN l p).2.1).2.1).1.toArray⟩, (getN l (getT l (getT l (getN l p).2.1).2.1).2.1).1, (getN l (getN l (getT l (getT l (getN l p).2.1).2.1).2.1).2.1).1), (getN l (getN l (getT l (getT l (getN l p).2.1).2.1).2.1).2.1).2.1, true)
    else (tx0, 0, false))
  else (tx0, 0, false)
theorem getX_is {l : List UInt8} {p k p1 p2 p3 am p4 no p5 : Int} {f to : List UInt8} {o1 o2 o3 o4 o5 : Bool} (h1 : getN l p = (k, p1, o1)) (h2 : getT l p1 = (f, p2, o2)) (h3 : getT l p2 = (to, p3, o3)) (h4 : getN l p3 = (am, p4, o4)) (h5 : getN l p4 = (no, p5, o5)) :
    getX l p = if (o1 && (o2 && (o3 && (o4 && o5)))) = true then (if txB (k, ⟨f.toArray⟩, ⟨to.toArray⟩, am, no) = true then ((k, ⟨f.toArray⟩, ⟨to.toArray⟩, am, no), p5, true) else (tx0, 0, false)) else (tx0, 0, false) := by
  unfold getX
  simp only [h1, h2, h3, h4, h5]
theorem getT_bd5 (l : List UInt8) (p : Int) : 0 ≤ (getT l p).2.1 ∧ (getT l p).2.1 ≤ l.length := by
  have h := getN_bd l p
  unfold getT
  split
  · simp only; omega
  · simp
theorem getT_len5 (l : List UInt8) (p : Int) : (getT l p).1.length ≤ l.length := by
  unfold getT
  split
  · simp only [List.length_take, List.length_drop]; omega
  · simp
theorem tx0V : txV tx0 = .agg #[.int .i64 0, .string { data := #[] }, .string { data := #[] }, .int .i64 0, .int .i64 0] := rfl
end Go.Proofs.Ytimiimedjfdlmab
