/- GetNum: the program's and the model's answer alike, at all bytes and all places. -/
import Derived.Test.YtimiimedjfdlmabIn
import Derived.Test.YtimiimedjfdlmabPure
namespace Go.Proofs.Ytimiimedjfdlmab
open Go.RowKit
set_option linter.unusedVariables false

def tri (x : Int × Int × Bool) : Value := .tuple #[.int .i64 x.1, .int .i64 x.2.1, .bool x.2.2]
theorem ret_tri {a : Int} {b : Int} {c : Bool} {x : Int × Int × Bool} (h : x = (a, b, c)) : Ending.returned (.tuple #[.int .i64 a, .int .i64 b, .bool c]) = .returned (tri x) := by
  rw [h]; rfl

theorem getN_out (l : List UInt8) (p : Int) (h : p < 0 ∨ l.length ≤ p) : getN l p = (0, 0, false) := by
  unfold getN; rw [if_neg (by omega)]

end Go.Proofs.Ytimiimedjfdlmab
