/- Whether a number lies between two others: the model's helper. -/
import Derived.Test.YtimiimedjfdlmacMem
namespace Go.Proofs.Ytimiimedjfdlmac
open Go.RowKit
set_option linter.unusedVariables false

def inB (x a b : Int) : Bool := decide (a ≤ x ∧ x ≤ b)

end Go.Proofs.Ytimiimedjfdlmac
