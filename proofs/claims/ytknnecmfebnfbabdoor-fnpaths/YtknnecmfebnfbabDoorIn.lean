/- Whether a number lies between two others: the model's helper. -/
import Derived.Test.YtknnecmfebnfbabDoorMem
namespace Go.Proofs.YtknnecmfebnfbabDoor
open Go.RowKit
set_option linter.unusedVariables false

def inB (x a b : Int) : Bool := decide (a ≤ x ∧ x ≤ b)

end Go.Proofs.YtknnecmfebnfbabDoor
