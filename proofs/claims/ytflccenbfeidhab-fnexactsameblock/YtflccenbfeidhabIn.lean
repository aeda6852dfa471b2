/- Whether a number lies between two others: the model's helper. -/
import Derived.Test.YtflccenbfeidhabMem
namespace Go.Proofs.Ytflccenbfeidhab
open Go.RowKit
set_option linter.unusedVariables false

def inB (x a b : Int) : Bool := decide (a ≤ x ∧ x ≤ b)

end Go.Proofs.Ytflccenbfeidhab
