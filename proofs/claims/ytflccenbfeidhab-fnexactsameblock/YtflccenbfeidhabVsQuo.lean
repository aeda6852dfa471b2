/- Quorums, on both sides, where the weights are small. -/
import Derived.Test.YtflccenbfeidhabVsSumI
namespace Go.Proofs.Ytflccenbfeidhab
open Go.RowKit
set_option linter.unusedVariables false

end Go.Proofs.Ytflccenbfeidhab
