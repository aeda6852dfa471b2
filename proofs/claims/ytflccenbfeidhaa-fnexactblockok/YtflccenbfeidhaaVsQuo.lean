/- Quorums, on both sides, where the weights are small. -/
import Derived.Test.YtflccenbfeidhaaVsSumI
namespace Go.Proofs.Ytflccenbfeidhaa
open Go.RowKit
set_option linter.unusedVariables false

end Go.Proofs.Ytflccenbfeidhaa
