/- Quorums, on both sides, where the weights are small. -/
import Derived.Test.YtlfoaobgdipdlabVsSumI
namespace Go.Proofs.Ytlfoaobgdipdlab
open Go.RowKit
set_option linter.unusedVariables false

end Go.Proofs.Ytlfoaobgdipdlab
