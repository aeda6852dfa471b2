/- Quorums, on both sides, where the weights are small. -/
import Derived.Test.YtlbbhkopeabfdaaVsSumI
namespace Go.Proofs.Ytlbbhkopeabfdaa
open Go.RowKit
set_option linter.unusedVariables false

end Go.Proofs.Ytlbbhkopeabfdaa
