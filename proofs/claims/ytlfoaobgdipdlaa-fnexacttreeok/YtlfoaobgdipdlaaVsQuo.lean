/- Quorums, on both sides, where the weights are small. -/
import Derived.Test.YtlfoaobgdipdlaaVsSumI
namespace Go.Proofs.Ytlfoaobgdipdlaa
open Go.RowKit
set_option linter.unusedVariables false

end Go.Proofs.Ytlfoaobgdipdlaa
