/- Quorums, on both sides, where the weights are small. -/
import Derived.Test.YtmpnjeglnljjpaaVsSumI
namespace Go.Proofs.Ytmpnjeglnljjpaa
open Go.RowKit
set_option linter.unusedVariables false

end Go.Proofs.Ytmpnjeglnljjpaa
