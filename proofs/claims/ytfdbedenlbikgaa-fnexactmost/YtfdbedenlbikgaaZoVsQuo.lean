/- Quorums, on both sides, where the weights are small. -/
import Derived.Test.YtfdbedenlbikgaaZoVsSum
namespace Go.Proofs.Ytfdbedenlbikgaa
open Go.RowKit
set_option linter.unusedVariables false
end Go.Proofs.Ytfdbedenlbikgaa
