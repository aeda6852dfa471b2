/- Quorums, on both sides, where the weights are small. -/
import Derived.Test.YtkpnhgikkanfmaaVsSumI
namespace Go.Proofs.Ytkpnhgikkanfmaa
open Go.RowKit
set_option linter.unusedVariables false

end Go.Proofs.Ytkpnhgikkanfmaa
