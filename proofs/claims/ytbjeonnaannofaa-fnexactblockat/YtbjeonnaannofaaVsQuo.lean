/- Quorums, on both sides, where the weights are small. -/
import Derived.Test.YtbjeonnaannofaaVsSumI
namespace Go.Proofs.Ytbjeonnaannofaa
open Go.RowKit
set_option linter.unusedVariables false

end Go.Proofs.Ytbjeonnaannofaa
