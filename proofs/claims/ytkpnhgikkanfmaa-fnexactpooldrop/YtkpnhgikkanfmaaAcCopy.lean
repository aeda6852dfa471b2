/- Accounts copied: the landed code's copiedAcct and copiedAccts, the model's l4Copy. -/
import Derived.Test.YtkpnhgikkanfmaaAcApp
namespace Go.Proofs.Ytkpnhgikkanfmaa
open Go.RowKit
set_option linter.unusedVariables false

end Go.Proofs.Ytkpnhgikkanfmaa
