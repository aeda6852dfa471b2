/- The laws' marks on accounts are found again. -/
import Derived.Test.YtkpnhgikkanfmaaAcMarkS
namespace Go.Proofs.Ytkpnhgikkanfmaa
open Go.RowKit
set_option linter.unusedVariables false

end Go.Proofs.Ytkpnhgikkanfmaa
