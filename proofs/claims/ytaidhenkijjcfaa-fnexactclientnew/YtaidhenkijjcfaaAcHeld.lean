/- The laws' marks on accounts are found again. -/
import Derived.Test.YtaidhenkijjcfaaAcMarkS
namespace Go.Proofs.Ytaidhenkijjcfaa
open Go.RowKit
set_option linter.unusedVariables false

end Go.Proofs.Ytaidhenkijjcfaa
