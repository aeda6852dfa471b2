/- Accounts copied: the landed code's copiedAcct and copiedAccts, the model's l4Copy. -/
import Derived.Test.YtaidhenkijjcfaaAcApp
namespace Go.Proofs.Ytaidhenkijjcfaa
open Go.RowKit
set_option linter.unusedVariables false

end Go.Proofs.Ytaidhenkijjcfaa
