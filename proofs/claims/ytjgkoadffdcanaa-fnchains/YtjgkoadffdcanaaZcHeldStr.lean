/- The laws' marks on texts are found again. -/
import Derived.Test.YtjgkoadffdcanaaZcMarkStr
import Derived.Deep.RegionWith
namespace Go.Proofs.Ytjgkoadffdcanaa
open Go.RowKit
set_option linter.unusedVariables false

end Go.Proofs.Ytjgkoadffdcanaa
