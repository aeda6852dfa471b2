/- The model's orders. -/
import Derived.Test.YtaidhenkijjcfaaGreatZoTrPure
namespace Go.Proofs.YtaidhenkijjcfaaGreat
open Go.RowKit
set_option linter.unusedVariables false
end Go.Proofs.YtaidhenkijjcfaaGreat
