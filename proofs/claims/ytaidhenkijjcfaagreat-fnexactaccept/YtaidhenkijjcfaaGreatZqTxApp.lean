/- Orders put behind others, and copied. -/
import Derived.Test.YtaidhenkijjcfaaGreatZqBkVal
namespace Go.Proofs.YtaidhenkijjcfaaGreat
open Go.RowKit
set_option linter.unusedVariables false
end Go.Proofs.YtaidhenkijjcfaaGreat
