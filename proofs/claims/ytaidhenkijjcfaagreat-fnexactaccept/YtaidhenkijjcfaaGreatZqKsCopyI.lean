/- A copy of a list of blocks, of the landed code. -/
import Derived.Test.YtaidhenkijjcfaaGreatZqPfTo
import Derived.Test.YtaidhenkijjcfaaGreatZqKsApp
namespace Go.Proofs.YtaidhenkijjcfaaGreat
open Go.RowKit
set_option linter.unusedVariables false
section
variable {α:Type}
end
end Go.Proofs.YtaidhenkijjcfaaGreat
