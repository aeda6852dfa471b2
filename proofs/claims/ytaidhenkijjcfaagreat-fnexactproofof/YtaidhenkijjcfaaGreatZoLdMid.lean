/- Structs loaded whole. -/
import Derived.Test.YtaidhenkijjcfaaGreatZoTgs
import Derived.Test.YtaidhenkijjcfaaGreatZoInr
namespace Go.Proofs.YtaidhenkijjcfaaGreat
open Go.RowKit Go.Sort
set_option linter.unusedVariables false
end Go.Proofs.YtaidhenkijjcfaaGreat
namespace Go.Proofs.YtaidhenkijjcfaaGreat
open Go.RowKit Go.Sort
set_option linter.unusedVariables false
end Go.Proofs.YtaidhenkijjcfaaGreat
