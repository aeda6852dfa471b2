/- Structs loaded whole. -/
import Derived.Test.YtfdbedenlbikgaaZlTgs
import Derived.Test.YtfdbedenlbikgaaZlQtList
import Derived.Test.YtfdbedenlbikgaaZlInr
namespace Go.Proofs.Ytfdbedenlbikgaa
open Go.RowKit Go.Sort
set_option linter.unusedVariables false
end Go.Proofs.Ytfdbedenlbikgaa
