/- Structs loaded whole. -/
import Derived.Test.YtfdbedenlbikgaaZoTgs
import Derived.Test.YtfdbedenlbikgaaZoQtList
import Derived.Test.YtfdbedenlbikgaaZoInr
namespace Go.Proofs.Ytfdbedenlbikgaa
open Go.RowKit Go.Sort
set_option linter.unusedVariables false
end Go.Proofs.Ytfdbedenlbikgaa
