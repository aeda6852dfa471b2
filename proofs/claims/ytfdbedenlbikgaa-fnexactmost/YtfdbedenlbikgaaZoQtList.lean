/- A plain region whose operations only read, walked by the cheap step of 'go_quiet'. -/
import Derived.Test.YtfdbedenlbikgaaZoStrs
import Derived.Lib.QuietBelow
namespace Go.Proofs.Ytfdbedenlbikgaa
open Go.RowKit Go.Sort
set_option linter.unusedVariables false
end Go.Proofs.Ytfdbedenlbikgaa
