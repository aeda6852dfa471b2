/- The laws' marks on accounts are found again. -/
import Derived.Test.YtfdbedenlbikgaaZoAcMark
import Derived.Deep.RegionWith
namespace Go.Proofs.Ytfdbedenlbikgaa
open Go.RowKit
set_option linter.unusedVariables false
end Go.Proofs.Ytfdbedenlbikgaa
