/- The laws' marks on texts are found again. -/
import Derived.Test.YtlfoaobgdipdlaaMarkStr
import Derived.Deep.RegionWith
namespace Go.Proofs.Ytlfoaobgdipdlaa
open Go.RowKit
set_option linter.unusedVariables false

end Go.Proofs.Ytlfoaobgdipdlaa
