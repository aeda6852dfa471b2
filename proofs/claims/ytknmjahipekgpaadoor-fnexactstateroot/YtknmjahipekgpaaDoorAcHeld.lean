/- The laws' marks on accounts are found again. -/
import Derived.Test.YtknmjahipekgpaaDoorAcMarkS
namespace Go.Proofs.YtknmjahipekgpaaDoor
open Go.RowKit
set_option linter.unusedVariables false

end Go.Proofs.YtknmjahipekgpaaDoor
