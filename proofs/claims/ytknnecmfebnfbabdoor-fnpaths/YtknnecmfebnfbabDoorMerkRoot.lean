/- The model's roots. -/
import Derived.Test.YtknnecmfebnfbabDoorMerkSpec
import Derived.Test.YtknnecmfebnfbabDoorStrAt
import Derived.Deep.RegionWith
namespace Go.Proofs.YtknnecmfebnfbabDoor
open Go.RowKit
set_option linter.unusedVariables false


end Go.Proofs.YtknnecmfebnfbabDoor
