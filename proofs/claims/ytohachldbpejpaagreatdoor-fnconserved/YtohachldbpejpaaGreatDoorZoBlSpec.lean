/- A block. -/
import Derived.Test.YtohachldbpejpaaGreatDoorZoWdSpec
import Derived.Test.YtohachldbpejpaaGreatDoorZoLgDoS
namespace Go.Proofs.YtohachldbpejpaaGreatDoor
open Go.RowKit
set_option linter.unusedVariables false
end Go.Proofs.YtohachldbpejpaaGreatDoor
