/- The model's BlockOk. -/
import Derived.Test.YtohachldbpejpaaGreatDoorZoBkSpec
namespace Go.Proofs.YtohachldbpejpaaGreatDoor
open Go.RowKit Go.Sort
set_option linter.unusedVariables false
end Go.Proofs.YtohachldbpejpaaGreatDoor
