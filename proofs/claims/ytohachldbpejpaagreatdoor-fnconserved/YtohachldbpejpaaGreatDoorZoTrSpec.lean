/- Whether blocks are a tree, by the model. -/
import Derived.Test.YtohachldbpejpaaGreatDoorZoBkOk
namespace Go.Proofs.YtohachldbpejpaaGreatDoor
open Go.RowKit Go.Sort
set_option linter.unusedVariables false
end Go.Proofs.YtohachldbpejpaaGreatDoor
