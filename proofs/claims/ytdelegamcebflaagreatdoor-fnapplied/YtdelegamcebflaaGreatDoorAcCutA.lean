/- The kit's cut, with its range reckoned. -/
import Derived.Deep.DeepCutAuto
import Derived.Test.YtdelegamcebflaaGreatDoorMem
namespace Go.Proofs.YtdelegamcebflaaGreatDoor
end Go.Proofs.YtdelegamcebflaaGreatDoor
