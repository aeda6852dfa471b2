/- The kit's cut, with its range reckoned. -/
import Derived.Deep.DeepCutAuto
import Derived.Test.YtknmjahipekgpaaGreatDoorMem
namespace Go.Proofs.YtknmjahipekgpaaGreatDoor
end Go.Proofs.YtknmjahipekgpaaGreatDoor
