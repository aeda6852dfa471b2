/- The kit's cut, with its range reckoned. -/
import Derived.Deep.DeepCutAuto
import Derived.Test.YtceefkpcjonljaaGreatDoorJoin1
namespace Go.Proofs.YtceefkpcjonljaaGreatDoor
end Go.Proofs.YtceefkpcjonljaaGreatDoor
