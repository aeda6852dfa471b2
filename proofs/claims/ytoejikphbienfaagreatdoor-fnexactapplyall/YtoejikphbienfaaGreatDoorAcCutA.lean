/- The kit's cut, with its range reckoned. -/
import Derived.Deep.DeepCutAuto
import Derived.Test.YtoejikphbienfaaGreatDoorJoin1
namespace Go.Proofs.YtoejikphbienfaaGreatDoor
end Go.Proofs.YtoejikphbienfaaGreatDoor
