/- The 64 words of a block. -/
import Derived.Test.YtohachldbpejpaaGreatDoorZoIntKeep
import Derived.Deep.RegionHeldLaw
namespace Go.Proofs.YtohachldbpejpaaGreatDoor
open Go.RowKit
set_option linter.unusedVariables false
def allW (b:List Nat) (n:Nat):List Nat:=(List.range n).map (W b)
end Go.Proofs.YtohachldbpejpaaGreatDoor
