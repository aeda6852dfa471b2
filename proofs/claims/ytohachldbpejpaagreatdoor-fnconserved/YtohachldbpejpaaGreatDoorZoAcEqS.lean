/- Accounts held against each other; their size. -/
import Derived.Test.YtohachldbpejpaaGreatDoorZoAcApp
namespace Go.Proofs.YtohachldbpejpaaGreatDoor
open Go.RowKit
set_option linter.unusedVariables false
def wgA (a:Ac):Nat:=a.1.size+a.2.2.2.2.length
def totA (l:List Ac):Nat:=(l.map wgA).sum
end Go.Proofs.YtohachldbpejpaaGreatDoor
