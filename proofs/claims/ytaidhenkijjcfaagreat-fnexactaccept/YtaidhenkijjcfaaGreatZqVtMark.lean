/- Votes and leavings marked, with what they are then, and held against their marks. -/
import Derived.Test.YtaidhenkijjcfaaGreatZqVtOne
namespace Go.Proofs.YtaidhenkijjcfaaGreat
open Go.RowKit
set_option linter.unusedVariables false
end Go.Proofs.YtaidhenkijjcfaaGreat
namespace Go.Proofs.YtaidhenkijjcfaaGreat
open Go.RowKit Go.Sort
set_option linter.unusedVariables false
def mkR (k n:Nat):List Tr:=(List.range n).map (fun j=>(((k+3 * j:Nat):Int),((k+3 * j+1:Nat):Int),mtx (k+3 * j+2)))
end Go.Proofs.YtaidhenkijjcfaaGreat
