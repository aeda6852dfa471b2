/- The sizes of lists, each told alike. -/
import Derived.Test.YtaidhenkijjcfaaGreatZqKsSz
import Derived.Test.YtaidhenkijjcfaaGreatZqVtOne
namespace Go.Proofs.YtaidhenkijjcfaaGreat
open Go.RowKit
set_option linter.unusedVariables false
def totVote (l:List Tr):Nat:=(l.map (·.2.2.size)).sum
def totGone (l:List Tr):Nat:=(l.map (·.2.2.size)).sum
def Szd (P:Prop) (m:Nat) (w:World) (e:Ending) (w':World):Prop:=∃ r:Int,e=.returned (.int .i64 r)/\(0<=r->P/\r<=(m:Int))/\Below w.heap.size w w'
end Go.Proofs.YtaidhenkijjcfaaGreat
