/- What is a name. -/
import Derived.Test.YtfdbedenlbikgaaZlStrs
namespace Go.Proofs.Ytfdbedenlbikgaa
open Go.RowKit
set_option linter.unusedVariables false
def inB (x a b:Int):Bool:=decide (a<=x/\x<=b)
def nbB (x:Int):Bool:=inB x 97 122 || inB x 48 57
def nmB (s:ByteArray):Bool:=s.data.toList.all (fun c=>nbB (c.toNat:Int)) && inB s.size 1 8
end Go.Proofs.Ytfdbedenlbikgaa
