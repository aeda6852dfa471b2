/- What those who vote weigh, on both sides. -/
import Derived.Test.YtfdbedenlbikgaaZlVsMem
namespace Go.Proofs.Ytfdbedenlbikgaa
open Go.RowKit
set_option linter.unusedVariables false
def sumV (f:Vl->Int) (l:List Vl):Int:=l.foldl (fun s p=>wrap64 (s+f p)) 0
def hasN (ns:List ByteArray) (s:ByteArray):Bool:=ns.any (fun t=>decide (t=s))
def wtN (ns:List ByteArray) (p:Vl):Int:=if hasN ns p.1=true then p.2 else 0
def weightV (l:List Vl) (ns:List ByteArray):Int:=sumV (wtN ns) l
def totalV (l:List Vl):Int:=sumV (·.2) l
def leadV (l:List Vl) (r:Int):ByteArray:=if l.length=0\/r < 0 then ByteArray.empty else (l.getD (r.toNat % l.length) (ByteArray.empty,0)).1
end Go.Proofs.Ytfdbedenlbikgaa
