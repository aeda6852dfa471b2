/- The model's certificates. -/
import Derived.Test.YtfdbedenlbikgaaZlNames
import Derived.Test.YtfdbedenlbikgaaZlVsQuo
namespace Go.Proofs.Ytfdbedenlbikgaa
open Go.RowKit
set_option linter.unusedVariables false
def okAt (ls:List ByteArray) (i:Nat):Bool:=nmB (ls.getD i ByteArray.empty) && (decide (i=0) || Op.bytesLess (ls.getD (i - 1) ByteArray.empty).toList (ls.getD i ByteArray.empty).toList)
def nmsB (ls:List ByteArray):Bool:=(List.range ls.length).all (okAt ls) && decide (ls.length<=20)
def ModV (l:List Vl):Prop:=(0<=totalV l/\totalV l<=1000000000)/\∀ ns,0<=weightV l ns/\weightV l ns<=1000000000
def qcV (r b:Int) (vw:Value):Value:=.agg #[.int .i64 r,.int .i64 b,vw]
def rootB (r b:Int) (ns:List ByteArray):Bool:=decide (r=0) && (decide (b=-1) && decide (ns.length=0))
def allV (l:List Vl) (ns:List ByteArray):Bool:=ns.all (fun s=>hasN (l.map (·.1)) s) && nmsB ns
def quoB (l:List Vl) (ns:List ByteArray):Bool:=decide (2 * totalV l < 3 * weightV l ns)
def qcB (l:List Vl) (r b:Int) (ns:List ByteArray):Bool:=rootB r b ns || (inB r 1 10000 && (inB b 0 100000 && (allV l ns && quoB l ns)))
end Go.Proofs.Ytfdbedenlbikgaa
