/- The model's AcctsOk. -/
import Derived.Test.YtfdbedenlbikgaaZlAcSpec
namespace Go.Proofs.Ytfdbedenlbikgaa
open Go.RowKit
set_option linter.unusedVariables false
def lvAt (l:List (Int × Int)) (i:Nat):Bool:=inB (l.getD i (0,0)).1 1 1000000 && (inB (l.getD i (0,0)).2 0 1000 && (decide (i=0) || decide ((l.getD (i - 1) (0,0)).2 < (l.getD i (0,0)).2)))
def lvsB (l:List (Int × Int)):Bool:=(List.range l.length).all (lvAt l)
def acB (a:Ac):Bool:=nmB a.1 && (inB a.2.1 0 1000000 && (inB a.2.2.1 0 10000 && (inB a.2.2.2.1 0 1000000 && (decide (a.2.2.2.2.length<=4) && lvsB a.2.2.2.2))))
end Go.Proofs.Ytfdbedenlbikgaa
namespace Go.Proofs.Ytfdbedenlbikgaa
open Go.RowKit Go.Sort
set_option linter.unusedVariables false
def ac0:Ac:=(ByteArray.empty,0,0,0,[])
def acAt (l:List Ac) (i:Nat):Bool:=acB (l.getD i ac0) && (decide (i=0) || Op.bytesLess (l.getD (i - 1) ac0).1.toList (l.getD i ac0).1.toList)
def acsB (l:List Ac):Bool:=(List.range l.length).all (acAt l) && (decide (l.length<=12) && decide (wealthA l<=1000000))
end Go.Proofs.Ytfdbedenlbikgaa
