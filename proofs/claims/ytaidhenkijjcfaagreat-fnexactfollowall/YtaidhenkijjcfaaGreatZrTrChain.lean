/- Chains in a tree, plainly. -/
import Derived.Test.YtaidhenkijjcfaaGreatZrBkOk
namespace Go.Proofs.YtaidhenkijjcfaaGreat
open Go.RowKit Go.Sort
set_option linter.unusedVariables false
end Go.Proofs.YtaidhenkijjcfaaGreat
namespace Go.Proofs.YtaidhenkijjcfaaGreat
open Go.RowKit
set_option linter.unusedVariables false
def qbAt (l:List Bk) (i:Nat):Int:=(l[i]?.map (·.qb)).getD (-1)
def idAt (l:List Bk) (i:Nat):Int:=(l[i]?.map (·.id)).getD 0
def upI (l:List Bk):Nat->Nat->List Nat
  | 0,_=>[]
  | n+1,i=>i :: (if atI l (qbAt l i) < 0 then [] else upI l n (atI l (qbAt l i)).toNat)
def upN (l:List Bk) (i:Nat):List Nat:=upI l (i+1) i
def chA (l:List Bk) (id:Int):List Nat:=if atI l id < 0 then [] else (upN l (atI l id).toNat).reverse
def coA (l:List Bk) (id:Int):List Int:=if treeB l=true then (chA l id).map (idAt l) else []
def exB (l:List Bk) (a b:Int):Bool:=treeB l && (if a=-1 then (decide (b=-1) || decide (0<=atI l b)) else ((chA l b).map (idAt l)).any (fun x=>decide (x=a)))
def slen:Value->Nat
  | .slice _ n _=>n
  | _=>0
end Go.Proofs.YtaidhenkijjcfaaGreat
