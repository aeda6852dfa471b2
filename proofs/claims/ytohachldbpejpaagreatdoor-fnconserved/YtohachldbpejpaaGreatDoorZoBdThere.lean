/- Whether a place is one that a block may come behind. -/
import Derived.Test.YtohachldbpejpaaGreatDoorZoTrSpec
namespace Go.Proofs.YtohachldbpejpaaGreatDoor
open Go.RowKit
set_option linter.unusedVariables false
def qbAt (l:List Bk) (i:Nat):Int:=(l[i]?.map (·.qb)).getD (-1)
def idAt (l:List Bk) (i:Nat):Int:=(l[i]?.map (·.id)).getD 0
def upI (l:List Bk):Nat->Nat->List Nat
  | 0,_=>[]
  | n+1,i=>i :: (if atI l (qbAt l i) < 0 then [] else upI l n (atI l (qbAt l i)).toNat)
def upN (l:List Bk) (i:Nat):List Nat:=upI l (i+1) i
def chA (l:List Bk) (id:Int):List Nat:=if atI l id < 0 then [] else (upN l (atI l id).toNat).reverse
def coA (l:List Bk) (id:Int):List Int:=if treeB l=true then (chA l id).map (idAt l) else []
def exB (l:List Bk) (a b:Int):Bool:=treeB l && (if a=-1 then (decide (b=-1) || decide (0<=atI l b)) else ((chA l b).map (idAt l)).any (fun x=>decide (x=a)))
def slen:Value->Nat
  | .slice _ n _=>n
  | _=>0
def RevP (l X:List Int) (i:Nat):Prop:=X.length=l.length/\∀ t (h:t < l.length) (h2:t < X.length),X[t]=if t < i\/l.length - 1 - t < i then l[l.length - 1 - t] else l[t]
def ofN (i:Nat):Int:=(i:Int)
structure UpTo (l:List Bk) (id0 id:Int) (O:List Nat):Prop where
  all:chA l id0=chA l id ++ O
  there:O=[]\/id < 0\/0<=atI l id
def enAt (l:List Bk) (i:Nat):Bool:=(l[i]?.map (·.en)).getD false
def chT (l:List Bk) (id:Int):List Nat:=if treeB l=true then chA l id else []
def enB (l:List Bk) (id:Int):Bool:=(chT l id).any (enAt l)
def tsAt (l:List Bk) (i:Nat):List Tx5:=(l[i]?.map (·.ts)).getD []
def foL (e:Int) (z:List Ac) (l:List Bk) (C:List Nat):List Ac:=C.foldl (fun P i=>(alA e P (tsAt l i)).1) z
def laA (e:Int) (z:List Ac) (l:List Bk) (id:Int):List Ac × Bool :=
  if id=-1 then (z,true) else if (treeB l && decide (0<=atI l id))=true then (foL e z l (chA l id),true) else (z,false)
def thB (l:List Bk) (id:Int):Bool:=treeB l && (decide (id=-1) || decide (0<=atI l id))
end Go.Proofs.YtohachldbpejpaaGreatDoor
