/- Accounts that ascend by their names. -/
import Derived.Test.YtfdbedenlbikgaaZlAcsOk
import Derived.Sort.Walk0
namespace Go.Proofs.Ytfdbedenlbikgaa
open Go.RowKit
set_option linter.unusedVariables false
def RowA (base:Nat) (w:World) (v:Value) (Z:List (Ac × Value)):Prop:=w.ownsRow base 135 5 v Z.length (Z.map acC).flatten
theorem Lvs.mono {base base':Nat} {w:World} {g:Nat} {Z:List (Ac × Value)} (h:Lvs base w g Z) (hB:base'<=base):Lvs base' w g Z:=⟨fun i hi=>(h.own i hi).mono hB,h.far,h.apart⟩
def Lt (s t:ByteArray):Prop:=Op.bytesLess s.toList t.toList=true
variable {β:Type}
def Asc (Z:List (Ac × β)):Prop:=Z.Pairwise (fun x y=>Lt x.1.1 y.1.1)
def insZ (q:Ac × β):List (Ac × β)->List (Ac × β)
  | []=>[q]
  | x :: t=>if Op.bytesLess x.1.1.toList q.1.1.toList=true then x :: insZ q t else if x.1.1=q.1.1 then q :: t else q :: x :: t
def insA (a:Ac):List Ac->List Ac
  | []=>[a]
  | x :: t=>if Op.bytesLess x.1.toList a.1.toList=true then x :: insA a t else if x.1=a.1 then a :: t else a :: x :: t
def getZ (s:ByteArray):List (Ac × β)->Option (Ac × β)
  | []=>none
  | x :: t=>if x.1.1=s then some x else getZ s t
def getA (s:ByteArray):List Ac->Option Ac
  | []=>none
  | x :: t=>if x.1=s then some x else getA s t
def AscA (l:List Ac):Prop:=l.Pairwise (fun x y=>Lt x.1 y.1)
def upA (s:ByteArray) (n:Int):List Ac->List Ac
  | []=>[]
  | x :: t=>if x.1=s then (x.1,wrap64 (x.2.1+n),x.2.2) :: t else x :: upA s n t
def plA (l:List Ac) (s:ByteArray):Nat->Nat
  | 0=>0
  | k+1=>if Op.bytesLess s.toList (l.getD k ac0).1.toList=true then plA l s k else k+1
def newAc (s:ByteArray):Ac:=(s,0,0,0,[])
def withA (l:List Ac) (s:ByteArray):List Ac:=if getA s l=none then l.take (plA l s l.length) ++ newAc s :: l.drop (plA l s l.length) else l
def aftA (l:List Ac) (s:ByteArray) (n:Int):Ac:=match getA s l with
  | some a=>(s,wrap64 (a.2.1+n),a.2.2)
  | none=>(s,wrap64 (0+n),0,0,[])
def crA (l:List Ac) (s:ByteArray) (n:Int):List Ac × Bool :=
  if (acsB l && nmB s && inB n 0 1000000)=true then (if acsB (insA (aftA l s n) l)=true then (insA (aftA l s n) l,true) else (l,false)) else (l,false)
end Go.Proofs.Ytfdbedenlbikgaa
