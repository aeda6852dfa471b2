/- Chains in a tree, and what extends what, by the model. -/
import Derived.Test.YtamljhcmiphdgaaGreatDoorZvTrSpec
namespace Go.Proofs.YtamljhcmiphdgaaGreatDoor
open Go.RowKit
set_option linter.unusedVariables false
def qbAt (l:List Bk) (i:Nat):Int:=(l[i]?.map (·.qb)).getD (-1)
def idAt (l:List Bk) (i:Nat):Int:=(l[i]?.map (·.id)).getD 0
def upI (l:List Bk):Nat->Nat->List Nat
 | 0,_=>[]
 | n+1,i=>i :: (if atI l (qbAt l i) < 0 then [] else upI l n (atI l (qbAt l i)).toNat)
def upN (l:List Bk) (i:Nat):List Nat:=upI l (i+1) i
def chA (l:List Bk) (id:Int):List Nat:=if atI l id < 0 then [] else (upN l (atI l id).toNat).reverse
def coA (l:List Bk) (id:Int):List Int:=if treeB l=true then (chA l id).map (idAt l) else []
def exB (l:List Bk) (a b:Int):Bool:=treeB l && (if a=-1 then (decide (b=-1) || decide (0<=atI l b)) else ((chA l b).map (idAt l)).any (fun x=>decide (x=a)))
def slen:Value->Nat
 | .slice _ n _=>n
 | _=>0
theorem RdKs.parts9 {w:World} {a:Option Addr} {cap:Nat} {l:List Bk} (h:RdKs w (.slice a l.length cap) l) (hl:0 < l.length):∃ b off,a=some ⟨b,off,none⟩/\b < w.heap.size/\∀ i (h:i < l.length),∃ bv,BkAt w b (off+i * 14) l[i] bv/\RdK w l[i] bv:=by
 rcases h with ⟨a',cap',e,rfl,hn⟩ | ⟨b,off,cap',h0,e,h1,h2,h3,h4⟩
 ·simp at hl
 ·simp only [Value.slice.injEq] at e
  exact ⟨b,off,e.1,h3,h4⟩
def ofN (i:Nat):Int:=(i:Int)
structure UpTo (l:List Bk) (id0 id:Int) (O:List Nat):Prop where
 all:chA l id0=chA l id ++ O
 there:O=[]\/id < 0\/0<=atI l id
end Go.Proofs.YtamljhcmiphdgaaGreatDoor
