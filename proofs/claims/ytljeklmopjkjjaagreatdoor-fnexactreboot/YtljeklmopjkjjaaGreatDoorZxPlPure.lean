/- Pools plainly. -/
import Derived.Test.YtljeklmopjkjjaaGreatDoorZxAcMem
import Derived.Sort.Walk0
namespace Go.Proofs.YtljeklmopjkjjaaGreatDoor
open Go.RowKit
set_option linter.unusedVariables false
theorem less_as5 (s t:ByteArray) (h:Op.bytesLess s.toList t.toList=true):Op.bytesLess t.toList s.toList=false:=by
  rw [Go.Proofs.bytesLess_eq,decide_eq_true_iff] at h
  rw [Go.Proofs.bytesLess_eq,decide_eq_false_iff_not]
  exact fun h'=>List.lt_irrefl _ (List.lt_trans h h')
def tx0:Tx5:=(0,ByteArray.empty,ByteArray.empty,0,0)
def poAt (l:List Tx5) (i:Nat):Bool:=txB (l.getD i tx0) && (decide (i=0) || lessT (l.getD (i - 1) tx0) (l.getD i tx0))
def poolB (l:List Tx5):Bool:=(List.range l.length).all (poAt l) && decide (l.length<=20)
theorem pool_no (l:List Tx5) (k:Nat) (h:k < l.length) (hk:poAt l k=false):poolB l=false:=by
  unfold poolB
  have:(List.range l.length).all (poAt l)=false:=by
    rw [List.all_eq_false]
    exact ⟨k,List.mem_range.2 h,by simp [hk]⟩
  rw [this,Bool.false_and]
theorem pool_yes (l:List Tx5) (h:∀ j,j < l.length->poAt l j=true):poolB l=decide (l.length<=20):=by
  unfold poolB
  have:(List.range l.length).all (poAt l)=true:=by
    rw [List.all_eq_true]
    exact fun j hj=>h j (List.mem_range.1 hj)
  rw [this,Bool.true_and]
theorem getD_tx {l:List Tx5} {i:Nat} (h:i < l.length):l.getD i tx0=l[i]:=by
  rw [List.getD_eq_getElem?_getD,List.getElem?_eq_getElem h];rfl
theorem poAt_eq (l:List Tx5) (k:Nat) (a:Tx5) (h:k < l.length) (ha:l[k]=a):poAt l k=(txB a && (decide (k=0) || lessT (l.getD (k - 1) tx0) a)):=by
  unfold poAt;rw [getD_tx h,ha]
def insT (k:Nat) (t:Tx5) (l:List Tx5):List Tx5:=l.take k ++ t :: l.drop k
def buT (l:List Tx5) (t:Tx5):Nat->Nat
  | 0=>0
  | n+1=>if lessT t (l.getD n tx0)=true then buT l t n else n+1
def poS (l:List Tx5) (t:Tx5):List Tx5 × Bool:=if (poolB l && poolB (insT (buT l t l.length) t l))=true then (insT (buT l t l.length) t l,true) else (l,false)
def Plc (l:List Tx5) (t:Tx5) (k:Nat):Prop:=k<=l.length/\(k=0\/lessT (l.getD (k - 1) tx0) t=true)/\(k=l.length\/lessT (l.getD k tx0) t=false)
end Go.Proofs.YtljeklmopjkjjaaGreatDoor
