/- How many are certain at each node of a row. -/
import Derived.Test.YtfdbedenlbikgaaZoSfPure
namespace Go.Proofs.Ytfdbedenlbikgaa
open Go.RowKit
set_option linter.unusedVariables false
def mnZ (l:List Int):Nat->Int
  | 0=>l.getD 0 0
  | k+1=>if l.getD (k+1) 0 < mnZ l k then l.getD (k+1) 0 else mnZ l k
def mxZ (l:List Int):Nat->Int
  | 0=>l.getD 0 0
  | k+1=>if mxZ l k < l.getD (k+1) 0 then l.getD (k+1) 0 else mxZ l k
def doneA (ns:List Nd):List Int:=ns.map (fun n=>(n.dn.length:Int))
def leB (l:List Int):Int:=if l.length=0 then 0 else mnZ l (l.length - 1)
def moB (l:List Int):Int:=if l.length=0 then 0 else mxZ l (l.length - 1)
def leS (l:List Int):Nat->Int
  | 0=>0
  | i+1=>if i=0\/l.getD i 0 < leS l i then l.getD i 0 else leS l i
def moS (l:List Int):Nat->Int
  | 0=>0
  | i+1=>if moS l i < l.getD i 0 then l.getD i 0 else moS l i
theorem moS_is (l:List Int) (h:∀ i,0<=l.getD i 0):∀ k,moS l (k+1)=mxZ l k
  | 0 => by
    have h0:=h 0
    rw [moS,mxZ]
    by_cases e:moS l 0 < l.getD 0 0
    · rw [if_pos e]
    · rw [if_neg e]
      rw [show moS l 0=0 from rfl] at e ⊢
      omega
  | k+1=>by rw [moS,moS_is l h k,mxZ]
theorem moB_is (l:List Int) (hp:∀ i,0<=l.getD i 0):moS l l.length=moB l:=by
  unfold moB
  by_cases h:l.length=0
  · rw [if_pos h,h];rfl
  · rw [if_neg h]
    obtain ⟨k,hk⟩:=Nat.exists_eq_succ_of_ne_zero h
    rw [hk]
    exact moS_is l hp k
theorem doneA_len (ns:List Nd):(doneA ns).length=ns.length:=by simp [doneA]
theorem doneA_at {ns:List Nd} {i:Nat} (h:i < ns.length):(doneA ns).getD i 0=(ns[i].dn.length:Int):=by simp [doneA,List.getD,h]
theorem doneA_pos (ns:List Nd) (i:Nat):0<=(doneA ns).getD i 0:=by
  by_cases h:i < ns.length
  · rw [doneA_at h];omega
  · have e:(doneA ns)[i]?=none:=List.getElem?_eq_none (by rw [doneA_len];omega)
    simp [List.getD,e]
theorem doneA_take {ns:List Nd} {i:Nat} (h:i < ns.length):(doneA ns).take i ++ [(ns[i].dn.length:Int)]=(doneA ns).take (i+1):=by
  have hl:i < (doneA ns).length:=by rw [doneA_len];exact h
  have e:(doneA ns)[i]=(ns[i].dn.length:Int):=by simp [doneA]
  rw [<- e]
  exact (List.take_append_getElem hl)
end Go.Proofs.Ytfdbedenlbikgaa
