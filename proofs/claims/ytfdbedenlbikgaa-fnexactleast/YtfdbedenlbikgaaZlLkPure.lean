/- How many are certain at each node of a row. -/
import Derived.Test.YtfdbedenlbikgaaZlSfPure
namespace Go.Proofs.Ytfdbedenlbikgaa
open Go.RowKit
set_option linter.unusedVariables false
def mnZ (l:List Int):Nat->Int
  | 0=>l.getD 0 0
  | k+1=>if l.getD (k+1) 0 < mnZ l k then l.getD (k+1) 0 else mnZ l k
def mxZ (l:List Int):Nat->Int
  | 0=>l.getD 0 0
  | k+1=>if mxZ l k < l.getD (k+1) 0 then l.getD (k+1) 0 else mxZ l k
def doneA (ns:List Nd):List Int:=ns.map (fun n=>(n.dn.length:Int))
def leB (l:List Int):Int:=if l.length=0 then 0 else mnZ l (l.length - 1)
def moB (l:List Int):Int:=if l.length=0 then 0 else mxZ l (l.length - 1)
def leS (l:List Int):Nat->Int
  | 0=>0
  | i+1=>if i=0\/l.getD i 0 < leS l i then l.getD i 0 else leS l i
def moS (l:List Int):Nat->Int
  | 0=>0
  | i+1=>if moS l i < l.getD i 0 then l.getD i 0 else moS l i
theorem leS_is (l:List Int):∀ k,leS l (k+1)=mnZ l k
  | 0=>by simp [leS,mnZ]
  | k+1=>by
    rw [leS,leS_is l k,mnZ]
    by_cases h:l.getD (k+1) 0 < mnZ l k
    · rw [if_pos (.inr h),if_pos h]
    · rw [if_neg (fun e=>by rcases e with e | e;omega;exact h e),if_neg h]
theorem leB_is (l:List Int):leS l l.length=leB l:=by
  unfold leB
  by_cases h:l.length=0
  · rw [if_pos h,h];rfl
  · rw [if_neg h]
    obtain ⟨k,hk⟩:=Nat.exists_eq_succ_of_ne_zero h
    rw [hk]
    exact leS_is l k
theorem doneA_len (ns:List Nd):(doneA ns).length=ns.length:=by simp [doneA]
theorem doneA_at {ns:List Nd} {i:Nat} (h:i < ns.length):(doneA ns).getD i 0=(ns[i].dn.length:Int):=by simp [doneA,List.getD,h]
theorem doneA_take {ns:List Nd} {i:Nat} (h:i < ns.length):(doneA ns).take i ++ [(ns[i].dn.length:Int)]=(doneA ns).take (i+1):=by
  have hl:i < (doneA ns).length:=by rw [doneA_len];exact h
  have e:(doneA ns)[i]=(ns[i].dn.length:Int):=by simp [doneA]
  rw [<- e]
  exact (List.take_append_getElem hl)
end Go.Proofs.Ytfdbedenlbikgaa
