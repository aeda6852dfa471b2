/- What is safe, plain. -/
import Derived.Test.YteefibiikampbaaGreatDoorZfLgApplyI
namespace Go.Proofs.YteefibiikampbaaGreatDoor
open Go.RowKit
set_option linter.unusedVariables false
def alS (e:Int) (s:List Ac × Nat) (t:Tx5):List Ac × Nat:=((apA e s.1 t).1,if (apA e s.1 t).2=0 then s.2+1 else s.2)
def alA (e:Int) (l:List Ac) (ts:List Tx5):List Ac × Nat:=ts.foldl (alS e) (l,0)
theorem alA_snoc (e:Int) (l:List Ac) (ts:List Tx5) (k:Nat) (h:k < ts.length):alA e l (ts.take (k+1))=alS e (alA e l (ts.take k)) ts[k]:=by
  rw [List.take_succ_eq_append_getElem h]
  unfold alA
  rw [List.foldl_append]
  rfl
theorem alS_len (e:Int):∀ (ts:List Tx5) (s:List Ac × Nat),(ts.foldl (alS e) s).2<=s.2+ts.length
  | [],s=>Nat.le_refl _
  | t :: ts,s=>by
    rw [List.foldl_cons]
    have h:=alS_len e ts (alS e s t)
    have h1:(alS e s t).2<=s.2+1:=by unfold alS;simp only;split <;> omega
    rw [List.length_cons]
    omega
theorem alA_len (e:Int) (l:List Ac) (ts:List Tx5):(alA e l ts).2<=ts.length:=by
  have:=alS_len e ts (l,0)
  simpa [alA] using this
theorem alS_is (e:Int):∀ (ts:List Tx5) (s:List Ac × Nat),(ts.foldl (alS e) s).1=s.1\/acsB (ts.foldl (alS e) s).1=true
  | [],s=>.inl rfl
  | t :: ts,s=>by
    rw [List.foldl_cons]
    rcases alS_is e ts (alS e s t) with h | h
    · rcases apA_is e s.1 t with h1 | h1
      · exact .inl (h.trans h1)
      · exact .inr (by rw [h];exact h1)
    · exact .inr h
theorem alA_few {e:Int} {l:List Ac} (ts:List Tx5) (hl:l.length<=3999999) (hall:∀ a ∈ l,a.1.size<=maxLen/\a.2.2.2.2.length<=3999999) :
    (alA e l ts).1.length<=3999999/\∀ a ∈ (alA e l ts).1,a.1.size<=maxLen/\a.2.2.2.2.length<=3999999:=by
  rcases alS_is e ts (l,0) with h | h
  · have h':(alA e l ts).1=l:=h
    rw [h']
    exact ⟨hl,hall⟩
  · have h':acsB (alA e l ts).1=true:=h
    refine ⟨by have:=(acs_parts h').1;omega,fun a ha=>?_⟩
    have hp:=ac_parts (acs_all h' a ha)
    have hn:=hp.1
    unfold nmB inB at hn
    simp only [Bool.and_eq_true,decide_eq_true_eq] at hn
    exact ⟨by unfold maxLen;omega,by omega⟩
theorem alS_bad {e:Int} {s:List Ac × Nat} {t:Tx5} (h:(apA e s.1 t).2 ≠ 0):alS e s t=s:=by
  unfold alS
  rw [apA_same h,if_neg h]
theorem alS_good {e:Int} {s:List Ac × Nat} {t:Tx5} (h:(apA e s.1 t).2=0):alS e s t=((apA e s.1 t).1,s.2+1):=by
  unfold alS
  rw [if_pos h]
theorem sfNd20:(Tryz.prog.info? 96).map (·.size)=some 20:=by kernel_rfl
theorem sfWd7:(Tryz.prog.info? 44).map (·.size)=some 7:=by kernel_rfl
theorem RdNs.sf20 {w:World} {a:Option Addr} {cap n:Nat} {l:List Nd} (h:RdNs w (.slice a n cap) l) (hl:0 < l.length):∃ b off,a=some ⟨b,off,none⟩/\n<=cap/\cap<=maxLen/\b < w.heap.size/\∀ i (h:i < l.length),∃ u,w.rangeAt b (off+i * 20) (noC l[i] u)/\RdNd w l[i] u:=by
  obtain ⟨Z,rfl,h⟩:=h
  rcases h with ⟨a',cap',e,rfl,hn⟩ | ⟨b,off,cap',h0,e,h1,h2,h3,h4⟩
  · simp at hl
  · simp only [Value.slice.injEq] at e
    obtain ⟨rfl,rfl,rfl⟩:=e
    refine ⟨b,off,rfl,h1,h2,h3,fun i hi=>?_⟩
    have hi':i < Z.length:=by simpa using hi
    refine ⟨Z[i].2,?_,?_⟩
    · simpa using (h4 i hi').1
    · simpa using (h4 i hi').2
theorem RdI.pre {w:World} {a:Option Addr} {n cap m:Nat} {l:List Int} (h:RdI w (.slice a n cap) l) (hn:n=l.length) (hm:m<=l.length):RdI w (.slice a m cap) (l.take m):=by
  rcases h with ⟨a',cap',e,rfl,hz⟩ | ⟨b,off,cap',h0,e,h1,h2,h3,h4⟩
  · simp only [Value.slice.injEq] at e
    obtain ⟨rfl,rfl,rfl⟩:=e
    simp only [List.length_nil,Nat.le_zero] at hm
    subst hm
    exact .inl ⟨a,cap,rfl,rfl,hz⟩
  · simp only [Value.slice.injEq] at e
    obtain ⟨rfl,rfl,rfl⟩:=e
    by_cases hz:m=0
    · subst hz
      exact .inl ⟨_,cap,rfl,rfl,fun h=>by cases h⟩
    · have hl:(l.take m).length=m:=by simp;omega
      refine .inr ⟨b,off,cap,fun e=>by rw [e] at hl;simp at hl;omega,by rw [hl],by omega,h2,h3,fun i hi=>?_⟩
      have hi':i < m:=by omega
      rw [List.getElem_take]
      exact h4 i (by omega)
theorem RdI.cap {w:World} {a:Option Addr} {n cap:Nat} {l:List Int} (h:RdI w (.slice a n cap) l):l.length<=cap:=by
  rcases h with ⟨a',cap',e,rfl,hz⟩ | ⟨b,off,cap',h0,e,h1,h2,h3,h4⟩
  · simp
  · simp only [Value.slice.injEq] at e
    omega
def bgB (a b:List Int):Bool:=decide (a.take (min a.length b.length)=b.take (min a.length b.length))
def prB (l:List Nd):Bool:=decide (∀ i (h:i < l.length) k (hk:k < i),bgB l[i].dn (l[k]'(by omega)).dn=true)
end Go.Proofs.YteefibiikampbaaGreatDoor
