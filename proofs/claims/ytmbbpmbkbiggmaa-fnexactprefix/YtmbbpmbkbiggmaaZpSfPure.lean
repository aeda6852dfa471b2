/- What is safe, plain. -/
import Derived.Test.YtmbbpmbkbiggmaaZpWdMem
namespace Go.Proofs.Ytmbbpmbkbiggmaa
open Go.RowKit
set_option linter.unusedVariables false
theorem sfNd20:(Try.prog.info? 79).map (·.size)=some 20:=by kernel_rfl
theorem sfWd7:(Try.prog.info? 42).map (·.size)=some 7:=by kernel_rfl
theorem RdNs.sf20 {w:World} {a:Option Addr} {cap n:Nat} {l:List Nd} (h:RdNs w (.slice a n cap) l) (hl:0 < l.length):∃ b off,a=some ⟨b,off,none⟩/\n<=cap/\cap<=maxLen/\b < w.heap.size/\∀ i (h:i < l.length),∃ u,w.rangeAt b (off+i * 20) (noC l[i] u)/\RdNd w l[i] u:=by
  obtain ⟨Z,rfl,h⟩:=h
  rcases h with ⟨a',cap',e,rfl,hn⟩ | ⟨b,off,cap',h0,e,h1,h2,h3,h4⟩
  · simp at hl
  · simp only [Value.slice.injEq] at e
    obtain ⟨rfl,rfl,rfl⟩:=e
    refine ⟨b,off,rfl,h1,h2,h3,fun i hi=>?_⟩
    have hi':i < Z.length:=by simpa using hi
    refine ⟨Z[i].2,?_,?_⟩
    · simpa using (h4 i hi').1
    · simpa using (h4 i hi').2
theorem RdI.pre {w:World} {a:Option Addr} {n cap m:Nat} {l:List Int} (h:RdI w (.slice a n cap) l) (hn:n=l.length) (hm:m<=l.length):RdI w (.slice a m cap) (l.take m):=by
  rcases h with ⟨a',cap',e,rfl,hz⟩ | ⟨b,off,cap',h0,e,h1,h2,h3,h4⟩
  · simp only [Value.slice.injEq] at e
    obtain ⟨rfl,rfl,rfl⟩:=e
    simp only [List.length_nil,Nat.le_zero] at hm
    subst hm
    exact .inl ⟨a,cap,rfl,rfl,hz⟩
  · simp only [Value.slice.injEq] at e
    obtain ⟨rfl,rfl,rfl⟩:=e
    by_cases hz:m=0
    · subst hz
      exact .inl ⟨_,cap,rfl,rfl,fun h=>by cases h⟩
    · have hl:(l.take m).length=m:=by simp;omega
      refine .inr ⟨b,off,cap,fun e=>by rw [e] at hl;simp at hl;omega,by rw [hl],by omega,h2,h3,fun i hi=>?_⟩
      have hi':i < m:=by omega
      rw [List.getElem_take]
      exact h4 i (by omega)
theorem RdI.cap {w:World} {a:Option Addr} {n cap:Nat} {l:List Int} (h:RdI w (.slice a n cap) l):l.length<=cap:=by
  rcases h with ⟨a',cap',e,rfl,hz⟩ | ⟨b,off,cap',h0,e,h1,h2,h3,h4⟩
  · simp
  · simp only [Value.slice.injEq] at e
    omega
def bgB (a b:List Int):Bool:=decide (a.take (min a.length b.length)=b.take (min a.length b.length))
theorem bg_left {a b:List Int} (h:a.length<=b.length):bgB a b=decide (a.take a.length=b.take a.length):=by unfold bgB;rw [Nat.min_eq_left h]
theorem bg_right {a b:List Int} (h:b.length<=a.length):bgB a b=decide (a.take b.length=b.take b.length):=by unfold bgB;rw [Nat.min_eq_right h]
theorem bg_no {a b:List Int} {k:Nat} (h1:k < a.length) (h2:k < b.length) (h:a[k] ≠ b[k]):bgB a b=false:=by
  unfold bgB
  refine decide_eq_false (fun e=>h ?_)
  have e1:(a.take (min a.length b.length))[k]?=some a[k]:=by rw [List.getElem?_take_of_lt (by omega),List.getElem?_eq_getElem h1]
  have e2:(b.take (min a.length b.length))[k]?=some b[k]:=by rw [List.getElem?_take_of_lt (by omega),List.getElem?_eq_getElem h2]
  rw [e,e2] at e1
  exact (Option.some.inj e1).symm
theorem bg_yes {a b:List Int} {k:Nat} (h1:k<=a.length) (h2:k<=b.length) (h3:¬ (k < a.length/\k < b.length)) (h:a.take k=b.take k):bgB a b=true:=by
  unfold bgB
  rw [show min a.length b.length=k from by omega]
  exact decide_eq_true h
def prB (l:List Nd):Bool:=decide (∀ i (h:i < l.length) k (hk:k < i),bgB l[i].dn (l[k]'(by omega)).dn=true)
theorem pr_no {l:List Nd} {i k:Nat} (h:i < l.length) (hk:k < i) (hb:bgB l[i].dn (l[k]'(by omega)).dn=false):prB l=false:=by
  unfold prB
  refine decide_eq_false (fun e=>?_)
  rw [e i h k hk] at hb
  cases hb
theorem pr_yes {l:List Nd} (h:∀ i (h:i < l.length) k (hk:k < i),bgB l[i].dn (l[k]'(by omega)).dn=true):prB l=true:=by
  unfold prB
  exact decide_eq_true h
end Go.Proofs.Ytmbbpmbkbiggmaa
