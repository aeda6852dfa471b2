/- What a node has to show of an epoch. -/
import Derived.Test.YtaidhenkijjcfaaGreatZrQtList
namespace Go.Proofs.YtaidhenkijjcfaaGreat
open Go.RowKit Go.Sort
set_option linter.unusedVariables false
theorem quiet_load_mid {P:Program} {ops:Array Oper} {C:World->Prop} {Q:Act->Prop} {rest:List Oper} {op:Oper} {a:Act} (T:TypeId) (x:Operand) (ho:op.op=.load T x) (b o:Nat) (hx:a.eval x=.pointer (some ⟨b,o,none⟩)) (cs:List Value) (d:TypeDesc) (hc:∀ w,C w->w.rangeAt b o cs)
    (hu:P.underlying T=some d) (hd:d.isRow=true) (hi:(P.info? T).map (·.size)=some cs.length) (hw:Region.wanted op (yielded ops a.tmps)=true) (h:wpQuiet P ops C Q rest (a.put op.dst (.agg cs.toArray))):wpQuiet P ops C Q (op :: rest) a:=by
  refine BigFrame.wpQuiet_want hw (fun K hK=>⟨.agg cs.toArray,fun w hw=>?_,hK _ h⟩)
  unfold Oper.quietAt execOp
  simp only [ho,hx,Instr.loadAt,Instr.sureAddr,Sem.run_bind,Sem.run_pure,Result.andThen_ok,run_loadVar_mid w b o T cs d (hc w hw) hu hd hi]
  exact ⟨rfl,rfl⟩
theorem range_regrown {w:World} {b o:Nat} {cs:List Value} (h:w.rangeAt b o cs) (hb:b < w.heap.size):∀ w',(∃ p:Regrown,w'=grow (redrawn w p.d) p.os)->w'.rangeAt b o cs:=fun w' hw=>by
  obtain ⟨p,rfl⟩:=hw
  exact range_below h (below_regrown w p.d p.os) hb
end Go.Proofs.YtaidhenkijjcfaaGreat
namespace Go.Proofs.YtaidhenkijjcfaaGreat
open Go.RowKit
set_option linter.unusedVariables false
def pfF (l:List Pf) (e:Int):Option Pf:=l.find? (fun q=>decide (q.ep=e))
def poZ:Pf:=⟨0,[],0,0,[]⟩
def poY:Pv:=⟨.slice none 0 0,.slice none 0 0⟩
def poP (l:List Pf) (e:Int):Pf:=(pfF l e).getD poZ
def poO (l:List Pf) (e:Int):Bool:=(pfF l e).isSome
theorem pfF_at (l:List Pf) (e:Int) (k:Nat) (hk:k < l.length) (he:l[k].ep=e) (hn:∀ j (h:j < l.length),j < k->¬ l[j].ep=e):pfF l e=some l[k] :=
  List.find?_eq_some_iff_getElem.2 ⟨by simp [he],k,hk,rfl,fun j hj=>by simp [hn j (by omega) hj]⟩
theorem pfF_none (l:List Pf) (e:Int) (hn:∀ j (h:j < l.length),¬ l[j].ep=e):pfF l e=none :=
  List.find?_eq_none.2 (fun x hx=>by obtain ⟨j,hj,rfl⟩:=List.mem_iff_getElem.1 hx;simp [hn j hj])
theorem pfF_mem {l:List Pf} {e:Int} {q:Pf} (h:pfF l e=some q):q ∈ l/\q.ep=e:=⟨List.mem_of_find?_eq_some h,by have:=List.find?_some h;simpa using this⟩
theorem poP_few {l:List Pf} (e:Int) (P:Pf->Prop) (h:∀ q ∈ l,P q) (hz:P poZ):P (poP l e):=by
  unfold poP
  cases hf:pfF l e with
  | none=>exact hz
  | some q=>exact h q (pfF_mem hf).1
theorem RdPs.atP {w:World} {a:Option Addr} {cap n:Nat} {l:List Pf} (h:RdPs w (.slice a n cap) l) (hl:0 < l.length):∃ b off,a=some ⟨b,off,none⟩/\b < w.heap.size/\∀ i (h:i < l.length),∃ u,w.rangeAt b (off+i * 5) (pfC l[i] u)/\RdPf w l[i] u:=by
  obtain ⟨Z,rfl,h⟩:=h
  rcases h with ⟨a',cap',e,rfl,hn⟩ | ⟨b,off,cap',h0,e,h1,h2,h3,h4⟩
  · simp at hl
  · simp only [Value.slice.injEq] at e
    refine ⟨b,off,e.1,h3,fun i hi=>?_⟩
    have hi':i < Z.length:=by simpa using hi
    refine ⟨Z[i].2,?_,?_⟩
    · simpa using (h4 i hi').1
    · simpa using (h4 i hi').2
theorem rdPf_zero (w:World):RdPf w poZ poY:=⟨.inl ⟨none,0,rfl,rfl,fun _=>rfl⟩,.inl ⟨none,0,rfl,rfl,fun _=>rfl⟩⟩
end Go.Proofs.YtaidhenkijjcfaaGreat
