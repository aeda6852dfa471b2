/- Structs loaded whole. -/
import Derived.Test.YtaidhenkijjcfaaGreatZqPfTo
namespace Go.Proofs.YtaidhenkijjcfaaGreat
open Go.RowKit Go.Sort
set_option linter.unusedVariables false
end Go.Proofs.YtaidhenkijjcfaaGreat
namespace Go.Proofs.YtaidhenkijjcfaaGreat
open Go.RowKit Go.Sort
set_option linter.unusedVariables false
theorem quiet_load_mid {P:Program} {ops:Array Oper} {C:World->Prop} {Q:Act->Prop} {rest:List Oper} {op:Oper} {a:Act} (T:TypeId) (x:Operand) (ho:op.op=.load T x) (b o:Nat) (hx:a.eval x=.pointer (some ⟨b,o,none⟩)) (cs:List Value) (d:TypeDesc) (hc:∀ w,C w->w.rangeAt b o cs)
    (hu:P.underlying T=some d) (hd:d.isRow=true) (hi:(P.info? T).map (·.size)=some cs.length) (hw:Region.wanted op (yielded ops a.tmps)=true) (h:wpQuiet P ops C Q rest (a.put op.dst (.agg cs.toArray))):wpQuiet P ops C Q (op :: rest) a:=by
  refine BigFrame.wpQuiet_want hw (fun K hK=>⟨.agg cs.toArray,fun w hw=>?_,hK _ h⟩)
  unfold Oper.quietAt execOp
  simp only [ho,hx,Instr.loadAt,Instr.sureAddr,Sem.run_bind,Sem.run_pure,Result.andThen_ok,run_loadVar_mid w b o T cs d (hc w hw) hu hd hi]
  exact ⟨rfl,rfl⟩
theorem range_regrown {w:World} {b o:Nat} {cs:List Value} (h:w.rangeAt b o cs) (hb:b < w.heap.size):∀ w',(∃ p:Regrown,w'=grow (redrawn w p.d) p.os)->w'.rangeAt b o cs:=fun w' hw=>by
  obtain ⟨p,rfl⟩:=hw
  exact range_below h (below_regrown w p.d p.os) hb
end Go.Proofs.YtaidhenkijjcfaaGreat
