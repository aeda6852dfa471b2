/- Structs loaded whole. -/
import Derived.Test.YtamljhcmiphdgaaGreatDoorZvTgs
import Derived.Test.YtamljhcmiphdgaaGreatDoorZvNdMem
namespace Go.Proofs.YtamljhcmiphdgaaGreatDoor
open Go.RowKit Go.Sort
set_option linter.unusedVariables false
theorem ah_ {P:Program} {ops:Array Oper} {C:World->Prop} {Qa:Act->Prop} {Q:Exit->Act->World->Prop} (hQ:∀ a w,C w->Qa a->Q .normal a w):∀ (l:List Oper) (a:Act) (w:World),C w->wpQuiet P ops C Qa l a->wpList P ops Q l a w
 | [],a,w,hw,h=>hQ a w hw h
 | o :: rest,a,w,hw,h=>by
  unfold wpQuiet at h
  unfold wpList
  split
  ·rename_i hg
   rw [if_pos hg] at h
   exact .inl (Oper.wp_of_quiet hw (fun a' w' hw' h'=>ah_ hQ rest a' w' hw' h') h)
  ·rename_i hg
   rw [if_neg hg] at h
   exact ah_ hQ rest _ w hw h
theorem u_ {P:Program} {id:Nat} {Q:Exit->Act->World->Prop} {a:Act} {w:World} {l:List Oper}
  (h:wpQuiet P l.toArray (fun w'=>∃ p:Regrown,w'=grow (redrawn w p.d) p.os) (fun a'=>∀ w',(∃ p:Regrown,w'=grow (redrawn w p.d) p.os)->Q .normal a' w') l a):(Code.region id l.toArray false).wp P Q a w :=
 wp_region_list (by
  have e:l.toArray.toList=l:=rfl
  rw [e]
  exact ah_ (fun a' w' hw' h'=>h' w' hw') l a w (regrown_of_below (br_ _ w)) h)
open Go.RowKit Go.Sort
theorem cB_ {P:Program} {ops:Array Oper} {rest:List Oper} {op:Oper} {a:Act} {w:World} {Q:Exit->Act->World->Prop} (T:TypeId) (x:Operand) (ho:op.op=.load T x) (b o:Nat) (hx:a.eval x=.pointer (some ⟨b,o,none⟩)) (cs:List Value) (d:TypeDesc) (hc:w.rangeAt b o cs)
  (hu:P.underlying T=some d) (hd:d.isRow=true) (hi:(P.info? T).map (·.size)=some cs.length) (hw:Region.wanted op (yielded ops a.tmps)=true) (hK:wpList P ops Q rest (a.put op.dst (.agg cs.toArray)) w):wpList P ops Q (op :: rest) a w:=by
 unfold wpList
 rw [if_pos hw]
 exact .inl (wp_load_mid T x ho b o hx cs d hc hu hd hi hK)
end Go.Proofs.YtamljhcmiphdgaaGreatDoor
