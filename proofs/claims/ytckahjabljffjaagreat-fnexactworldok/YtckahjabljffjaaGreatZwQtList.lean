/- A plain region whose operations only read, walked by the cheap step of 'go_quiet'. -/
import Derived.Test.YtckahjabljffjaaGreatZwNdPure
import Derived.Test.YtckahjabljffjaaGreatZwBkSameP
import Derived.Test.YtckahjabljffjaaGreatZwMgPure
namespace Go.Proofs.YtckahjabljffjaaGreat
open Go.RowKit
set_option linter.unusedVariables false
def hasB (bs:List Bk) (b:Bk):Bool:=inB b.id 0 ((bs.length:Int) - 1) && (match bs[b.id.toNat]? with | some x=>sb9 x b | none=>true)
def realB (bs l:List Bk):Bool:=l.all (hasB bs)
def atB (ns:List Nd) (s:ByteArray):Bool:=ns.any (fun n=>decide (n.nm=s))
def bkAt (bs:List Bk) (i:Nat):Bool:=match bs[i]? with | some b=>decide (b.id=(i:Int)) && blB b | none=>true
def blocksB (bs:List Bk):Bool:=decide (bs.length<=1000) && (List.range bs.length).all (bkAt bs)
def upAt (ns:List Nd) (i:Nat):Bool:=match ns[i]? with | some n=>decide (i=0) || (match ns[i - 1]? with | some m=>Op.bytesLess m.nm.toList n.nm.toList | none=>true) | none=>true
def ndAt (fo:List ByteArray) (bs:List Bk) (ns:List Nd) (i:Nat):Bool:=match ns[i]? with | some n=>nodB n && (!hasN fo n.nm && (upAt ns i && realB bs n.tt)) | none=>true
def nodesB (fo:List ByteArray) (bs:List Bk) (ns:List Nd):Bool:=decide (ns.length<=12) && (List.range ns.length).all (ndAt fo bs ns)
def mgAt (bs:List Bk) (ns:List Nd) (m:Mg):Bool:=msgB m && (atB ns m.tn && realB bs m.bs)
def netB (bs:List Bk) (ns:List Nd) (ms:List Mg):Bool:=decide (ms.length<=400) && ms.all (mgAt bs ns)
def wdB (p:Wd):Bool:=lgB p.ep p.la && (nmsB p.fo && (blocksB p.bs && (nodesB p.fo p.bs p.ns && netB p.bs p.ns p.ms)))
theorem allW_no {α:Type} {f:α->Bool} {l:List α} {k:Nat} (hk:k < l.length) (h:f l[k]=false):l.all f=false:=by
  rw [List.all_eq_false]
  exact ⟨l[k],List.getElem_mem hk,by simp [h]⟩
theorem allW_yes {α:Type} {f:α->Bool} {l:List α} (h:∀ i (hi:i < l.length),f l[i]=true):l.all f=true:=by
  rw [List.all_eq_true]
  intro x hx
  obtain ⟨i,hi,rfl⟩:=List.mem_iff_getElem.1 hx
  exact h i hi
theorem anyW_yes {α:Type} {f:α->Bool} {l:List α} {k:Nat} (hk:k < l.length) (h:f l[k]=true):l.any f=true:=by
  rw [List.any_eq_true]
  exact ⟨l[k],List.getElem_mem hk,h⟩
theorem anyW_no {α:Type} {f:α->Bool} {l:List α} (h:∀ i (hi:i < l.length),f l[i]=false):l.any f=false:=by
  rw [List.any_eq_false]
  intro x hx
  obtain ⟨i,hi,rfl⟩:=List.mem_iff_getElem.1 hx
  simp [h i hi]
theorem rangeW_no {f:Nat->Bool} {n k:Nat} (hk:k < n) (h:f k=false):(List.range n).all f=false:=by
  rw [List.all_eq_false]
  exact ⟨k,List.mem_range.2 hk,by simp [h]⟩
theorem rangeW_yes {f:Nat->Bool} {n:Nat} (h:∀ i,i < n->f i=true):(List.range n).all f=true:=by
  rw [List.all_eq_true]
  intro x hx
  exact h x (List.mem_range.1 hx)
theorem hasB_out {bs:List Bk} {b:Bk} (h:inB b.id 0 ((bs.length:Int) - 1)=false):hasB bs b=false:=by unfold hasB;rw [h];rfl
theorem hasB_in {bs:List Bk} {b:Bk} (h:inB b.id 0 ((bs.length:Int) - 1)=true):∃ (k:Nat) (hk:k < bs.length),b.id=(k:Int)/\hasB bs b=sb9 bs[k] b:=by
  have h2:=h
  unfold inB at h2
  rw [decide_eq_true_eq] at h2
  have hk:b.id.toNat < bs.length:=by omega
  refine ⟨b.id.toNat,hk,by omega,?_⟩
  unfold hasB
  rw [h,List.getElem?_eq_getElem hk]
  rfl
end Go.Proofs.YtckahjabljffjaaGreat
namespace Go.Proofs.YtckahjabljffjaaGreat
open Go.RowKit Go.Sort
set_option linter.unusedVariables false
theorem wpList_of_quiet {P:Program} {ops:Array Oper} {C:World->Prop} {Qa:Act->Prop} {Q:Exit->Act->World->Prop} (hQ:∀ a w,C w->Qa a->Q .normal a w):∀ (l:List Oper) (a:Act) (w:World),C w->wpQuiet P ops C Qa l a->wpList P ops Q l a w
  | [],a,w,hw,h=>hQ a w hw h
  | o :: rest,a,w,hw,h=>by
    unfold wpQuiet at h
    unfold wpList
    split
    · rename_i hg
      rw [if_pos hg] at h
      exact .inl (Oper.wp_of_quiet hw (fun a' w' hw' h'=>wpList_of_quiet hQ rest a' w' hw' h') h)
    · rename_i hg
      rw [if_neg hg] at h
      exact wpList_of_quiet hQ rest _ w hw h
theorem wp_plain_quiet {P:Program} {id:Nat} {Q:Exit->Act->World->Prop} {a:Act} {w:World} {l:List Oper}
    (h:wpQuiet P l.toArray (fun w'=>∃ p:Regrown,w'=grow (redrawn w p.d) p.os) (fun a'=>∀ w',(∃ p:Regrown,w'=grow (redrawn w p.d) p.os)->Q .normal a' w') l a):(Code.region id l.toArray false).wp P Q a w :=
  wp_region_list (by
    have e:l.toArray.toList=l:=rfl
    rw [e]
    exact wpList_of_quiet (fun a' w' hw' h'=>h' w' hw') l a w (regrown_of_below (Below.refl _ w)) h)
end Go.Proofs.YtckahjabljffjaaGreat
