/- Which words are right, plainly. -/
import Derived.Test.YtckahjabljffjaaGreatZwWdMem
import Derived.Test.YtckahjabljffjaaGreatZwBkOk
namespace Go.Proofs.YtckahjabljffjaaGreat
open Go.RowKit
set_option linter.unusedVariables false
structure FewM (m:Mg):Prop where
  b:m.bs.length<=4000000
  bs:∀ b ∈ m.bs,FewK b
  bt:∀ b ∈ m.bs,-9223372036854775808<=b.tr/\b.tr<=9223372036854775807
  q:m.qw.length<=4000000
  w:m.tw.length<=4000000
  h:m.th.length<=4000000
  qs:∀ s ∈ m.qw,s.size<=maxLen
  ws:∀ s ∈ m.tw,s.size<=maxLen
  t:m.tn.size<=maxLen
  vs:m.vw.size<=maxLen
  gs:m.gw.size<=maxLen
  gr:-9223372036854775808<=m.gr/\m.gr<=9223372036854775807
  tr:-9223372036854775808<=m.tr/\m.tr<=9223372036854775807
def oneB (ep:Int) (b:Bk):Bool:=decide (b.ep=ep) && blB b
def manyB (kd:Int) (n:Nat):Bool:=if kd=1 then decide (n=1) else if kd=4 then decide (n<=400) else decide (n=0)
def bsB (m:Mg):Bool:=manyB m.kd m.bs.length && m.bs.all (oneB m.ep)
def z3B (r k:Int) (s:ByteArray):Bool:=decide (r=0/\k=0/\s=⟨#[]⟩)
def vtB (m:Mg):Bool:=if m.kd=2 then inB m.vr 1 10000 && (inB m.vb 0 100000 && nmB m.vw) else z3B m.vr m.vb m.vw
def gnB (m:Mg):Bool:=if m.kd=3 then inB m.gr 1 10000 && (inB m.gh 0 (m.gr - 1) && (decide (m.gh=m.qr) && nmB m.gw)) else z3B m.gr m.gh m.gw
def qcW (qr qb:Int) (qw:List ByteArray):Bool:=rootB qr qb qw || (inB qr 1 10000 && (inB qb 0 100000 && nmsB qw))
def tcW (tr:Int) (tw:List ByteArray) (th:List Int):Bool:=noneB tr tw th || (inB tr 1 10000 && (nmsB tw && (decide (th.length=tw.length) && hisB tr th)))
def qM (m:Mg):Bool:=if m.kd=3\/m.kd=4 then qcW m.qr m.qb m.qw else rootB m.qr m.qb m.qw
def tM (m:Mg):Bool:=if m.kd=4 then tcW m.tr m.tw m.th else noneB m.tr m.tw m.th
def msgB (m:Mg):Bool:=inB m.kd 1 4 && (nmB m.tn && (inB m.ep 0 900 && (bsB m && (vtB m && (gnB m && (qM m && tM m))))))
theorem toList_nil {s:ByteArray} (h:s.toList=[]):s=⟨#[]⟩:=by
  rw [ByteArray.toList_eq] at h
  exact ByteArray.ext (Array.toList_inj.1 h)
theorem allO_no {ep:Int} {l:List Bk} {i:Nat} (hi:i < l.length) (h:oneB ep l[i]=false):l.all (oneB ep)=false:=by
  rw [List.all_eq_false]
  exact ⟨l[i],List.getElem_mem hi,by rw [h];simp⟩
theorem allO_yes {ep:Int} {l:List Bk} (h:∀ i (hi:i < l.length),oneB ep l[i]=true):l.all (oneB ep)=true:=by
  rw [List.all_eq_true]
  intro x hx
  obtain ⟨i,hi,rfl⟩:=List.getElem_of_mem hx
  exact h i hi
end Go.Proofs.YtckahjabljffjaaGreat
