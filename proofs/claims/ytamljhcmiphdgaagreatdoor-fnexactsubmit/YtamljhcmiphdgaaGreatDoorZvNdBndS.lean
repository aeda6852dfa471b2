/- How far the marks of a node reach whose pool has got an order more. -/
import Derived.Test.YtamljhcmiphdgaaGreatDoorZvNdSzW
namespace Go.Proofs.YtamljhcmiphdgaaGreatDoor
set_option linter.unusedVariables false
theorem fO_ (l:List Bk):totM l<=9 * l.length+5 * totK l:=by
 unfold totM totK
 induction l with
 | nil=>simp
 | cons b l ih=>simp only [List.map_cons,List.sum_cons,List.length_cons,mkN,wgK] at ih ⊢;omega
theorem nxs_le (l:List Ac):∀ k,nxs k l<=k+4 * l.length+2 * totA l:=by
 unfold totA
 induction l with
 | nil=>intro k;simp [nxs]
 | cons a l ih=>intro k;have:=ih (nx k a);simp only [nxs,List.map_cons,List.sum_cons,List.length_cons,wgA];unfold nx at this ⊢;omega
theorem kz_ (l:List Pf):∀ k,nxG nxPf k l<=k+3 * l.length+9 * totG wgPf l:=by
 unfold totG
 induction l with
 | nil=>intro k;simp [nxG]
 | cons a l ih=>intro k;have:=ih (nxPf k a);have h:=fO_ a.bs;simp only [nxG,List.map_cons,List.sum_cons,List.length_cons,wgPf];unfold nxPf at this ⊢;omega
theorem jV_ {α:Type} {f:α->Nat} {l:List α} {q:α} (h:q ∈ l):f q<=totG f l:=by
 unfold totG
 induction l with
 | nil=>simp at h
 | cons a l ih =>
  simp only [List.map_cons,List.sum_cons]
  rcases List.mem_cons.1 h with e | e
  ·subst e;omega
  ·have:=ih e;omega
theorem dF_ (p:Nd):nlNd 1 p<=1+4 * p.la.length+2 * totA p.la+2 * p.st.length+9 * p.tt.length+5 * totK p.tt+p.hw.length+p.tw.length+p.th.length+3 * p.vo.length+3 * p.go.length+p.dn.length+5 * p.pl.length+3 * p.ps.length+9 * totG wgPf p.ps:=by
 unfold nlNd
 have h1:=kz_ p.ps (nxs 1 p.la+2 * p.st.length+totM p.tt+p.hw.length+p.tw.length+p.th.length+3 * p.vo.length+3 * p.go.length+p.dn.length+5 * p.pl.length)
 have h2:=nxs_le p.la 1
 have h3:=fO_ p.tt
 omega
theorem gr_ (p:Nd) (h1:wgNd p<=1048576) (h2:p.la.length+totA p.la<=1048576) (h3:p.vo.length<=1048576) (h4:p.go.length<=1048576) :
  nlNd 1 p<=40000000/\(∀ b,nlNd 1 (rbP b p)<=40000000)/\p.tt.length<=3999999/\∀ q ∈ p.ps,q.bs.length<=3999999:=by
 unfold wgNd at h1
 have h5:=dF_ p
 refine ⟨by omega,fun b=>?_,by omega,fun q hq=>?_⟩
 ·cases b
  ·show nlNd 1 p<=40000000
   omega
  ·have h6:=dF_ (rbP true p)
   simp only [rbP,if_true,List.length_nil] at h6
   show nlNd 1 (rbP true p)<=40000000
   simp only [rbP,if_true]
   omega
 ·have h7:=jV_ (f:=wgPf) hq
  have h8:wgPf q=(q.bs.length+totK q.bs)+q.qw.length:=rfl
  omega
theorem aC_ {P:Program} {ops:Array Oper} {rest:List Oper} {op:Oper} {a:Act} {w:World} {Q:Exit->Act->World->Prop} (hw:Region.wanted op (yielded ops a.tmps)=true) (ty:TypeId) (x:Operand) (ho:op.op=.load ty x)
  (b o:Nat) (hx:a.eval x=.pointer (some ⟨b,o,none⟩)) (cs:List Value) (d:TypeDesc) (hc:w.rangeAt b o cs)
  (hu:P.underlying ty=some d) (hd:d.isRow=true) (hi:(P.info? ty).map (·.size)=some cs.length)
  (h:wpList P ops Q rest (a.put op.dst (.agg cs.toArray)) w):wpList P ops Q (op :: rest) a w :=
 wpList_step fun K hK=>by rw [if_pos hw];exact wp_load_mid ty x ho b o hx cs d hc hu hd hi (hK _ _ h)
theorem fn_ (p:Nd) (t:Tx5) (h1:wgNd p<=1048576) (h2:p.la.length+totA p.la<=1048576) (h3:p.vo.length<=1048576) (h4:p.go.length<=1048576) :
  nlNd 1 p<=40000000/\nlNd 1 (sbP p t)<=40000000/\p.tt.length<=3999999/\(∀ q ∈ p.ps,q.bs.length<=3999999)/\p.pl.length<=3999999:=by
 obtain ⟨k1,-,k3,k4⟩:=gr_ p h1 h2 h3 h4
 unfold wgNd at h1
 refine ⟨k1,?_,k3,k4,by omega⟩
 unfold sbP
 split
 ·have h6:=dF_ { p with pl:=(poS p.pl t).1 }
  have h7:=gT_ p.pl t
  simp only at h6
  omega
 ·exact k1
end Go.Proofs.YtamljhcmiphdgaaGreatDoor
