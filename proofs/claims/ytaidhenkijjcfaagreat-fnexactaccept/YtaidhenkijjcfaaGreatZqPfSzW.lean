/- A proof. -/
import Derived.Test.YtaidhenkijjcfaaGreatZqPfSz
set_option maxRecDepth 20000
set_option maxHeartbeats 8000000
namespace Go.Proofs.YtaidhenkijjcfaaGreat
open Go.RowKit
set_option linter.unusedVariables false
def SzdW (P:Prop) (W m:Nat) (w:World) (e:Ending) (w':World):Prop:=∃ r:Int,e=.returned (.int .i64 r)/\(0<=r->P/\(W:Int)+r<=(m:Int))/\Below w.heap.size w w'
def totG {α:Type} (f:α->Nat) (l:List α):Nat:=(l.map f).sum
theorem szwBlock (v:Value) (l:List Bk) (m:Nat) (w:World) (hr:RdKs w v l) (hm:m<=4000000) (hl:l.length<=maxLen) (hs:∀ b ∈ l,FitK b) :
    Calls Tryz.prog 31 #[v,.int .i64 (m:Int)] w fun en w'=>SzdW (l.length<=4000000/\∀ b ∈ l,FewK b) ((l.length+totK l)) m w en w':=by
  refine (szBlockSN_any v l m w hr (by omega) hl hs).mono ?_
  rintro en w' ⟨r,h1,h2,h3⟩
  exact ⟨r,h1,fun h=>by
    have a:=h2 h
    exact ⟨⟨by omega,fun b hb=>by
      have t:=totK_at l b hb
      have f:=hs b hb
      unfold wgK at t
      exact ⟨by omega,by omega,by omega,by omega,by omega,f.qs,f.ws,f.ts,f.ns,f.ms,f.rs⟩⟩,by omega⟩,h3⟩
theorem szwQc (r b:Int) (v:Value) (l:List ByteArray) (m:Nat) (w:World) (hr:RdS w v l) (hm:m<=4000000) (hl:l.length<=maxLen) (hs:∀ s ∈ l,s.size<=maxLen) :
    Calls Tryz.prog 32 #[qcV r b v,.int .i64 (m:Int)] w fun en w'=>SzdW (l.length<=4000000) (l.length) m w en w':=by
  have em:maxLen<=9223372036854775807:=by unfold maxLen;omega
  refine (szQcN_any r b v l m w hr (by omega) (by omega) (fun a ha=>by have:=hs a ha;omega)).mono ?_
  rintro en w' ⟨r,h1,h2,h3⟩
  exact ⟨r,h1,fun h=>by have:=h2 h;exact ⟨by omega,by omega⟩,h3⟩
def wgPf (p:Pf):Nat:=(p.bs.length+totK p.bs)+p.qw.length
theorem szwProof_one (p:Pf) (u:Pv) (m:Nat) (w:World) (hr:RdPf w p u) (hm:m<=4000000) (hf:FitPf p) :
    Calls Tryz.prog 7 #[pfV p u,.int .i64 (m:Int)] w fun e w'=>SzdW (FewPf p) (wgPf p) m w e w':=by
  have hlb:=hf.lb
  have hgb:=hf.gb
  have hlw:=hf.lw
  have hgw:=hf.gw
  clear hf
  obtain ⟨ep,bs,qr,qb,qw⟩:=p
  obtain ⟨yb,yw⟩:=u
  obtain ⟨hyb,hyw⟩:=hr
  simp only at *
  obtain ⟨adb,cpb,rfl⟩:=hyb.shape
  obtain ⟨adw,cpw,rfl⟩:=hyw.shape
  have E1:=hide (fun (k:Nat) (hk:k<=4000000) V (hV:Below w.heap.size w V)=>szwBlock (.slice adb bs.length cpb) bs k V (hyb.below hV (Nat.le_refl _)) hk hlb hgb)
  have E2:=hide (fun (k:Nat) (hk:k<=4000000) V (hV:Below w.heap.size w V)=>szwQc qr qb (.slice adw qw.length cpw) qw k V (hyw.below hV (Nat.le_refl _)) hk hlw hgw)
  clear hyb hlb hgb
  clear hyw hlw hgw
  simp only [pfV,qcV] at *
  obtain ⟨S0,hS0⟩:∃ x,w.alloc (.cells #[.int .i64 ep,.slice adb bs.length cpb,.int .i64 qr,.int .i64 qb,.slice adw qw.length cpw] 30)=x:=⟨_,rfl⟩
  have k0:Blk S0 w.heap.size 30 [.int .i64 ep,.slice adb bs.length cpb,.int .i64 qr,.int .i64 qb,.slice adw qw.length cpw]:=by rw [<- hS0];exact Blk.new w _ _
  have b0:Below w.heap.size w S0:=by rw [<- hS0];exact (Below.refl _ w).alloc (Nat.le_refl _) _
  obtain ⟨m0,em0⟩:∃ k:Nat,k=m:=⟨_,rfl⟩
  rw [<- em0]
  have hm0:m0<=4000000:=by omega
  have W0:=hide (show ((0:Nat):Int)+(m0:Int)<=(m0:Int) from by omega)
  clear em0 hm
  have x1:=k0.cell 1
  simp only [List.getElem?_cons_zero,List.getElem?_cons_succ] at x1
  have K0:=hide k0
  clear k0
  go_enter Tryz.func7,Tryz.ntmps7
  go_wp2_with fail
  (try rw [hS0])
  clear hS0
  refine (E1.out m0 hm0 _ b0).mono ?_
  rintro e w1 ⟨q1,rfl,f1,hb1⟩
  have k1:=K0.out.below hb1 K0.out.lt
  have b1:=b0.trans (hb1.mono b0.size)
  clear x1 K0 b0 hb1 E1
  by_cases zq1:q1 < 0
  · clear f1 k1
    go_wp2
    go_ret
    exact ⟨_,rfl,fun h=>by omega,b1⟩
  obtain ⟨m1,em1⟩:∃ k:Nat,q1=(k:Int):=⟨q1.toNat,by omega⟩
  subst em1
  obtain ⟨fa1,fb1⟩:=f1 (by omega)
  have X1:=hide fa1
  have hm1:m1<=4000000:=by omega
  have W1:=hide (show ((0+(bs.length+totK bs):Nat):Int)+(m1:Int)<=(m0:Int) from by have:=W0.out;omega)
  clear f1 fa1 fb1 W0
  have x2:=k1.cell 2
  have x3:=k1.cell 3
  have x4:=k1.cell 4
  simp only [List.getElem?_cons_zero,List.getElem?_cons_succ] at x2 x3 x4
  have K1:=hide k1
  clear k1
  go_wp2_with fail
  refine (E2.out m1 hm1 _ b1).mono ?_
  rintro e w2 ⟨q2,rfl,f2,hb2⟩
  have k2:=K1.out.below hb2 K1.out.lt
  have b2:=b1.trans (hb2.mono b1.size)
  clear x2 x3 x4 K1 b1 hb2 E2
  by_cases zq2:q2 < 0
  · clear f2 k2
    go_wp2
    go_ret
    exact ⟨_,rfl,fun h=>by omega,b2⟩
  obtain ⟨m2,em2⟩:∃ k:Nat,q2=(k:Int):=⟨q2.toNat,by omega⟩
  subst em2
  obtain ⟨fa2,fb2⟩:=f2 (by omega)
  have X2:=hide fa2
  have hm2:m2<=4000000:=by omega
  have W2:=hide (show ((0+(bs.length+totK bs)+qw.length:Nat):Int)+(m2:Int)<=(m0:Int) from by have:=W1.out;omega)
  clear f2 fa2 fb2 W1
  clear k2
  go_wp2
  go_ret
  exact ⟨_,rfl,fun _=>⟨⟨X1.out.1,X1.out.2,X2.out⟩,by have:=W2.out;unfold wgPf;simp only;omega⟩,b2⟩
end Go.Proofs.YtaidhenkijjcfaaGreat
