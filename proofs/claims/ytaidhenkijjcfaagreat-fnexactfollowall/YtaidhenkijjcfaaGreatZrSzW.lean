/- The sizes of lists, each told alike, with what they count. -/
import Derived.Test.YtaidhenkijjcfaaGreatZrPfOpen
set_option maxRecDepth 20000
set_option maxHeartbeats 1000000
namespace Go.Proofs.YtaidhenkijjcfaaGreat
open Go.RowKit Go.ChangeShapes Go.WideShapes
set_option linter.unusedVariables false
section
variable {H:Type} {enc:TypeId × Value->H} {w:World} {base:Nat} {spare:Nat->Bool} {held:Bool}
theorem open_Nd {fuel:Nat} {cs:List Value} {x:DataW H × List MemPlace} (h:DataW.trod enc Tryz.prog w base spare held fuel 60 cs=some x) :
    ∃ (p:Nd) (u:Nv),cs=noC p u/\RdNd w p u/\FitNd p:=by
  obtain ⟨xs,n,_,_,hlen,hxl,hf⟩:=DataW.trod_struct Tryz.underlying60 h
  have h5:cs.length=20:=hlen.trans (by kernel_rfl)
  have hx5:xs.length=15:=hxl
  match cs,h5,xs,hx5 with
  | [c0,c1,c2,c3,c4,c5,c6,c7,c8,c9,c10,c11,c12,c13,c14,c15,c16,c17,c18,c19],_,[y0,y1,y2,y3,y4,y5,y6,y7,y8,y9,y10,y11,y12,y13,y14],_ =>
    have k_string:Tryz.prog.cellsOf 9=1:=by kernel_rfl
    have k_int:Tryz.prog.cellsOf 3=1:=by kernel_rfl
    have k_laws_Ledger:Tryz.prog.cellsOf 51=2:=by kernel_rfl
    have k_Slaws_Val:Tryz.prog.cellsOf 22=1:=by kernel_rfl
    have k_Slaws_Block:Tryz.prog.cellsOf 25=1:=by kernel_rfl
    have k_laws_Qc:Tryz.prog.cellsOf 28=3:=by kernel_rfl
    have k_laws_Tc:Tryz.prog.cellsOf 54=3:=by kernel_rfl
    have k_Slaws_Vote:Tryz.prog.cellsOf 55=1:=by kernel_rfl
    have k_Slaws_Gone:Tryz.prog.cellsOf 56=1:=by kernel_rfl
    have k_Sint:Tryz.prog.cellsOf 52=1:=by kernel_rfl
    have k_Slaws_Tx:Tryz.prog.cellsOf 57=1:=by kernel_rfl
    have k_Slaws_Proof:Tryz.prog.cellsOf 58=1:=by kernel_rfl
    have g0:DataW.trod enc Tryz.prog w base spare held n 9 [c0]=some y0:=by
      have e:=hf 0 _ rfl
      change DataW.trod enc Tryz.prog w base spare held n 9 (List.take (Tryz.prog.cellsOf 9) [c0,c1,c2,c3,c4,c5,c6,c7,c8,c9,c10,c11,c12,c13,c14,c15,c16,c17,c18,c19])=some y0 at e
      rw [k_string] at e
      exact e
    have g1:DataW.trod enc Tryz.prog w base spare held n 3 [c1]=some y1:=by
      have e:=hf 1 _ rfl
      change DataW.trod enc Tryz.prog w base spare held n 3 (List.take (Tryz.prog.cellsOf 3) [c1,c2,c3,c4,c5,c6,c7,c8,c9,c10,c11,c12,c13,c14,c15,c16,c17,c18,c19])=some y1 at e
      rw [k_int] at e
      exact e
    have g2:DataW.trod enc Tryz.prog w base spare held n 51 [c2,c3]=some y2:=by
      have e:=hf 2 _ rfl
      change DataW.trod enc Tryz.prog w base spare held n 51 (List.take (Tryz.prog.cellsOf 51) [c2,c3,c4,c5,c6,c7,c8,c9,c10,c11,c12,c13,c14,c15,c16,c17,c18,c19])=some y2 at e
      rw [k_laws_Ledger] at e
      exact e
    have g3:DataW.trod enc Tryz.prog w base spare held n 22 [c4]=some y3:=by
      have e:=hf 3 _ rfl
      change DataW.trod enc Tryz.prog w base spare held n 22 (List.take (Tryz.prog.cellsOf 22) [c4,c5,c6,c7,c8,c9,c10,c11,c12,c13,c14,c15,c16,c17,c18,c19])=some y3 at e
      rw [k_Slaws_Val] at e
      exact e
    have g4:DataW.trod enc Tryz.prog w base spare held n 25 [c5]=some y4:=by
      have e:=hf 4 _ rfl
      change DataW.trod enc Tryz.prog w base spare held n 25 (List.take (Tryz.prog.cellsOf 25) [c5,c6,c7,c8,c9,c10,c11,c12,c13,c14,c15,c16,c17,c18,c19])=some y4 at e
      rw [k_Slaws_Block] at e
      exact e
    have g5:DataW.trod enc Tryz.prog w base spare held n 3 [c6]=some y5:=by
      have e:=hf 5 _ rfl
      change DataW.trod enc Tryz.prog w base spare held n 3 (List.take (Tryz.prog.cellsOf 3) [c6,c7,c8,c9,c10,c11,c12,c13,c14,c15,c16,c17,c18,c19])=some y5 at e
      rw [k_int] at e
      exact e
    have g6:DataW.trod enc Tryz.prog w base spare held n 3 [c7]=some y6:=by
      have e:=hf 6 _ rfl
      change DataW.trod enc Tryz.prog w base spare held n 3 (List.take (Tryz.prog.cellsOf 3) [c7,c8,c9,c10,c11,c12,c13,c14,c15,c16,c17,c18,c19])=some y6 at e
      rw [k_int] at e
      exact e
    have g7:DataW.trod enc Tryz.prog w base spare held n 28 [c8,c9,c10]=some y7:=by
      have e:=hf 7 _ rfl
      change DataW.trod enc Tryz.prog w base spare held n 28 (List.take (Tryz.prog.cellsOf 28) [c8,c9,c10,c11,c12,c13,c14,c15,c16,c17,c18,c19])=some y7 at e
      rw [k_laws_Qc] at e
      exact e
    have g8:DataW.trod enc Tryz.prog w base spare held n 54 [c11,c12,c13]=some y8:=by
      have e:=hf 8 _ rfl
      change DataW.trod enc Tryz.prog w base spare held n 54 (List.take (Tryz.prog.cellsOf 54) [c11,c12,c13,c14,c15,c16,c17,c18,c19])=some y8 at e
      rw [k_laws_Tc] at e
      exact e
    have g9:DataW.trod enc Tryz.prog w base spare held n 3 [c14]=some y9:=by
      have e:=hf 9 _ rfl
      change DataW.trod enc Tryz.prog w base spare held n 3 (List.take (Tryz.prog.cellsOf 3) [c14,c15,c16,c17,c18,c19])=some y9 at e
      rw [k_int] at e
      exact e
    have g10:DataW.trod enc Tryz.prog w base spare held n 55 [c15]=some y10:=by
      have e:=hf 10 _ rfl
      change DataW.trod enc Tryz.prog w base spare held n 55 (List.take (Tryz.prog.cellsOf 55) [c15,c16,c17,c18,c19])=some y10 at e
      rw [k_Slaws_Vote] at e
      exact e
    have g11:DataW.trod enc Tryz.prog w base spare held n 56 [c16]=some y11:=by
      have e:=hf 11 _ rfl
      change DataW.trod enc Tryz.prog w base spare held n 56 (List.take (Tryz.prog.cellsOf 56) [c16,c17,c18,c19])=some y11 at e
      rw [k_Slaws_Gone] at e
      exact e
    have g12:DataW.trod enc Tryz.prog w base spare held n 52 [c17]=some y12:=by
      have e:=hf 12 _ rfl
      change DataW.trod enc Tryz.prog w base spare held n 52 (List.take (Tryz.prog.cellsOf 52) [c17,c18,c19])=some y12 at e
      rw [k_Sint] at e
      exact e
    have g13:DataW.trod enc Tryz.prog w base spare held n 57 [c18]=some y13:=by
      have e:=hf 13 _ rfl
      change DataW.trod enc Tryz.prog w base spare held n 57 (List.take (Tryz.prog.cellsOf 57) [c18,c19])=some y13 at e
      rw [k_Slaws_Tx] at e
      exact e
    have g14:DataW.trod enc Tryz.prog w base spare held n 58 [c19]=some y14:=by
      have e:=hf 14 _ rfl
      change DataW.trod enc Tryz.prog w base spare held n 58 (List.take (Tryz.prog.cellsOf 58) [c19])=some y14 at e
      rw [k_Slaws_Proof] at e
      exact e
    obtain ⟨z0,e0,_,f0⟩:=DataW.trod_string Tryz.underlying9 g0
    obtain ⟨z1,e1,_,f1⟩:=DataW.trod_int Tryz.underlying3 g1
    obtain ⟨z2,e2,_,f2⟩:∃ z,[c2]=[.int .i64 z]/\True/\(Lit.int .i64 z).wf=true:=ledger_wf g2
    obtain ⟨zz2,v2,l2,ee2,r2,n2,q2⟩:=open_ledger g2
    simp only [List.cons.injEq,and_true] at ee2 e2
    obtain ⟨-,ev2⟩:=ee2
    subst e2 ev2
    obtain ⟨l3,r3,n3,q3⟩:=opuVal g3
    obtain ⟨l4,r4,n4,q4⟩:=opuBlock g4
    obtain ⟨z5,e5,_,f5⟩:=DataW.trod_int Tryz.underlying3 g5
    obtain ⟨z6,e6,_,f6⟩:=DataW.trod_int Tryz.underlying3 g6
    obtain ⟨z7,b7,v7,l7,e7,r7,n7,q7,f7,ff7⟩:=open_qc9 g7
    simp only [List.cons.injEq,and_true] at e7
    obtain ⟨ea7,eb7,ec7⟩:=e7
    subst ea7 eb7 ec7
    obtain ⟨z8,v8,t8,l8,h8,e8,r8,rr8,n8,q8,nn8,f8⟩:=open_tc9 g8
    simp only [List.cons.injEq,and_true] at e8
    obtain ⟨ea8,eb8,ec8⟩:=e8
    subst ea8 eb8 ec8
    obtain ⟨z9,e9,_,f9⟩:=DataW.trod_int Tryz.underlying3 g9
    obtain ⟨l10,r10,n10,q10⟩:=opuVote g10
    obtain ⟨l11,r11,n11,q11⟩:=opuGone g11
    obtain ⟨l12,r12,n12⟩:=opuInt g12
    obtain ⟨l13,r13,n13,q13⟩:=opuTx g13
    obtain ⟨l14,r14,n14,q14⟩:=opuProof g14
    simp only [List.cons.injEq,and_true] at e0 e1 e5 e6 e9
    subst e0 e1 e5 e6 e9
    exact ⟨⟨z0,z1,z2,l2,l3,l4,z5,z6,z7,b7,l7,z8,l8,h8,z9,l10,l11,l12,l13,l14⟩,⟨c3,c4,c5,c10,c12,c13,c15,c16,c17,c18,c19⟩,rfl,⟨r2,r3,r4,r7,r8,rr8,r10,r11,r12,r13,r14⟩,⟨f0,f1,f2,n2,q2,n3,q3,n4,q4,f5,f6,f7,ff7,n7,q7,f8,n8,q8,nn8,f9,n10,q10,n11,q11,n12,n13,q13,n14,q14⟩⟩
end
end Go.Proofs.YtaidhenkijjcfaaGreat
namespace Go.Proofs.YtaidhenkijjcfaaGreat
open Go.RowKit
set_option linter.unusedVariables false
def SzdW (P:Prop) (W m:Nat) (w:World) (e:Ending) (w':World):Prop:=∃ r:Int,e=.returned (.int .i64 r)/\(0<=r->P/\(W:Int)+r<=(m:Int))/\Below w.heap.size w w'
def totG {α:Type} (f:α->Nat) (l:List α):Nat:=(l.map f).sum
theorem totG_snoc {α:Type} {f:α->Nat} {l:List α} {k:Nat} (h:k < l.length):totG f (l.take (k+1))=totG f (l.take k)+f l[k]:=by
  unfold totG
  rw [List.take_succ_eq_append_getElem h,List.map_append,List.sum_append]
  simp
theorem totG_map {α β:Type} (g:α->β) (f:β->Nat) (l:List α):totG f (l.map g)=totG (fun a=>f (g a)) l:=by
  unfold totG
  rw [List.map_map]
  rfl
theorem szwVal (v:Value) (l:List Vl) (m:Nat) (w:World) (hr:RdV w v l) (hm:m<=4000000) (hl:l.length<=maxLen) (hs:∀ a ∈ l,a.1.size<=maxLen) :
    Calls Tryz.prog 30 #[v,.int .i64 (m:Int)] w fun en w'=>SzdW (l.length<=4000000) (l.length) m w en w':=by
  have em:maxLen<=9223372036854775807:=by unfold maxLen;omega
  refine (szValN_any v l m w hr (by omega) (by omega) (fun a ha=>by have:=hs a ha;omega)).mono ?_
  rintro en w' ⟨r,h1,h2,h3⟩
  exact ⟨r,h1,fun h=>by have:=h2 h;exact ⟨by omega,by omega⟩,h3⟩
theorem szwBlock (v:Value) (l:List Bk) (m:Nat) (w:World) (hr:RdKs w v l) (hm:m<=4000000) (hl:l.length<=maxLen) (hs:∀ b ∈ l,FitK b) :
    Calls Tryz.prog 31 #[v,.int .i64 (m:Int)] w fun en w'=>SzdW (l.length<=4000000/\∀ b ∈ l,FewK b) ((l.length+totK l)) m w en w':=by
  refine (szBlockSN_any v l m w hr (by omega) hl hs).mono ?_
  rintro en w' ⟨r,h1,h2,h3⟩
  exact ⟨r,h1,fun h=>by
    have a:=h2 h
    exact ⟨⟨by omega,fun b hb=>by
      have t:=totK_at l b hb
      have f:=hs b hb
      unfold wgK at t
      exact ⟨by omega,by omega,by omega,by omega,by omega,f.qs,f.ws,f.ts,f.ns,f.ms,f.rs⟩⟩,by omega⟩,h3⟩
theorem szwQc (r b:Int) (v:Value) (l:List ByteArray) (m:Nat) (w:World) (hr:RdS w v l) (hm:m<=4000000) (hl:l.length<=maxLen) (hs:∀ s ∈ l,s.size<=maxLen) :
    Calls Tryz.prog 32 #[qcV r b v,.int .i64 (m:Int)] w fun en w'=>SzdW (l.length<=4000000) (l.length) m w en w':=by
  have em:maxLen<=9223372036854775807:=by unfold maxLen;omega
  refine (szQcN_any r b v l m w hr (by omega) (by omega) (fun a ha=>by have:=hs a ha;omega)).mono ?_
  rintro en w' ⟨r,h1,h2,h3⟩
  exact ⟨r,h1,fun h=>by have:=h2 h;exact ⟨by omega,by omega⟩,h3⟩
theorem szwTc (r:Int) (v u:Value) (l:List ByteArray) (n:List Int) (m:Nat) (w:World) (hr:RdS w v l) (hi:RdI w u n) (hm:m<=4000000) (hl:l.length<=maxLen) (hs:∀ s ∈ l,s.size<=maxLen) (hn:n.length<=maxLen) :
    Calls Tryz.prog 51 #[tcV r v u,.int .i64 (m:Int)] w fun en w'=>SzdW (l.length<=4000000/\n.length<=4000000) ((l.length+n.length)) m w en w':=by
  have em:maxLen<=9223372036854775807:=by unfold maxLen;omega
  refine (szTcN_any r v u l n m w hr hi (by omega) (by omega) (fun a ha=>by have:=hs a ha;omega) (by omega)).mono ?_
  rintro en w' ⟨r,h1,h2,h3⟩
  exact ⟨r,h1,fun h=>by have:=h2 h;exact ⟨⟨by omega,by omega⟩,by omega⟩,h3⟩
theorem szwVote (v:Value) (l:List Tr) (m:Nat) (w:World) (hr:RdR w v l) (hm:m<=4000000) (hl:l.length<=maxLen) (hs:∀ a ∈ l,a.2.2.size<=maxLen) :
    Calls Tryz.prog 52 #[v,.int .i64 (m:Int)] w fun en w'=>SzdW (l.length<=4000000/\l.length<=m) (0) m w en w':=by
  have em:maxLen<=9223372036854775807:=by unfold maxLen;omega
  refine (szVoteS_any v l m w hr (by omega) (by omega) (fun a ha=>by have:=hs a ha;omega)).mono ?_
  rintro en w' ⟨r,h1,h2,h3⟩
  exact ⟨r,h1,fun h=>by have:=h2 h;exact ⟨⟨by omega,by omega⟩,by omega⟩,h3⟩
theorem szwGone (v:Value) (l:List Tr) (m:Nat) (w:World) (hr:RdR w v l) (hm:m<=4000000) (hl:l.length<=maxLen) (hs:∀ a ∈ l,a.2.2.size<=maxLen) :
    Calls Tryz.prog 53 #[v,.int .i64 (m:Int)] w fun en w'=>SzdW (l.length<=4000000/\l.length<=m) (0) m w en w':=by
  have em:maxLen<=9223372036854775807:=by unfold maxLen;omega
  refine (szGoneS_any v l m w hr (by omega) (by omega) (fun a ha=>by have:=hs a ha;omega)).mono ?_
  rintro en w' ⟨r,h1,h2,h3⟩
  exact ⟨r,h1,fun h=>by have:=h2 h;exact ⟨⟨by omega,by omega⟩,by omega⟩,h3⟩
theorem szwInt (v:Value) (l:List Int) (m:Nat) (w:World) (hr:RdI w v l) (hm:m<=4000000) (hl:l.length<=maxLen) :
    Calls Tryz.prog 54 #[v,.int .i64 (m:Int)] w fun en w'=>SzdW (l.length<=4000000) (l.length) m w en w':=by
  have em:maxLen<=9223372036854775807:=by unfold maxLen;omega
  refine (szIntN_any v l m w hr (by omega) (by omega)).mono ?_
  rintro en w' ⟨r,h1,h2,h3⟩
  exact ⟨r,h1,fun h=>by have:=h2 h;exact ⟨by omega,by omega⟩,by rw [h3];exact Below.refl _ _⟩
theorem szwTx (v:Value) (l:List Tx5) (m:Nat) (w:World) (hr:RdT w v l) (hm:m<=4000000) (hl:l.length<=maxLen) (hs:∀ t ∈ l,t.2.1.size<=maxLen/\t.2.2.1.size<=maxLen) :
    Calls Tryz.prog 55 #[v,.int .i64 (m:Int)] w fun en w'=>SzdW (l.length<=4000000) (l.length) m w en w':=by
  have em:maxLen<=9223372036854775807:=by unfold maxLen;omega
  refine (szTxN_any v l m w hr (by omega) (by omega) (fun a ha=>by have:=hs a ha;omega)).mono ?_
  rintro en w' ⟨r,h1,h2,h3⟩
  exact ⟨r,h1,fun h=>by have:=h2 h;exact ⟨by omega,by omega⟩,h3⟩
theorem szwLedger (e:Int) (v:Value) (l:List Ac) (m:Nat) (w:World) (hr:RdA w v l) (hm:m<=4000000) (hl:l.length<=maxLen) (hs:∀ a ∈ l,a.1.size<=maxLen/\a.2.2.2.2.length<=maxLen) :
    Calls Tryz.prog 24 #[lgV e v,.int .i64 (m:Int)] w fun en w'=>SzdW ((l.length<=4000000/\∀ a ∈ l,a.2.2.2.2.length<=4000000)/\l.length+totA l<=m) 0 m w en w':=by
  have em:maxLen<=9223372036854775807:=by unfold maxLen;omega
  refine (szLedger_any e v l m w hr (by omega) (by omega) (fun a ha=>by have:=hs a ha;omega)).mono ?_
  rintro en w' ⟨r,h1,h2,h3⟩
  exact ⟨r,h1,fun h=>by
    obtain ⟨a,b⟩:=h2 h
    exact ⟨⟨⟨by omega,fun x hx=>by have:=totA_at l x hx;unfold wgA at this;omega⟩,by omega⟩,by omega⟩,h3⟩
end Go.Proofs.YtaidhenkijjcfaaGreat
