/- A node. -/
import Derived.Test.YtfdbedenlbikgaaZoOpU
set_option maxRecDepth 20000
set_option maxHeartbeats 1000000
namespace Go.Proofs.Ytfdbedenlbikgaa
open Go.RowKit Go.ChangeShapes Go.WideShapes
set_option linter.unusedVariables false
section
variable {H:Type} {enc:TypeId × Value->H} {w:World} {base:Nat} {spare:Nat->Bool} {held:Bool}
theorem open_Pf {fuel:Nat} {cs:List Value} {x:DataW H × List MemPlace} (h:DataW.trod enc Try.prog w base spare held fuel 167 cs=some x) :
    ∃ (p:Pf) (u:Pv),cs=pfC p u/\RdPf w p u/\FitPf p:=by
  obtain ⟨xs,n,_,_,hlen,hxl,hf⟩:=DataW.trod_struct Try.underlying167 h
  have h5:cs.length=5:=hlen.trans (by kernel_rfl)
  have hx5:xs.length=3:=hxl
  match cs,h5,xs,hx5 with
  | [c0,c1,c2,c3,c4],_,[y0,y1,y2],_ =>
    have k_int:Try.prog.cellsOf 3=1:=by kernel_rfl
    have k_Slaws_Block:Try.prog.cellsOf 27=1:=by kernel_rfl
    have k_laws_Qc:Try.prog.cellsOf 81=3:=by kernel_rfl
    have g0:DataW.trod enc Try.prog w base spare held n 3 [c0]=some y0:=by
      have e:=hf 0 _ rfl
      change DataW.trod enc Try.prog w base spare held n 3 (List.take (Try.prog.cellsOf 3) [c0,c1,c2,c3,c4])=some y0 at e
      rw [k_int] at e
      exact e
    have g1:DataW.trod enc Try.prog w base spare held n 27 [c1]=some y1:=by
      have e:=hf 1 _ rfl
      change DataW.trod enc Try.prog w base spare held n 27 (List.take (Try.prog.cellsOf 27) [c1,c2,c3,c4])=some y1 at e
      rw [k_Slaws_Block] at e
      exact e
    have g2:DataW.trod enc Try.prog w base spare held n 81 [c2,c3,c4]=some y2:=by
      have e:=hf 2 _ rfl
      change DataW.trod enc Try.prog w base spare held n 81 (List.take (Try.prog.cellsOf 81) [c2,c3,c4])=some y2 at e
      rw [k_laws_Qc] at e
      exact e
    obtain ⟨z0,e0,_,f0⟩:=DataW.trod_int Try.underlying3 g0
    obtain ⟨l1,r1,n1,q1⟩:=opuBlock g1
    obtain ⟨z2,b2,v2,l2,e2,r2,n2,q2,f2,ff2⟩:=open_qc9 g2
    simp only [List.cons.injEq,and_true] at e2
    obtain ⟨ea2,eb2,ec2⟩:=e2
    subst ea2 eb2 ec2
    simp only [List.cons.injEq,and_true] at e0
    subst e0
    exact ⟨⟨z0,l1,z2,b2,l2⟩,⟨c1,c4⟩,rfl,⟨r1,r2⟩,⟨f0,n1,q1,f2,ff2,n2,q2⟩⟩
theorem opuProof {fuel:Nat} {c:Value} {x:DataW H × List MemPlace} (h:DataW.trod enc Try.prog w base spare held fuel 86 [c]=some x):∃ l:List Pf,RdPs w c l/\l.length<=maxLen/\∀ q ∈ l,FitPf q:=by
  rcases Deep.open_slice Try.underlying86 h with ⟨hcs,_⟩ | ⟨ad,len,cap,m,n,D,Pl,hcs,hb,hl,hm,hmm,hx,hel⟩
  · simp at hcs
    subst hcs
    exact ⟨[],⟨[],rfl,.inl ⟨_,_,rfl,rfl,fun _=>rfl⟩⟩,by simp,by simp⟩
  · simp at hcs
    subst hcs
    have hlm:len<=m:=by rw [hmm];split <;> omega
    by_cases h0:len=0
    · subst h0;exact ⟨[],⟨[],rfl,.inl ⟨_,_,rfl,rfl,fun h=>by cases h⟩⟩,by simp,by simp⟩
    · obtain ⟨b,off,spot⟩:=ad
      rw [show Try.prog.cellsOf 167=5 from by kernel_rfl] at hel
      have each:∀ i,i < m->∃ q:Pf × Pv,w.cells? base ((⟨b,off,spot⟩:Addr).add (i * 5)) 5=some (pfC q.1 q.2)/\RdPf w q.1 q.2/\FitPf q.1:=fun i hi=>by
        obtain ⟨cs',h1,h2⟩:=hel i hi
        obtain ⟨p,u,rfl,k1,k2⟩:=open_Pf h2
        exact ⟨(p,u),h1,k1,k2⟩
      obtain ⟨q0,-⟩:=each 0 (by omega)
      haveI:Inhabited (Pf × Pv):=⟨q0⟩
      obtain ⟨q,hq⟩:=Deep.choose_lt each
      have c0:∀ i,i < m->∀ j,j < 5->w.cell? (((⟨b,off,spot⟩:Addr).add (i * 5)).add j)=(pfC (q i).1 (q i).2)[j]?:=fun i hi=>(World.cells?_some (hq i hi).1).2.2
      have hc0:=c0 0 (by omega) 0 (by omega)
      have hspot:spot=none:=by simpa [Addr.add] using World.cell?_spot hc0
      subst hspot
      have hlen:((List.range len).map q).length=len:=by simp
      refine ⟨((List.range len).map q).map (·.1),⟨(List.range len).map q,rfl,.inr ⟨b,off,cap,?_,by rw [hlen],by omega,hm,?_,?_⟩⟩,by simp;omega,?_⟩
      · intro e;rw [e] at hlen;simp at hlen;omega
      · have:=World.block_lt_of_cell? w _ hc0;simpa [Addr.add] using this
      · intro i hi
        rw [hlen] at hi
        simp only [List.getElem_map,List.getElem_range]
        refine ⟨fun j v hv=>?_,(hq i (by omega)).2.1⟩
        have:=c0 i (by omega) j (by have:=(List.getElem?_eq_some_iff.1 hv).1;exact this)
        rw [add_plainV,add_plainV] at this
        exact this.trans hv
      · intro z hz
        obtain ⟨y,hy,rfl⟩:=List.mem_map.1 hz
        obtain ⟨i,hi,rfl⟩:=List.mem_map.1 hy
        exact (hq i (by have:=List.mem_range.1 hi;omega)).2.2
end
end Go.Proofs.Ytfdbedenlbikgaa
namespace Go.Proofs.Ytfdbedenlbikgaa
open Go.RowKit Go.ChangeShapes Go.WideShapes
set_option linter.unusedVariables false
section
variable {H:Type} {enc:TypeId × Value->H} {w:World} {base:Nat} {spare:Nat->Bool} {held:Bool}
theorem open_Nd {fuel:Nat} {cs:List Value} {x:DataW H × List MemPlace} (h:DataW.trod enc Try.prog w base spare held fuel 88 cs=some x) :
    ∃ (p:Nd) (u:Nv),cs=noC p u/\RdNd w p u/\FitNd p:=by
  obtain ⟨xs,n,_,_,hlen,hxl,hf⟩:=DataW.trod_struct Try.underlying88 h
  have h5:cs.length=20:=hlen.trans (by kernel_rfl)
  have hx5:xs.length=15:=hxl
  match cs,h5,xs,hx5 with
  | [c0,c1,c2,c3,c4,c5,c6,c7,c8,c9,c10,c11,c12,c13,c14,c15,c16,c17,c18,c19],_,[y0,y1,y2,y3,y4,y5,y6,y7,y8,y9,y10,y11,y12,y13,y14],_ =>
    have k_string:Try.prog.cellsOf 9=1:=by kernel_rfl
    have k_int:Try.prog.cellsOf 3=1:=by kernel_rfl
    have k_laws_Ledger:Try.prog.cellsOf 24=2:=by kernel_rfl
    have k_Slaws_Val:Try.prog.cellsOf 80=1:=by kernel_rfl
    have k_Slaws_Block:Try.prog.cellsOf 27=1:=by kernel_rfl
    have k_laws_Qc:Try.prog.cellsOf 81=3:=by kernel_rfl
    have k_laws_Tc:Try.prog.cellsOf 82=3:=by kernel_rfl
    have k_Slaws_Vote:Try.prog.cellsOf 83=1:=by kernel_rfl
    have k_Slaws_Gone:Try.prog.cellsOf 84=1:=by kernel_rfl
    have k_Sint:Try.prog.cellsOf 55=1:=by kernel_rfl
    have k_Slaws_Tx:Try.prog.cellsOf 85=1:=by kernel_rfl
    have k_Slaws_Proof:Try.prog.cellsOf 86=1:=by kernel_rfl
    have g0:DataW.trod enc Try.prog w base spare held n 9 [c0]=some y0:=by
      have e:=hf 0 _ rfl
      change DataW.trod enc Try.prog w base spare held n 9 (List.take (Try.prog.cellsOf 9) [c0,c1,c2,c3,c4,c5,c6,c7,c8,c9,c10,c11,c12,c13,c14,c15,c16,c17,c18,c19])=some y0 at e
      rw [k_string] at e
      exact e
    have g1:DataW.trod enc Try.prog w base spare held n 3 [c1]=some y1:=by
      have e:=hf 1 _ rfl
      change DataW.trod enc Try.prog w base spare held n 3 (List.take (Try.prog.cellsOf 3) [c1,c2,c3,c4,c5,c6,c7,c8,c9,c10,c11,c12,c13,c14,c15,c16,c17,c18,c19])=some y1 at e
      rw [k_int] at e
      exact e
    have g2:DataW.trod enc Try.prog w base spare held n 24 [c2,c3]=some y2:=by
      have e:=hf 2 _ rfl
      change DataW.trod enc Try.prog w base spare held n 24 (List.take (Try.prog.cellsOf 24) [c2,c3,c4,c5,c6,c7,c8,c9,c10,c11,c12,c13,c14,c15,c16,c17,c18,c19])=some y2 at e
      rw [k_laws_Ledger] at e
      exact e
    have g3:DataW.trod enc Try.prog w base spare held n 80 [c4]=some y3:=by
      have e:=hf 3 _ rfl
      change DataW.trod enc Try.prog w base spare held n 80 (List.take (Try.prog.cellsOf 80) [c4,c5,c6,c7,c8,c9,c10,c11,c12,c13,c14,c15,c16,c17,c18,c19])=some y3 at e
      rw [k_Slaws_Val] at e
      exact e
    have g4:DataW.trod enc Try.prog w base spare held n 27 [c5]=some y4:=by
      have e:=hf 4 _ rfl
      change DataW.trod enc Try.prog w base spare held n 27 (List.take (Try.prog.cellsOf 27) [c5,c6,c7,c8,c9,c10,c11,c12,c13,c14,c15,c16,c17,c18,c19])=some y4 at e
      rw [k_Slaws_Block] at e
      exact e
    have g5:DataW.trod enc Try.prog w base spare held n 3 [c6]=some y5:=by
      have e:=hf 5 _ rfl
      change DataW.trod enc Try.prog w base spare held n 3 (List.take (Try.prog.cellsOf 3) [c6,c7,c8,c9,c10,c11,c12,c13,c14,c15,c16,c17,c18,c19])=some y5 at e
      rw [k_int] at e
      exact e
    have g6:DataW.trod enc Try.prog w base spare held n 3 [c7]=some y6:=by
      have e:=hf 6 _ rfl
      change DataW.trod enc Try.prog w base spare held n 3 (List.take (Try.prog.cellsOf 3) [c7,c8,c9,c10,c11,c12,c13,c14,c15,c16,c17,c18,c19])=some y6 at e
      rw [k_int] at e
      exact e
    have g7:DataW.trod enc Try.prog w base spare held n 81 [c8,c9,c10]=some y7:=by
      have e:=hf 7 _ rfl
      change DataW.trod enc Try.prog w base spare held n 81 (List.take (Try.prog.cellsOf 81) [c8,c9,c10,c11,c12,c13,c14,c15,c16,c17,c18,c19])=some y7 at e
      rw [k_laws_Qc] at e
      exact e
    have g8:DataW.trod enc Try.prog w base spare held n 82 [c11,c12,c13]=some y8:=by
      have e:=hf 8 _ rfl
      change DataW.trod enc Try.prog w base spare held n 82 (List.take (Try.prog.cellsOf 82) [c11,c12,c13,c14,c15,c16,c17,c18,c19])=some y8 at e
      rw [k_laws_Tc] at e
      exact e
    have g9:DataW.trod enc Try.prog w base spare held n 3 [c14]=some y9:=by
      have e:=hf 9 _ rfl
      change DataW.trod enc Try.prog w base spare held n 3 (List.take (Try.prog.cellsOf 3) [c14,c15,c16,c17,c18,c19])=some y9 at e
      rw [k_int] at e
      exact e
    have g10:DataW.trod enc Try.prog w base spare held n 83 [c15]=some y10:=by
      have e:=hf 10 _ rfl
      change DataW.trod enc Try.prog w base spare held n 83 (List.take (Try.prog.cellsOf 83) [c15,c16,c17,c18,c19])=some y10 at e
      rw [k_Slaws_Vote] at e
      exact e
    have g11:DataW.trod enc Try.prog w base spare held n 84 [c16]=some y11:=by
      have e:=hf 11 _ rfl
      change DataW.trod enc Try.prog w base spare held n 84 (List.take (Try.prog.cellsOf 84) [c16,c17,c18,c19])=some y11 at e
      rw [k_Slaws_Gone] at e
      exact e
    have g12:DataW.trod enc Try.prog w base spare held n 55 [c17]=some y12:=by
      have e:=hf 12 _ rfl
      change DataW.trod enc Try.prog w base spare held n 55 (List.take (Try.prog.cellsOf 55) [c17,c18,c19])=some y12 at e
      rw [k_Sint] at e
      exact e
    have g13:DataW.trod enc Try.prog w base spare held n 85 [c18]=some y13:=by
      have e:=hf 13 _ rfl
      change DataW.trod enc Try.prog w base spare held n 85 (List.take (Try.prog.cellsOf 85) [c18,c19])=some y13 at e
      rw [k_Slaws_Tx] at e
      exact e
    have g14:DataW.trod enc Try.prog w base spare held n 86 [c19]=some y14:=by
      have e:=hf 14 _ rfl
      change DataW.trod enc Try.prog w base spare held n 86 (List.take (Try.prog.cellsOf 86) [c19])=some y14 at e
      rw [k_Slaws_Proof] at e
      exact e
    obtain ⟨z0,e0,_,f0⟩:=DataW.trod_string Try.underlying9 g0
    obtain ⟨z1,e1,_,f1⟩:=DataW.trod_int Try.underlying3 g1
    obtain ⟨z2,e2,_,f2⟩:∃ z,[c2]=[.int .i64 z]/\True/\(Lit.int .i64 z).wf=true:=ledger_wf g2
    obtain ⟨zz2,v2,l2,ee2,r2,n2,q2⟩:=open_ledger g2
    simp only [List.cons.injEq,and_true] at ee2 e2
    obtain ⟨-,ev2⟩:=ee2
    subst e2 ev2
    obtain ⟨l3,r3,n3,q3⟩:=opuVal g3
    obtain ⟨l4,r4,n4,q4⟩:=opuBlock g4
    obtain ⟨z5,e5,_,f5⟩:=DataW.trod_int Try.underlying3 g5
    obtain ⟨z6,e6,_,f6⟩:=DataW.trod_int Try.underlying3 g6
    obtain ⟨z7,b7,v7,l7,e7,r7,n7,q7,f7,ff7⟩:=open_qc9 g7
    simp only [List.cons.injEq,and_true] at e7
    obtain ⟨ea7,eb7,ec7⟩:=e7
    subst ea7 eb7 ec7
    obtain ⟨z8,v8,t8,l8,h8,e8,r8,rr8,n8,q8,nn8,f8⟩:=open_tc9 g8
    simp only [List.cons.injEq,and_true] at e8
    obtain ⟨ea8,eb8,ec8⟩:=e8
    subst ea8 eb8 ec8
    obtain ⟨z9,e9,_,f9⟩:=DataW.trod_int Try.underlying3 g9
    obtain ⟨l10,r10,n10,q10⟩:=opuVote g10
    obtain ⟨l11,r11,n11,q11⟩:=opuGone g11
    obtain ⟨l12,r12,n12⟩:=opuInt g12
    obtain ⟨l13,r13,n13,q13⟩:=opuTx g13
    obtain ⟨l14,r14,n14,q14⟩:=opuProof g14
    simp only [List.cons.injEq,and_true] at e0 e1 e5 e6 e9
    subst e0 e1 e5 e6 e9
    exact ⟨⟨z0,z1,z2,l2,l3,l4,z5,z6,z7,b7,l7,z8,l8,h8,z9,l10,l11,l12,l13,l14⟩,⟨c3,c4,c5,c10,c12,c13,c15,c16,c17,c18,c19⟩,rfl,⟨r2,r3,r4,r7,r8,rr8,r10,r11,r12,r13,r14⟩,⟨f0,f1,f2,n2,q2,n3,q3,n4,q4,f5,f6,f7,ff7,n7,q7,f8,n8,q8,nn8,f9,n10,q10,n11,q11,n12,n13,q13,n14,q14⟩⟩
theorem opuNode {fuel:Nat} {c:Value} {x:DataW H × List MemPlace} (h:DataW.trod enc Try.prog w base spare held fuel 26 [c]=some x):∃ l:List Nd,RdNs w c l/\l.length<=maxLen/\∀ q ∈ l,FitNd q:=by
  rcases Deep.open_slice Try.underlying26 h with ⟨hcs,_⟩ | ⟨ad,len,cap,m,n,D,Pl,hcs,hb,hl,hm,hmm,hx,hel⟩
  · simp at hcs
    subst hcs
    exact ⟨[],⟨[],rfl,.inl ⟨_,_,rfl,rfl,fun _=>rfl⟩⟩,by simp,by simp⟩
  · simp at hcs
    subst hcs
    have hlm:len<=m:=by rw [hmm];split <;> omega
    by_cases h0:len=0
    · subst h0;exact ⟨[],⟨[],rfl,.inl ⟨_,_,rfl,rfl,fun h=>by cases h⟩⟩,by simp,by simp⟩
    · obtain ⟨b,off,spot⟩:=ad
      rw [show Try.prog.cellsOf 88=20 from by kernel_rfl] at hel
      have each:∀ i,i < m->∃ q:Nd × Nv,w.cells? base ((⟨b,off,spot⟩:Addr).add (i * 20)) 20=some (noC q.1 q.2)/\RdNd w q.1 q.2/\FitNd q.1:=fun i hi=>by
        obtain ⟨cs',h1,h2⟩:=hel i hi
        obtain ⟨p,u,rfl,k1,k2⟩:=open_Nd h2
        exact ⟨(p,u),h1,k1,k2⟩
      obtain ⟨q0,-⟩:=each 0 (by omega)
      haveI:Inhabited (Nd × Nv):=⟨q0⟩
      obtain ⟨q,hq⟩:=Deep.choose_lt each
      have c0:∀ i,i < m->∀ j,j < 20->w.cell? (((⟨b,off,spot⟩:Addr).add (i * 20)).add j)=(noC (q i).1 (q i).2)[j]?:=fun i hi=>(World.cells?_some (hq i hi).1).2.2
      have hc0:=c0 0 (by omega) 0 (by omega)
      have hspot:spot=none:=by simpa [Addr.add] using World.cell?_spot hc0
      subst hspot
      have hlen:((List.range len).map q).length=len:=by simp
      refine ⟨((List.range len).map q).map (·.1),⟨(List.range len).map q,rfl,.inr ⟨b,off,cap,?_,by rw [hlen],by omega,hm,?_,?_⟩⟩,by simp;omega,?_⟩
      · intro e;rw [e] at hlen;simp at hlen;omega
      · have:=World.block_lt_of_cell? w _ hc0;simpa [Addr.add] using this
      · intro i hi
        rw [hlen] at hi
        simp only [List.getElem_map,List.getElem_range]
        refine ⟨fun j v hv=>?_,(hq i (by omega)).2.1⟩
        have:=c0 i (by omega) j (by have:=(List.getElem?_eq_some_iff.1 hv).1;exact this)
        rw [add_plainV,add_plainV] at this
        exact this.trans hv
      · intro z hz
        obtain ⟨y,hy,rfl⟩:=List.mem_map.1 hz
        obtain ⟨i,hi,rfl⟩:=List.mem_map.1 hy
        exact (hq i (by have:=List.mem_range.1 hi;omega)).2.2
end
end Go.Proofs.Ytfdbedenlbikgaa
