/- A word (the datum is MgMem's). That came in, opened. -/
import Derived.Test.YtfdbedenlbikgaaZlOpU
set_option maxRecDepth 20000
set_option maxHeartbeats 1000000
namespace Go.Proofs.Ytfdbedenlbikgaa
open Go.RowKit Go.ChangeShapes Go.WideShapes
set_option linter.unusedVariables false
section
variable {H:Type} {enc:TypeId × Value->H} {w:World} {base:Nat} {spare:Nat->Bool} {held:Bool}
theorem open_Sn {fuel:Nat} {cs:List Value} {x:DataW H × List MemPlace} (h:DataW.trod enc Try.prog w base spare held fuel 94 cs=some x) :
    ∃ (p:Sn) (u:Sv),cs=snC p u/\RdSn w p u/\FitSn p:=by
  obtain ⟨xs,n,_,_,hlen,hxl,hf⟩:=DataW.trod_struct Try.underlying94 h
  have h5:cs.length=5:=hlen.trans (by kernel_rfl)
  have hx5:xs.length=5:=hxl
  match cs,h5,xs,hx5 with
  | [c0,c1,c2,c3,c4],_,[y0,y1,y2,y3,y4],_ =>
    have k_int:Try.prog.cellsOf 3=1:=by kernel_rfl
    have k_string:Try.prog.cellsOf 9=1:=by kernel_rfl
    have g0:DataW.trod enc Try.prog w base spare held n 3 [c0]=some y0:=by
      have e:=hf 0 _ rfl
      change DataW.trod enc Try.prog w base spare held n 3 (List.take (Try.prog.cellsOf 3) [c0,c1,c2,c3,c4])=some y0 at e
      rw [k_int] at e
      exact e
    have g1:DataW.trod enc Try.prog w base spare held n 3 [c1]=some y1:=by
      have e:=hf 1 _ rfl
      change DataW.trod enc Try.prog w base spare held n 3 (List.take (Try.prog.cellsOf 3) [c1,c2,c3,c4])=some y1 at e
      rw [k_int] at e
      exact e
    have g2:DataW.trod enc Try.prog w base spare held n 3 [c2]=some y2:=by
      have e:=hf 2 _ rfl
      change DataW.trod enc Try.prog w base spare held n 3 (List.take (Try.prog.cellsOf 3) [c2,c3,c4])=some y2 at e
      rw [k_int] at e
      exact e
    have g3:DataW.trod enc Try.prog w base spare held n 3 [c3]=some y3:=by
      have e:=hf 3 _ rfl
      change DataW.trod enc Try.prog w base spare held n 3 (List.take (Try.prog.cellsOf 3) [c3,c4])=some y3 at e
      rw [k_int] at e
      exact e
    have g4:DataW.trod enc Try.prog w base spare held n 9 [c4]=some y4:=by
      have e:=hf 4 _ rfl
      change DataW.trod enc Try.prog w base spare held n 9 (List.take (Try.prog.cellsOf 9) [c4])=some y4 at e
      rw [k_string] at e
      exact e
    obtain ⟨z0,e0,_,f0⟩:=DataW.trod_int Try.underlying3 g0
    obtain ⟨z1,e1,_,f1⟩:=DataW.trod_int Try.underlying3 g1
    obtain ⟨z2,e2,_,f2⟩:=DataW.trod_int Try.underlying3 g2
    obtain ⟨z3,e3,_,f3⟩:=DataW.trod_int Try.underlying3 g3
    obtain ⟨z4,e4,_,f4⟩:=DataW.trod_string Try.underlying9 g4
    simp only [List.cons.injEq,and_true] at e0 e1 e2 e3 e4
    subst e0 e1 e2 e3 e4
    exact ⟨⟨z0,z1,z2,z3,z4⟩,⟨⟩,rfl,⟨⟩,⟨f0,f1,f2,f3,f4⟩⟩
theorem opuSig {fuel:Nat} {c:Value} {x:DataW H × List MemPlace} (h:DataW.trod enc Try.prog w base spare held fuel 28 [c]=some x):∃ l:List Sn,RdSs w c l/\l.length<=maxLen/\∀ q ∈ l,FitSn q:=by
  rcases Deep.open_slice Try.underlying28 h with ⟨hcs,_⟩ | ⟨ad,len,cap,m,n,D,Pl,hcs,hb,hl,hm,hmm,hx,hel⟩
  · simp at hcs
    subst hcs
    exact ⟨[],⟨[],rfl,.inl ⟨_,_,rfl,rfl,fun _=>rfl⟩⟩,by simp,by simp⟩
  · simp at hcs
    subst hcs
    have hlm:len<=m:=by rw [hmm];split <;> omega
    by_cases h0:len=0
    · subst h0;exact ⟨[],⟨[],rfl,.inl ⟨_,_,rfl,rfl,fun h=>by cases h⟩⟩,by simp,by simp⟩
    · obtain ⟨b,off,spot⟩:=ad
      rw [show Try.prog.cellsOf 94=5 from by kernel_rfl] at hel
      have each:∀ i,i < m->∃ q:Sn × Sv,w.cells? base ((⟨b,off,spot⟩:Addr).add (i * 5)) 5=some (snC q.1 q.2)/\RdSn w q.1 q.2/\FitSn q.1:=fun i hi=>by
        obtain ⟨cs',h1,h2⟩:=hel i hi
        obtain ⟨p,u,rfl,k1,k2⟩:=open_Sn h2
        exact ⟨(p,u),h1,k1,k2⟩
      obtain ⟨q0,-⟩:=each 0 (by omega)
      haveI:Inhabited (Sn × Sv):=⟨q0⟩
      obtain ⟨q,hq⟩:=Deep.choose_lt each
      have c0:∀ i,i < m->∀ j,j < 5->w.cell? (((⟨b,off,spot⟩:Addr).add (i * 5)).add j)=(snC (q i).1 (q i).2)[j]?:=fun i hi=>(World.cells?_some (hq i hi).1).2.2
      have hc0:=c0 0 (by omega) 0 (by omega)
      have hspot:spot=none:=by simpa [Addr.add] using World.cell?_spot hc0
      subst hspot
      have hlen:((List.range len).map q).length=len:=by simp
      refine ⟨((List.range len).map q).map (·.1),⟨(List.range len).map q,rfl,.inr ⟨b,off,cap,?_,by rw [hlen],by omega,hm,?_,?_⟩⟩,by simp;omega,?_⟩
      · intro e;rw [e] at hlen;simp at hlen;omega
      · have:=World.block_lt_of_cell? w _ hc0;simpa [Addr.add] using this
      · intro i hi
        rw [hlen] at hi
        simp only [List.getElem_map,List.getElem_range]
        refine ⟨fun j v hv=>?_,(hq i (by omega)).2.1⟩
        have:=c0 i (by omega) j (by have:=(List.getElem?_eq_some_iff.1 hv).1;exact this)
        rw [add_plainV,add_plainV] at this
        exact this.trans hv
      · intro z hz
        obtain ⟨y,hy,rfl⟩:=List.mem_map.1 hz
        obtain ⟨i,hi,rfl⟩:=List.mem_map.1 hy
        exact (hq i (by have:=List.mem_range.1 hi;omega)).2.2
end
end Go.Proofs.Ytfdbedenlbikgaa
namespace Go.Proofs.Ytfdbedenlbikgaa
open Go.RowKit Go.ChangeShapes Go.WideShapes
set_option linter.unusedVariables false
section
variable {H:Type} {enc:TypeId × Value->H} {w:World} {base:Nat} {spare:Nat->Bool} {held:Bool}
theorem open_Mg {fuel:Nat} {cs:List Value} {x:DataW H × List MemPlace} (h:DataW.trod enc Try.prog w base spare held fuel 101 cs=some x) :
    ∃ (p:Mg) (u:Mv),cs=mgC p u/\RdMg w p u/\FitMg p:=by
  obtain ⟨xs,n,_,_,hlen,hxl,hf⟩:=DataW.trod_struct Try.underlying101 h
  have h5:cs.length=16:=hlen.trans (by kernel_rfl)
  have hx5:xs.length=8:=hxl
  match cs,h5,xs,hx5 with
  | [c0,c1,c2,c3,c4,c5,c6,c7,c8,c9,c10,c11,c12,c13,c14,c15],_,[y0,y1,y2,y3,y4,y5,y6,y7],_ =>
    have k_int:Try.prog.cellsOf 3=1:=by kernel_rfl
    have k_string:Try.prog.cellsOf 9=1:=by kernel_rfl
    have k_Slaws_Block:Try.prog.cellsOf 27=1:=by kernel_rfl
    have k_laws_Vote:Try.prog.cellsOf 97=3:=by kernel_rfl
    have k_laws_Gone:Try.prog.cellsOf 99=3:=by kernel_rfl
    have k_laws_Qc:Try.prog.cellsOf 81=3:=by kernel_rfl
    have k_laws_Tc:Try.prog.cellsOf 82=3:=by kernel_rfl
    have g0:DataW.trod enc Try.prog w base spare held n 3 [c0]=some y0:=by
      have e:=hf 0 _ rfl
      change DataW.trod enc Try.prog w base spare held n 3 (List.take (Try.prog.cellsOf 3) [c0,c1,c2,c3,c4,c5,c6,c7,c8,c9,c10,c11,c12,c13,c14,c15])=some y0 at e
      rw [k_int] at e
      exact e
    have g1:DataW.trod enc Try.prog w base spare held n 9 [c1]=some y1:=by
      have e:=hf 1 _ rfl
      change DataW.trod enc Try.prog w base spare held n 9 (List.take (Try.prog.cellsOf 9) [c1,c2,c3,c4,c5,c6,c7,c8,c9,c10,c11,c12,c13,c14,c15])=some y1 at e
      rw [k_string] at e
      exact e
    have g2:DataW.trod enc Try.prog w base spare held n 3 [c2]=some y2:=by
      have e:=hf 2 _ rfl
      change DataW.trod enc Try.prog w base spare held n 3 (List.take (Try.prog.cellsOf 3) [c2,c3,c4,c5,c6,c7,c8,c9,c10,c11,c12,c13,c14,c15])=some y2 at e
      rw [k_int] at e
      exact e
    have g3:DataW.trod enc Try.prog w base spare held n 27 [c3]=some y3:=by
      have e:=hf 3 _ rfl
      change DataW.trod enc Try.prog w base spare held n 27 (List.take (Try.prog.cellsOf 27) [c3,c4,c5,c6,c7,c8,c9,c10,c11,c12,c13,c14,c15])=some y3 at e
      rw [k_Slaws_Block] at e
      exact e
    have g4:DataW.trod enc Try.prog w base spare held n 97 [c4,c5,c6]=some y4:=by
      have e:=hf 4 _ rfl
      change DataW.trod enc Try.prog w base spare held n 97 (List.take (Try.prog.cellsOf 97) [c4,c5,c6,c7,c8,c9,c10,c11,c12,c13,c14,c15])=some y4 at e
      rw [k_laws_Vote] at e
      exact e
    have g5:DataW.trod enc Try.prog w base spare held n 99 [c7,c8,c9]=some y5:=by
      have e:=hf 5 _ rfl
      change DataW.trod enc Try.prog w base spare held n 99 (List.take (Try.prog.cellsOf 99) [c7,c8,c9,c10,c11,c12,c13,c14,c15])=some y5 at e
      rw [k_laws_Gone] at e
      exact e
    have g6:DataW.trod enc Try.prog w base spare held n 81 [c10,c11,c12]=some y6:=by
      have e:=hf 6 _ rfl
      change DataW.trod enc Try.prog w base spare held n 81 (List.take (Try.prog.cellsOf 81) [c10,c11,c12,c13,c14,c15])=some y6 at e
      rw [k_laws_Qc] at e
      exact e
    have g7:DataW.trod enc Try.prog w base spare held n 82 [c13,c14,c15]=some y7:=by
      have e:=hf 7 _ rfl
      change DataW.trod enc Try.prog w base spare held n 82 (List.take (Try.prog.cellsOf 82) [c13,c14,c15])=some y7 at e
      rw [k_laws_Tc] at e
      exact e
    obtain ⟨z0,e0,_,f0⟩:=DataW.trod_int Try.underlying3 g0
    obtain ⟨z1,e1,_,f1⟩:=DataW.trod_string Try.underlying9 g1
    obtain ⟨z2,e2,_,f2⟩:=DataW.trod_int Try.underlying3 g2
    obtain ⟨l3,r3,n3,q3⟩:=opuBlock g3
    obtain ⟨z4,b4,l4,e4,q4,f4,ff4⟩:=open_vote g4
    simp only [List.cons.injEq,and_true] at e4
    obtain ⟨ea4,eb4,ec4⟩:=e4
    subst ea4 eb4 ec4
    obtain ⟨z5,b5,l5,e5,q5,f5,ff5⟩:=open_gone g5
    simp only [List.cons.injEq,and_true] at e5
    obtain ⟨ea5,eb5,ec5⟩:=e5
    subst ea5 eb5 ec5
    obtain ⟨z6,b6,v6,l6,e6,r6,n6,q6,f6,ff6⟩:=open_qc9 g6
    simp only [List.cons.injEq,and_true] at e6
    obtain ⟨ea6,eb6,ec6⟩:=e6
    subst ea6 eb6 ec6
    obtain ⟨z7,v7,t7,l7,h7,e7,r7,rr7,n7,q7,nn7,f7⟩:=open_tc9 g7
    simp only [List.cons.injEq,and_true] at e7
    obtain ⟨ea7,eb7,ec7⟩:=e7
    subst ea7 eb7 ec7
    simp only [List.cons.injEq,and_true] at e0 e1 e2
    subst e0 e1 e2
    exact ⟨⟨z0,z1,z2,l3,z4,b4,l4,z5,b5,l5,z6,b6,l6,z7,l7,h7⟩,⟨c3,c12,c14,c15⟩,rfl,⟨r3,r6,r7,rr7⟩,⟨f0,f1,f2,n3,q3,f4,ff4,q4,f5,ff5,q5,f6,ff6,n6,q6,f7,n7,q7,nn7⟩⟩
theorem opuMsg {fuel:Nat} {c:Value} {x:DataW H × List MemPlace} (h:DataW.trod enc Try.prog w base spare held fuel 29 [c]=some x):∃ l:List Mg,RdMs w c l/\l.length<=maxLen/\∀ q ∈ l,FitMg q:=by
  rcases Deep.open_slice Try.underlying29 h with ⟨hcs,_⟩ | ⟨ad,len,cap,m,n,D,Pl,hcs,hb,hl,hm,hmm,hx,hel⟩
  · simp at hcs
    subst hcs
    exact ⟨[],⟨[],rfl,.inl ⟨_,_,rfl,rfl,fun _=>rfl⟩⟩,by simp,by simp⟩
  · simp at hcs
    subst hcs
    have hlm:len<=m:=by rw [hmm];split <;> omega
    by_cases h0:len=0
    · subst h0;exact ⟨[],⟨[],rfl,.inl ⟨_,_,rfl,rfl,fun h=>by cases h⟩⟩,by simp,by simp⟩
    · obtain ⟨b,off,spot⟩:=ad
      rw [show Try.prog.cellsOf 101=16 from by kernel_rfl] at hel
      have each:∀ i,i < m->∃ q:Mg × Mv,w.cells? base ((⟨b,off,spot⟩:Addr).add (i * 16)) 16=some (mgC q.1 q.2)/\RdMg w q.1 q.2/\FitMg q.1:=fun i hi=>by
        obtain ⟨cs',h1,h2⟩:=hel i hi
        obtain ⟨p,u,rfl,k1,k2⟩:=open_Mg h2
        exact ⟨(p,u),h1,k1,k2⟩
      obtain ⟨q0,-⟩:=each 0 (by omega)
      haveI:Inhabited (Mg × Mv):=⟨q0⟩
      obtain ⟨q,hq⟩:=Deep.choose_lt each
      have c0:∀ i,i < m->∀ j,j < 16->w.cell? (((⟨b,off,spot⟩:Addr).add (i * 16)).add j)=(mgC (q i).1 (q i).2)[j]?:=fun i hi=>(World.cells?_some (hq i hi).1).2.2
      have hc0:=c0 0 (by omega) 0 (by omega)
      have hspot:spot=none:=by simpa [Addr.add] using World.cell?_spot hc0
      subst hspot
      have hlen:((List.range len).map q).length=len:=by simp
      refine ⟨((List.range len).map q).map (·.1),⟨(List.range len).map q,rfl,.inr ⟨b,off,cap,?_,by rw [hlen],by omega,hm,?_,?_⟩⟩,by simp;omega,?_⟩
      · intro e;rw [e] at hlen;simp at hlen;omega
      · have:=World.block_lt_of_cell? w _ hc0;simpa [Addr.add] using this
      · intro i hi
        rw [hlen] at hi
        simp only [List.getElem_map,List.getElem_range]
        refine ⟨fun j v hv=>?_,(hq i (by omega)).2.1⟩
        have:=c0 i (by omega) j (by have:=(List.getElem?_eq_some_iff.1 hv).1;exact this)
        rw [add_plainV,add_plainV] at this
        exact this.trans hv
      · intro z hz
        obtain ⟨y,hy,rfl⟩:=List.mem_map.1 hz
        obtain ⟨i,hi,rfl⟩:=List.mem_map.1 hy
        exact (hq i (by have:=List.mem_range.1 hi;omega)).2.2
end
end Go.Proofs.Ytfdbedenlbikgaa
