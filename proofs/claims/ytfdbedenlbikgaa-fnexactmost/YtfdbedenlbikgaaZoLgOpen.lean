/- A ledger that came in, opened. -/
import Derived.Deep.SlicePairs
import Derived.Lib.SmallJoins
import Derived.OpenShut
import Derived.Test.YtfdbedenlbikgaaZoNdTo
set_option maxRecDepth 20000
namespace Go.Proofs.Ytfdbedenlbikgaa
open Go.RowKit Go.ChangeShapes Go.WideShapes
set_option linter.unusedVariables false
section
variable {H:Type} {enc:TypeId × Value->H} {w:World} {base:Nat} {spare:Nat->Bool} {held:Bool}
theorem add_plain' (b off i:Nat):(⟨b,off,none⟩:Addr).add i=⟨b,off+i,none⟩:=by
  by_cases hz:i=0
  · subst hz;simp [Addr.add]
  · simp [Addr.add,hz]
theorem open_lvs {fuel:Nat} {cs:List Value} {x:DataW H × List MemPlace} (h:DataW.trod enc Try.prog w base spare held fuel 120 cs=some x) :
    ∃ v ls,cs=[v]/\RdL w v ls/\ls.length<=maxLen:=by
  rcases Deep.open_slice_pairs Try.underlying120 Try.underlying183 (by kernel_rfl) rfl rfl (by kernel_rfl) (by kernel_rfl) h with ⟨rfl,_⟩ | ⟨a,len,cap,m,n,V0,V1,D0,D1,P0,P1,rfl,hb,hl,hm,hmm,hx,hel⟩
  · exact ⟨_,[],rfl,.inl ⟨_,_,rfl,rfl,fun _=>rfl⟩,by simp⟩
  · have hlm:len<=m:=by rw [hmm];split <;> omega
    by_cases h0:len=0
    · subst h0;exact ⟨_,[],rfl,.inl ⟨_,_,rfl,rfl,fun h=>by cases h⟩,by simp⟩
    · obtain ⟨b,off,spot⟩:=a
      have hc0:=(hel 0 (by omega)).1
      have hspot:spot=none:=by simpa [Addr.add] using World.cell?_spot hc0
      subst hspot
      have hlen:((List.range len).map (fun i=>(intOf (V0 i),intOf (V1 i)))).length=len:=by simp
      refine ⟨_,(List.range len).map (fun i=>(intOf (V0 i),intOf (V1 i))),rfl,.inr ⟨b,off,cap,?_,by rw [hlen],by omega,hm,?_,?_⟩,by omega⟩
      · intro e;rw [e] at hlen;simp at hlen;omega
      · have:=World.block_lt_of_cell? w _ hc0;simpa [Addr.add] using this
      · intro i hi
        rw [hlen] at hi
        obtain ⟨e0,e1,t0,t1⟩:=hel i (by omega)
        obtain ⟨z0,q0,_⟩:=DataW.trod_int Try.underlying3 t0
        obtain ⟨z1,q1,_⟩:=DataW.trod_int Try.underlying3 t1
        rw [add_plain'] at e0 e1
        simp only [List.cons.injEq,and_true] at q0 q1
        rw [q0] at e0
        rw [q1] at e1
        simp only [List.getElem_map,List.getElem_range,q0,q1,intOf]
        exact ⟨e0,by rw [<- e1,Nat.add_assoc]⟩
theorem open_acc {fuel:Nat} {cs:List Value} {x:DataW H × List MemPlace} (h:DataW.trod enc Try.prog w base spare held fuel 122 cs=some x) :
    ∃ (a:Ac) (lv:Value),cs=[.string a.1,.int .i64 a.2.1,.int .i64 a.2.2.1,.int .i64 a.2.2.2.1,lv]/\RdL w lv a.2.2.2.2/\a.1.size<=maxLen/\a.2.2.2.2.length<=maxLen:=by
  obtain ⟨xs,n,_,_,hlen,hxl,hf⟩:=DataW.trod_struct Try.underlying122 h
  have h5:cs.length=5:=hlen.trans (by kernel_rfl)
  have hx5:xs.length=5:=hxl
  match cs,h5,xs,hx5 with
  | [c0,c1,c2,c3,c4],_,[y0,y1,y2,y3,y4],_ =>
    have ks:Try.prog.cellsOf 9=1:=by kernel_rfl
    have ki:Try.prog.cellsOf 3=1:=by kernel_rfl
    have kl:Try.prog.cellsOf 120=1:=by kernel_rfl
    have g0:DataW.trod enc Try.prog w base spare held n 9 [c0]=some y0:=by
      have e:=hf 0 _ rfl
      change DataW.trod enc Try.prog w base spare held n 9 (List.take (Try.prog.cellsOf 9) [c0,c1,c2,c3,c4])=some y0 at e
      rw [ks] at e
      exact e
    have g1:DataW.trod enc Try.prog w base spare held n 3 [c1]=some y1:=by
      have e:=hf 1 _ rfl
      change DataW.trod enc Try.prog w base spare held n 3 (List.take (Try.prog.cellsOf 3) [c1,c2,c3,c4])=some y1 at e
      rw [ki] at e
      exact e
    have g2:DataW.trod enc Try.prog w base spare held n 3 [c2]=some y2:=by
      have e:=hf 2 _ rfl
      change DataW.trod enc Try.prog w base spare held n 3 (List.take (Try.prog.cellsOf 3) [c2,c3,c4])=some y2 at e
      rw [ki] at e
      exact e
    have g3:DataW.trod enc Try.prog w base spare held n 3 [c3]=some y3:=by
      have e:=hf 3 _ rfl
      change DataW.trod enc Try.prog w base spare held n 3 (List.take (Try.prog.cellsOf 3) [c3,c4])=some y3 at e
      rw [ki] at e
      exact e
    have g4:DataW.trod enc Try.prog w base spare held n 120 [c4]=some y4:=by
      have e:=hf 4 _ rfl
      change DataW.trod enc Try.prog w base spare held n 120 (List.take (Try.prog.cellsOf 120) [c4])=some y4 at e
      rw [kl] at e
      exact e
    obtain ⟨s,e0,_,hs⟩:=DataW.trod_string Try.underlying9 g0
    obtain ⟨z1,e1,_⟩:=DataW.trod_int Try.underlying3 g1
    obtain ⟨z2,e2,_⟩:=DataW.trod_int Try.underlying3 g2
    obtain ⟨z3,e3,_⟩:=DataW.trod_int Try.underlying3 g3
    obtain ⟨v,ls,e4,hr,hl⟩:=open_lvs g4
    simp only [List.cons.injEq,and_true] at e0 e1 e2 e3 e4
    subst e0 e1 e2 e3 e4
    exact ⟨(s,z1,z2,z3,ls),c4,rfl,hr,hs,hl⟩
theorem open_accS {fuel:Nat} {a:Option Addr} {len cap:Nat} {x:DataW H × List MemPlace} (h:DataW.trod enc Try.prog w base spare held fuel 22 [.slice a len cap]=some x) :
    ∃ l:List Ac,len=l.length/\RdA w (.slice a len cap) l/\l.length<=maxLen/\∀ q ∈ l,q.1.size<=maxLen/\q.2.2.2.2.length<=maxLen:=by
  rcases Deep.open_slice Try.underlying22 h with ⟨hcs,_⟩ | ⟨ad,len',cap',m,n,D,Pl,hcs,hb,hl,hm,hmm,hx,hel⟩
  · simp at hcs
    obtain ⟨rfl,rfl,rfl⟩:=hcs
    exact ⟨[],rfl,.inl ⟨_,_,rfl,rfl,fun _=>rfl⟩,by simp,by simp⟩
  · simp at hcs
    obtain ⟨rfl,rfl,rfl⟩:=hcs
    have hlm:len<=m:=by rw [hmm];split <;> omega
    by_cases h0:len=0
    · subst h0;exact ⟨[],rfl,.inl ⟨_,_,rfl,rfl,fun h=>by cases h⟩,by simp,by simp⟩
    · obtain ⟨b,off,spot⟩:=ad
      rw [show Try.prog.cellsOf 122=5 from by kernel_rfl] at hel
      have each:∀ i,i < m->∃ q:Ac × Value,w.cells? base ((⟨b,off,spot⟩:Addr).add (i * 5)) 5=some [.string q.1.1,.int .i64 q.1.2.1,.int .i64 q.1.2.2.1,.int .i64 q.1.2.2.2.1,q.2]/\RdL w q.2 q.1.2.2.2.2/\q.1.1.size<=maxLen/\q.1.2.2.2.2.length<=maxLen:=fun i hi=>by
        obtain ⟨cs',h1,h2⟩:=hel i hi
        obtain ⟨qa,lv,rfl,k1,k2,k3⟩:=open_acc h2
        exact ⟨(qa,lv),h1,k1,k2,k3⟩
      obtain ⟨q,hq⟩:=Deep.choose_lt each
      have c0:∀ i,i < m->∀ j,j < 5->w.cell? (((⟨b,off,spot⟩:Addr).add (i * 5)).add j)=(acC (q i))[j]?:=fun i hi=>(World.cells?_some (hq i hi).1).2.2
      have hc0:=c0 0 (by omega) 0 (by omega)
      have hspot:spot=none:=by simpa [Addr.add] using World.cell?_spot hc0
      subst hspot
      have hlen:((List.range len).map (fun i=>(q i).1)).length=len:=by simp
      refine ⟨(List.range len).map (fun i=>(q i).1),hlen.symm,.inr ⟨b,off,cap,?_,by rw [hlen],by omega,hm,?_,?_⟩,by omega,?_⟩
      · intro e;rw [e] at hlen;simp at hlen;omega
      · have:=World.block_lt_of_cell? w _ hc0;simpa [Addr.add] using this
      · intro i hi
        rw [hlen] at hi
        refine ⟨(q i).2,?_,by simpa using (hq i (by omega)).2.1⟩
        have cc:∀ j,j < 5->w.cell? ⟨b,off+i * 5+j,none⟩=(acC (q i))[j]?:=fun j hj=>by
          have:=c0 i (by omega) j hj
          rwa [add_plain',add_plain'] at this
        simp only [List.getElem_map,List.getElem_range]
        exact ⟨by have:=cc 0 (by omega);simpa [acC] using this,by have:=cc 1 (by omega);simpa [acC] using this,by have:=cc 2 (by omega);simpa [acC] using this,by have:=cc 3 (by omega);simpa [acC] using this,by have:=cc 4 (by omega);simpa [acC] using this⟩
      · intro z hz
        obtain ⟨i,hi,rfl⟩:=List.mem_map.1 hz
        exact (hq i (by have:=List.mem_range.1 hi;omega)).2.2
end
end Go.Proofs.Ytfdbedenlbikgaa
namespace Go.Proofs.Ytfdbedenlbikgaa
open Go.RowKit Go.ChangeShapes Go.WideShapes
set_option linter.unusedVariables false
section
variable {H:Type} {enc:TypeId × Value->H} {w:World} {base:Nat} {spare:Nat->Bool} {held:Bool}
theorem open_ledger {fuel:Nat} {cs:List Value} {x:DataW H × List MemPlace} (h:DataW.trod enc Try.prog w base spare held fuel 24 cs=some x) :
    ∃ (e:Int) (v:Value) (l:List Ac),cs=[.int .i64 e,v]/\RdA w v l/\l.length<=maxLen/\∀ q ∈ l,q.1.size<=maxLen/\q.2.2.2.2.length<=maxLen:=by
  obtain ⟨xs,n,_,_,hlen,hxl,hf⟩:=DataW.trod_struct Try.underlying24 h
  have h5:cs.length=2:=hlen.trans (by kernel_rfl)
  have hx5:xs.length=2:=hxl
  match cs,h5,xs,hx5 with
  | [c0,c1],_,[y0,y1],_ =>
    have ki:Try.prog.cellsOf 3=1:=by kernel_rfl
    have kl:Try.prog.cellsOf 22=1:=by kernel_rfl
    have g0:DataW.trod enc Try.prog w base spare held n 3 [c0]=some y0:=by
      have e:=hf 0 _ rfl
      change DataW.trod enc Try.prog w base spare held n 3 (List.take (Try.prog.cellsOf 3) [c0,c1])=some y0 at e
      rw [ki] at e
      exact e
    have g1:DataW.trod enc Try.prog w base spare held n 22 [c1]=some y1:=by
      have e:=hf 1 _ rfl
      change DataW.trod enc Try.prog w base spare held n 22 (List.take (Try.prog.cellsOf 22) [c1])=some y1 at e
      rw [kl] at e
      exact e
    obtain ⟨z0,e0,_⟩:=DataW.trod_int Try.underlying3 g0
    have hsl:∃ a len cap,c1=.slice a len cap:=by
      rcases Deep.open_slice Try.underlying22 g1 with ⟨hcs,_⟩ | ⟨ad,len',cap',m,n',D,Pl,hcs,_⟩
      · simp only [List.cons.injEq,and_true] at hcs;exact ⟨_,_,_,hcs⟩
      · simp only [List.cons.injEq,and_true] at hcs;exact ⟨_,_,_,hcs⟩
    obtain ⟨a,len,cap,rfl⟩:=hsl
    obtain ⟨l,rfl,hr,hl,hq⟩:=open_accS g1
    simp only [List.cons.injEq,and_true] at e0
    subst e0
    exact ⟨z0,_,l,rfl,hr,hl,hq⟩
end
end Go.Proofs.Ytfdbedenlbikgaa
