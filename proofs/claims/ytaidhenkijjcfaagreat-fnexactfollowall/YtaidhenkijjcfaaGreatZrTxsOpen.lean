/- Orders that came in, opened. -/
import Derived.Test.YtaidhenkijjcfaaGreatZrBkOpen
set_option maxRecDepth 20000
namespace Go.Proofs.YtaidhenkijjcfaaGreat
open Go.RowKit Go.ChangeShapes Go.WideShapes
set_option linter.unusedVariables false
section
variable {H:Type} {enc:TypeId × Value->H} {w:World} {base:Nat} {spare:Nat->Bool} {held:Bool}
theorem open_vote {fuel:Nat} {cs:List Value} {x:DataW H × List MemPlace} (h:DataW.trod enc Tryz.prog w base spare held fuel 164 cs=some x) :
    ∃ (r k:Int) (s:ByteArray),cs=[.int .i64 r,.int .i64 k,.string s]/\s.size<=maxLen/\(Lit.int .i64 r).wf=true/\(Lit.int .i64 k).wf=true:=by
  obtain ⟨xs,n,_,_,hlen,hxl,hf⟩:=DataW.trod_struct Tryz.underlying164 h
  have h5:cs.length=3:=hlen.trans (by kernel_rfl)
  have hx5:xs.length=3:=hxl
  match cs,h5,xs,hx5 with
  | [c0,c1,c2],_,[y0,y1,y2],_ =>
    have ki:Tryz.prog.cellsOf 3=1:=by kernel_rfl
    have ks:Tryz.prog.cellsOf 9=1:=by kernel_rfl
    have g0:DataW.trod enc Tryz.prog w base spare held n 3 [c0]=some y0:=by
      have e:=hf 0 _ rfl
      change DataW.trod enc Tryz.prog w base spare held n 3 (List.take (Tryz.prog.cellsOf 3) [c0,c1,c2])=some y0 at e
      rw [ki] at e
      exact e
    have g1:DataW.trod enc Tryz.prog w base spare held n 3 [c1]=some y1:=by
      have e:=hf 1 _ rfl
      change DataW.trod enc Tryz.prog w base spare held n 3 (List.take (Tryz.prog.cellsOf 3) [c1,c2])=some y1 at e
      rw [ki] at e
      exact e
    have g2:DataW.trod enc Tryz.prog w base spare held n 9 [c2]=some y2:=by
      have e:=hf 2 _ rfl
      change DataW.trod enc Tryz.prog w base spare held n 9 (List.take (Tryz.prog.cellsOf 9) [c2])=some y2 at e
      rw [ks] at e
      exact e
    obtain ⟨z0,e0,_,f0⟩:=DataW.trod_int Tryz.underlying3 g0
    obtain ⟨z1,e1,_,f1⟩:=DataW.trod_int Tryz.underlying3 g1
    obtain ⟨s2,e2,_,f2⟩:=DataW.trod_string Tryz.underlying9 g2
    simp only [List.cons.injEq,and_true] at e0 e1 e2
    subst e0 e1 e2
    exact ⟨z0,z1,s2,rfl,f2,f0,f1⟩
theorem open_gone {fuel:Nat} {cs:List Value} {x:DataW H × List MemPlace} (h:DataW.trod enc Tryz.prog w base spare held fuel 167 cs=some x) :
    ∃ (r k:Int) (s:ByteArray),cs=[.int .i64 r,.int .i64 k,.string s]/\s.size<=maxLen/\(Lit.int .i64 r).wf=true/\(Lit.int .i64 k).wf=true:=by
  obtain ⟨xs,n,_,_,hlen,hxl,hf⟩:=DataW.trod_struct Tryz.underlying167 h
  have h5:cs.length=3:=hlen.trans (by kernel_rfl)
  have hx5:xs.length=3:=hxl
  match cs,h5,xs,hx5 with
  | [c0,c1,c2],_,[y0,y1,y2],_ =>
    have ki:Tryz.prog.cellsOf 3=1:=by kernel_rfl
    have ks:Tryz.prog.cellsOf 9=1:=by kernel_rfl
    have g0:DataW.trod enc Tryz.prog w base spare held n 3 [c0]=some y0:=by
      have e:=hf 0 _ rfl
      change DataW.trod enc Tryz.prog w base spare held n 3 (List.take (Tryz.prog.cellsOf 3) [c0,c1,c2])=some y0 at e
      rw [ki] at e
      exact e
    have g1:DataW.trod enc Tryz.prog w base spare held n 3 [c1]=some y1:=by
      have e:=hf 1 _ rfl
      change DataW.trod enc Tryz.prog w base spare held n 3 (List.take (Tryz.prog.cellsOf 3) [c1,c2])=some y1 at e
      rw [ki] at e
      exact e
    have g2:DataW.trod enc Tryz.prog w base spare held n 9 [c2]=some y2:=by
      have e:=hf 2 _ rfl
      change DataW.trod enc Tryz.prog w base spare held n 9 (List.take (Tryz.prog.cellsOf 9) [c2])=some y2 at e
      rw [ks] at e
      exact e
    obtain ⟨z0,e0,_,f0⟩:=DataW.trod_int Tryz.underlying3 g0
    obtain ⟨z1,e1,_,f1⟩:=DataW.trod_int Tryz.underlying3 g1
    obtain ⟨s2,e2,_,f2⟩:=DataW.trod_string Tryz.underlying9 g2
    simp only [List.cons.injEq,and_true] at e0 e1 e2
    subst e0 e1 e2
    exact ⟨z0,z1,s2,rfl,f2,f0,f1⟩
theorem open_voteS {fuel:Nat} {a:Option Addr} {len cap:Nat} {x:DataW H × List MemPlace} (h:DataW.trod enc Tryz.prog w base spare held fuel 55 [.slice a len cap]=some x) :
    ∃ l:List Tr,len=l.length/\RdR w (.slice a len cap) l/\l.length<=maxLen/\∀ q ∈ l,q.2.2.size<=maxLen:=by
  rcases Deep.open_slice Tryz.underlying55 h with ⟨hcs,_⟩ | ⟨ad,len',cap',m,n,D,Pl,hcs,hb,hl,hm,hmm,hx,hel⟩
  · simp at hcs
    obtain ⟨rfl,rfl,rfl⟩:=hcs
    exact ⟨[],rfl,.inl ⟨_,_,rfl,rfl,fun _=>rfl⟩,by simp,by simp⟩
  · simp at hcs
    obtain ⟨rfl,rfl,rfl⟩:=hcs
    have hlm:len<=m:=by rw [hmm];split <;> omega
    by_cases h0:len=0
    · subst h0;exact ⟨[],rfl,.inl ⟨_,_,rfl,rfl,fun h=>by cases h⟩,by simp,by simp⟩
    · obtain ⟨b,off,spot⟩:=ad
      rw [show Tryz.prog.cellsOf 164=3 from by kernel_rfl] at hel
      have each:∀ i,i < m->∃ q:Tr,w.cells? base ((⟨b,off,spot⟩:Addr).add (i * 3)) 3=some (trC q)/\q.2.2.size<=maxLen:=fun i hi=>by
        obtain ⟨cs',h1,h2⟩:=hel i hi
        obtain ⟨r,k,s,rfl,k1,-⟩:=open_vote h2
        exact ⟨(r,k,s),h1,k1⟩
      obtain ⟨q,hq⟩:=Deep.choose_lt each
      have c0:∀ i,i < m->∀ j,j < 3->w.cell? (((⟨b,off,spot⟩:Addr).add (i * 3)).add j)=(trC (q i))[j]?:=fun i hi=>(World.cells?_some (hq i hi).1).2.2
      have hc0:=c0 0 (by omega) 0 (by omega)
      have hspot:spot=none:=by simpa [Addr.add] using World.cell?_spot hc0
      subst hspot
      have hlen:((List.range len).map q).length=len:=by simp
      refine ⟨(List.range len).map q,hlen.symm,.inr ⟨b,off,cap,?_,by rw [hlen],by omega,hm,?_,?_⟩,by omega,?_⟩
      · intro e;rw [e] at hlen;simp at hlen;omega
      · have:=World.block_lt_of_cell? w _ hc0;simpa [Addr.add] using this
      · intro i hi
        rw [hlen] at hi
        have cc:∀ j,j < 3->w.cell? ⟨b,off+i * 3+j,none⟩=(trC (q i))[j]?:=fun j hj=>by
          have:=c0 i (by omega) j hj
          rwa [add_plainV,add_plainV] at this
        simp only [List.getElem_map,List.getElem_range]
        exact ⟨by have:=cc 0 (by omega);simpa [trC] using this,by have:=cc 1 (by omega);simpa [trC] using this,by have:=cc 2 (by omega);simpa [trC] using this⟩
      · intro z hz
        obtain ⟨i,hi,rfl⟩:=List.mem_map.1 hz
        exact (hq i (by have:=List.mem_range.1 hi;omega)).2
theorem open_goneS {fuel:Nat} {a:Option Addr} {len cap:Nat} {x:DataW H × List MemPlace} (h:DataW.trod enc Tryz.prog w base spare held fuel 56 [.slice a len cap]=some x) :
    ∃ l:List Tr,len=l.length/\RdR w (.slice a len cap) l/\l.length<=maxLen/\∀ q ∈ l,q.2.2.size<=maxLen:=by
  rcases Deep.open_slice Tryz.underlying56 h with ⟨hcs,_⟩ | ⟨ad,len',cap',m,n,D,Pl,hcs,hb,hl,hm,hmm,hx,hel⟩
  · simp at hcs
    obtain ⟨rfl,rfl,rfl⟩:=hcs
    exact ⟨[],rfl,.inl ⟨_,_,rfl,rfl,fun _=>rfl⟩,by simp,by simp⟩
  · simp at hcs
    obtain ⟨rfl,rfl,rfl⟩:=hcs
    have hlm:len<=m:=by rw [hmm];split <;> omega
    by_cases h0:len=0
    · subst h0;exact ⟨[],rfl,.inl ⟨_,_,rfl,rfl,fun h=>by cases h⟩,by simp,by simp⟩
    · obtain ⟨b,off,spot⟩:=ad
      rw [show Tryz.prog.cellsOf 167=3 from by kernel_rfl] at hel
      have each:∀ i,i < m->∃ q:Tr,w.cells? base ((⟨b,off,spot⟩:Addr).add (i * 3)) 3=some (trC q)/\q.2.2.size<=maxLen:=fun i hi=>by
        obtain ⟨cs',h1,h2⟩:=hel i hi
        obtain ⟨r,k,s,rfl,k1,-⟩:=open_gone h2
        exact ⟨(r,k,s),h1,k1⟩
      obtain ⟨q,hq⟩:=Deep.choose_lt each
      have c0:∀ i,i < m->∀ j,j < 3->w.cell? (((⟨b,off,spot⟩:Addr).add (i * 3)).add j)=(trC (q i))[j]?:=fun i hi=>(World.cells?_some (hq i hi).1).2.2
      have hc0:=c0 0 (by omega) 0 (by omega)
      have hspot:spot=none:=by simpa [Addr.add] using World.cell?_spot hc0
      subst hspot
      have hlen:((List.range len).map q).length=len:=by simp
      refine ⟨(List.range len).map q,hlen.symm,.inr ⟨b,off,cap,?_,by rw [hlen],by omega,hm,?_,?_⟩,by omega,?_⟩
      · intro e;rw [e] at hlen;simp at hlen;omega
      · have:=World.block_lt_of_cell? w _ hc0;simpa [Addr.add] using this
      · intro i hi
        rw [hlen] at hi
        have cc:∀ j,j < 3->w.cell? ⟨b,off+i * 3+j,none⟩=(trC (q i))[j]?:=fun j hj=>by
          have:=c0 i (by omega) j hj
          rwa [add_plainV,add_plainV] at this
        simp only [List.getElem_map,List.getElem_range]
        exact ⟨by have:=cc 0 (by omega);simpa [trC] using this,by have:=cc 1 (by omega);simpa [trC] using this,by have:=cc 2 (by omega);simpa [trC] using this⟩
      · intro z hz
        obtain ⟨i,hi,rfl⟩:=List.mem_map.1 hz
        exact (hq i (by have:=List.mem_range.1 hi;omega)).2
end
end Go.Proofs.YtaidhenkijjcfaaGreat
namespace Go.Proofs.YtaidhenkijjcfaaGreat
open Go.RowKit Go.ChangeShapes Go.WideShapes
set_option linter.unusedVariables false
section
variable {H:Type} {enc:TypeId × Value->H} {w:World} {base:Nat} {spare:Nat->Bool} {held:Bool}
theorem open_txS {fuel:Nat} {a:Option Addr} {len cap:Nat} {x:DataW H × List MemPlace} (h:DataW.trod enc Tryz.prog w base spare held fuel 57 [.slice a len cap]=some x) :
    ∃ l:List Tx5,len=l.length/\RdT w (.slice a len cap) l/\l.length<=maxLen/\∀ q ∈ l,q.2.1.size<=maxLen/\q.2.2.1.size<=maxLen:=by
  rcases Deep.open_slice Tryz.underlying57 h with ⟨hcs,_⟩ | ⟨ad,len',cap',m,n,D,Pl,hcs,hb,hl,hm,hmm,hx,hel⟩
  · simp at hcs
    obtain ⟨rfl,rfl,rfl⟩:=hcs
    exact ⟨[],rfl,.inl ⟨_,_,rfl,rfl,fun _=>rfl⟩,by simp,by simp⟩
  · simp at hcs
    obtain ⟨rfl,rfl,rfl⟩:=hcs
    have hlm:len<=m:=by rw [hmm];split <;> omega
    by_cases h0:len=0
    · subst h0;exact ⟨[],rfl,.inl ⟨_,_,rfl,rfl,fun h=>by cases h⟩,by simp,by simp⟩
    · obtain ⟨b,off,spot⟩:=ad
      rw [show Tryz.prog.cellsOf 170=5 from by kernel_rfl] at hel
      have each:∀ i,i < m->∃ q:Tx5,w.cells? base ((⟨b,off,spot⟩:Addr).add (i * 5)) 5=some (txC q)/\q.2.1.size<=maxLen/\q.2.2.1.size<=maxLen:=fun i hi=>by
        obtain ⟨cs',h1,h2⟩:=hel i hi
        obtain ⟨q,rfl,k1,k2,-⟩:=open_tx h2
        exact ⟨q,h1,k1,k2⟩
      obtain ⟨q,hq⟩:=Deep.choose_lt each
      have c0:∀ i,i < m->∀ j,j < 5->w.cell? (((⟨b,off,spot⟩:Addr).add (i * 5)).add j)=(txC (q i))[j]?:=fun i hi=>(World.cells?_some (hq i hi).1).2.2
      have hc0:=c0 0 (by omega) 0 (by omega)
      have hspot:spot=none:=by simpa [Addr.add] using World.cell?_spot hc0
      subst hspot
      have hlen:((List.range len).map q).length=len:=by simp
      refine ⟨(List.range len).map q,hlen.symm,.inr ⟨b,off,cap,?_,by rw [hlen],by omega,hm,?_,?_⟩,by omega,?_⟩
      · intro e;rw [e] at hlen;simp at hlen;omega
      · have:=World.block_lt_of_cell? w _ hc0;simpa [Addr.add] using this
      · intro i hi
        rw [hlen] at hi
        have cc:∀ j,j < 5->w.cell? ⟨b,off+i * 5+j,none⟩=(txC (q i))[j]?:=fun j hj=>by
          have:=c0 i (by omega) j hj
          rwa [add_plain',add_plain'] at this
        simp only [List.getElem_map,List.getElem_range]
        exact ⟨cc 0 (by omega),cc 1 (by omega),cc 2 (by omega),cc 3 (by omega),cc 4 (by omega)⟩
      · intro z hz
        obtain ⟨i,hi,rfl⟩:=List.mem_map.1 hz
        exact (hq i (by have:=List.mem_range.1 hi;omega)).2
end
end Go.Proofs.YtaidhenkijjcfaaGreat
