/- Lists that came in, opened. -/
import Derived.Test.YtfdbedenlbikgaaZoLgOpen
import Derived.Test.YtfdbedenlbikgaaZoVtOpen
namespace Go.Proofs.Ytfdbedenlbikgaa
open Go.RowKit Go.ChangeShapes Go.WideShapes
set_option linter.unusedVariables false
section
variable {H:Type} {enc:TypeId × Value->H} {w:World} {base:Nat} {spare:Nat->Bool} {held:Bool}
theorem open_txS {fuel:Nat} {a:Option Addr} {len cap:Nat} {x:DataW H × List MemPlace} (h:DataW.trod enc Try.prog w base spare held fuel 85 [.slice a len cap]=some x) :
    ∃ l:List Tx5,len=l.length/\RdT w (.slice a len cap) l/\l.length<=maxLen/\∀ q ∈ l,q.2.1.size<=maxLen/\q.2.2.1.size<=maxLen:=by
  rcases Deep.open_slice Try.underlying85 h with ⟨hcs,_⟩ | ⟨ad,len',cap',m,n,D,Pl,hcs,hb,hl,hm,hmm,hx,hel⟩
  · simp at hcs
    obtain ⟨rfl,rfl,rfl⟩:=hcs
    exact ⟨[],rfl,.inl ⟨_,_,rfl,rfl,fun _=>rfl⟩,by simp,by simp⟩
  · simp at hcs
    obtain ⟨rfl,rfl,rfl⟩:=hcs
    have hlm:len<=m:=by rw [hmm];split <;> omega
    by_cases h0:len=0
    · subst h0;exact ⟨[],rfl,.inl ⟨_,_,rfl,rfl,fun h=>by cases h⟩,by simp,by simp⟩
    · obtain ⟨b,off,spot⟩:=ad
      rw [show Try.prog.cellsOf 164=5 from by kernel_rfl] at hel
      have each:∀ i,i < m->∃ q:Tx5,w.cells? base ((⟨b,off,spot⟩:Addr).add (i * 5)) 5=some (txC q)/\q.2.1.size<=maxLen/\q.2.2.1.size<=maxLen:=fun i hi=>by
        obtain ⟨cs',h1,h2⟩:=hel i hi
        obtain ⟨q,rfl,k1,k2,-⟩:=open_tx h2
        exact ⟨q,h1,k1,k2⟩
      obtain ⟨q,hq⟩:=Deep.choose_lt each
      have c0:∀ i,i < m->∀ j,j < 5->w.cell? (((⟨b,off,spot⟩:Addr).add (i * 5)).add j)=(txC (q i))[j]?:=fun i hi=>(World.cells?_some (hq i hi).1).2.2
      have hc0:=c0 0 (by omega) 0 (by omega)
      have hspot:spot=none:=by simpa [Addr.add] using World.cell?_spot hc0
      subst hspot
      have hlen:((List.range len).map q).length=len:=by simp
      refine ⟨(List.range len).map q,hlen.symm,.inr ⟨b,off,cap,?_,by rw [hlen],by omega,hm,?_,?_⟩,by omega,?_⟩
      · intro e;rw [e] at hlen;simp at hlen;omega
      · have:=World.block_lt_of_cell? w _ hc0;simpa [Addr.add] using this
      · intro i hi
        rw [hlen] at hi
        have cc:∀ j,j < 5->w.cell? ⟨b,off+i * 5+j,none⟩=(txC (q i))[j]?:=fun j hj=>by
          have:=c0 i (by omega) j hj
          rwa [add_plain',add_plain'] at this
        simp only [List.getElem_map,List.getElem_range]
        exact ⟨cc 0 (by omega),cc 1 (by omega),cc 2 (by omega),cc 3 (by omega),cc 4 (by omega)⟩
      · intro z hz
        obtain ⟨i,hi,rfl⟩:=List.mem_map.1 hz
        exact (hq i (by have:=List.mem_range.1 hi;omega)).2
end
end Go.Proofs.Ytfdbedenlbikgaa
namespace Go.Proofs.Ytfdbedenlbikgaa
open Go.RowKit Go.ChangeShapes Go.WideShapes
set_option linter.unusedVariables false
section
variable {H:Type} {enc:TypeId × Value->H} {w:World} {base:Nat} {spare:Nat->Bool} {held:Bool}
theorem ledger_wf {fuel:Nat} {c0 c1:Value} {x:DataW H × List MemPlace} (h:DataW.trod enc Try.prog w base spare held fuel 24 [c0,c1]=some x):∃ z,[c0]=[.int .i64 z]/\True/\(Lit.int .i64 z).wf=true:=by
  obtain ⟨xs,n,_,_,hlen,hxl,hf⟩:=DataW.trod_struct Try.underlying24 h
  have hx5:xs.length=2:=hxl
  match xs,hx5 with
  | [y0,y1],_ =>
    have ki:Try.prog.cellsOf 3=1:=by kernel_rfl
    have g0:DataW.trod enc Try.prog w base spare held n 3 [c0]=some y0:=by
      have e:=hf 0 _ rfl
      change DataW.trod enc Try.prog w base spare held n 3 (List.take (Try.prog.cellsOf 3) [c0,c1])=some y0 at e
      rw [ki] at e
      exact e
    obtain ⟨z0,e0,_,f0⟩:=DataW.trod_int Try.underlying3 g0
    exact ⟨z0,e0,trivial,f0⟩
theorem opuVal {fuel:Nat} {c:Value} {x:DataW H × List MemPlace} (h:DataW.trod enc Try.prog w base spare held fuel 80 [c]=some x):∃ l:List Vl,RdV w c l/\l.length<=maxLen/\∀ q ∈ l,q.1.size<=maxLen:=by
  obtain ⟨a,n,p,rfl⟩:∃ a len cap,c=.slice a len cap:=by
    rcases Deep.open_slice Try.underlying80 h with ⟨hcs,_⟩ | ⟨ad,len',cap',m,n,D,Pl,hcs,_⟩ <;> (simp only [List.cons.injEq,and_true] at hcs;exact ⟨_,_,_,hcs⟩)
  obtain ⟨l,-,r⟩:=open_vlS h
  exact ⟨l,r⟩
theorem opuBlock {fuel:Nat} {c:Value} {x:DataW H × List MemPlace} (h:DataW.trod enc Try.prog w base spare held fuel 27 [c]=some x):∃ l:List Bk,RdKs w c l/\l.length<=maxLen/\∀ q ∈ l,FitK q:=by
  obtain ⟨a,n,p,rfl⟩:∃ a len cap,c=.slice a len cap:=by
    rcases Deep.open_slice Try.underlying27 h with ⟨hcs,_⟩ | ⟨ad,len',cap',m,n,D,Pl,hcs,_⟩ <;> (simp only [List.cons.injEq,and_true] at hcs;exact ⟨_,_,_,hcs⟩)
  obtain ⟨l,-,r⟩:=open_blockS h
  exact ⟨l,r⟩
theorem opuTx {fuel:Nat} {c:Value} {x:DataW H × List MemPlace} (h:DataW.trod enc Try.prog w base spare held fuel 85 [c]=some x):∃ l:List Tx5,RdT w c l/\l.length<=maxLen/\∀ q ∈ l,q.2.1.size<=maxLen/\q.2.2.1.size<=maxLen:=by
  obtain ⟨a,n,p,rfl⟩:∃ a len cap,c=.slice a len cap:=by
    rcases Deep.open_slice Try.underlying85 h with ⟨hcs,_⟩ | ⟨ad,len',cap',m,n,D,Pl,hcs,_⟩ <;> (simp only [List.cons.injEq,and_true] at hcs;exact ⟨_,_,_,hcs⟩)
  obtain ⟨l,-,r⟩:=open_txS h
  exact ⟨l,r⟩
theorem opuVote {fuel:Nat} {c:Value} {x:DataW H × List MemPlace} (h:DataW.trod enc Try.prog w base spare held fuel 83 [c]=some x):∃ l:List Tr,RdR w c l/\l.length<=maxLen/\∀ q ∈ l,q.2.2.size<=maxLen:=by
  obtain ⟨a,n,p,rfl⟩:∃ a len cap,c=.slice a len cap:=by
    rcases Deep.open_slice Try.underlying83 h with ⟨hcs,_⟩ | ⟨ad,len',cap',m,n,D,Pl,hcs,_⟩ <;> (simp only [List.cons.injEq,and_true] at hcs;exact ⟨_,_,_,hcs⟩)
  obtain ⟨l,-,r⟩:=open_voteS h
  exact ⟨l,r⟩
theorem opuGone {fuel:Nat} {c:Value} {x:DataW H × List MemPlace} (h:DataW.trod enc Try.prog w base spare held fuel 84 [c]=some x):∃ l:List Tr,RdR w c l/\l.length<=maxLen/\∀ q ∈ l,q.2.2.size<=maxLen:=by
  obtain ⟨a,n,p,rfl⟩:∃ a len cap,c=.slice a len cap:=by
    rcases Deep.open_slice Try.underlying84 h with ⟨hcs,_⟩ | ⟨ad,len',cap',m,n,D,Pl,hcs,_⟩ <;> (simp only [List.cons.injEq,and_true] at hcs;exact ⟨_,_,_,hcs⟩)
  obtain ⟨l,-,r⟩:=open_goneS h
  exact ⟨l,r⟩
theorem opuStr {fuel:Nat} {c:Value} {x:DataW H × List MemPlace} (h:DataW.trod enc Try.prog w base spare held fuel 25 [c]=some x):∃ l:List ByteArray,RdS w c l/\l.length<=maxLen/\∀ q ∈ l,q.size<=maxLen:=by
  obtain ⟨v,l,e,r⟩:=open_strs h
  simp only [List.cons.injEq,and_true] at e
  subst e
  exact ⟨l,r⟩
theorem opuInt {fuel:Nat} {c:Value} {x:DataW H × List MemPlace} (h:DataW.trod enc Try.prog w base spare held fuel 55 [c]=some x):∃ l:List Int,RdI w c l/\l.length<=maxLen:=by
  obtain ⟨v,l,e,r⟩:=open_intsC h
  simp only [List.cons.injEq,and_true] at e
  subst e
  exact ⟨l,r⟩
end
end Go.Proofs.Ytfdbedenlbikgaa
