/- A proof. -/
import Derived.Test.YtaidhenkijjcfaaGreatZrTxsOpen
import Derived.Test.YtaidhenkijjcfaaGreatZrNdSz
set_option maxRecDepth 20000
set_option maxHeartbeats 1000000
namespace Go.Proofs.YtaidhenkijjcfaaGreat
open Go.RowKit Go.ChangeShapes Go.WideShapes
set_option linter.unusedVariables false
section
variable {H:Type} {enc:TypeId × Value->H} {w:World} {base:Nat} {spare:Nat->Bool} {held:Bool}
theorem ledger_wf {fuel:Nat} {c0 c1:Value} {x:DataW H × List MemPlace} (h:DataW.trod enc Tryz.prog w base spare held fuel 51 [c0,c1]=some x):∃ z,[c0]=[.int .i64 z]/\True/\(Lit.int .i64 z).wf=true:=by
  obtain ⟨xs,n,_,_,hlen,hxl,hf⟩:=DataW.trod_struct Tryz.underlying51 h
  have hx5:xs.length=2:=hxl
  match xs,hx5 with
  | [y0,y1],_ =>
    have ki:Tryz.prog.cellsOf 3=1:=by kernel_rfl
    have g0:DataW.trod enc Tryz.prog w base spare held n 3 [c0]=some y0:=by
      have e:=hf 0 _ rfl
      change DataW.trod enc Tryz.prog w base spare held n 3 (List.take (Tryz.prog.cellsOf 3) [c0,c1])=some y0 at e
      rw [ki] at e
      exact e
    obtain ⟨z0,e0,_,f0⟩:=DataW.trod_int Tryz.underlying3 g0
    exact ⟨z0,e0,trivial,f0⟩
theorem opuVal {fuel:Nat} {c:Value} {x:DataW H × List MemPlace} (h:DataW.trod enc Tryz.prog w base spare held fuel 22 [c]=some x):∃ l:List Vl,RdV w c l/\l.length<=maxLen/\∀ q ∈ l,q.1.size<=maxLen:=by
  obtain ⟨a,n,p,rfl⟩:∃ a len cap,c=.slice a len cap:=by
    rcases Deep.open_slice Tryz.underlying22 h with ⟨hcs,_⟩ | ⟨ad,len',cap',m,n,D,Pl,hcs,_⟩ <;> (simp only [List.cons.injEq,and_true] at hcs;exact ⟨_,_,_,hcs⟩)
  obtain ⟨l,-,r⟩:=open_vlS h
  exact ⟨l,r⟩
theorem opuBlock {fuel:Nat} {c:Value} {x:DataW H × List MemPlace} (h:DataW.trod enc Tryz.prog w base spare held fuel 25 [c]=some x):∃ l:List Bk,RdKs w c l/\l.length<=maxLen/\∀ q ∈ l,FitK q:=by
  obtain ⟨a,n,p,rfl⟩:∃ a len cap,c=.slice a len cap:=by
    rcases Deep.open_slice Tryz.underlying25 h with ⟨hcs,_⟩ | ⟨ad,len',cap',m,n,D,Pl,hcs,_⟩ <;> (simp only [List.cons.injEq,and_true] at hcs;exact ⟨_,_,_,hcs⟩)
  obtain ⟨l,-,r⟩:=open_blockS h
  exact ⟨l,r⟩
theorem opuTx {fuel:Nat} {c:Value} {x:DataW H × List MemPlace} (h:DataW.trod enc Tryz.prog w base spare held fuel 57 [c]=some x):∃ l:List Tx5,RdT w c l/\l.length<=maxLen/\∀ q ∈ l,q.2.1.size<=maxLen/\q.2.2.1.size<=maxLen:=by
  obtain ⟨a,n,p,rfl⟩:∃ a len cap,c=.slice a len cap:=by
    rcases Deep.open_slice Tryz.underlying57 h with ⟨hcs,_⟩ | ⟨ad,len',cap',m,n,D,Pl,hcs,_⟩ <;> (simp only [List.cons.injEq,and_true] at hcs;exact ⟨_,_,_,hcs⟩)
  obtain ⟨l,-,r⟩:=open_txS h
  exact ⟨l,r⟩
theorem opuVote {fuel:Nat} {c:Value} {x:DataW H × List MemPlace} (h:DataW.trod enc Tryz.prog w base spare held fuel 55 [c]=some x):∃ l:List Tr,RdR w c l/\l.length<=maxLen/\∀ q ∈ l,q.2.2.size<=maxLen:=by
  obtain ⟨a,n,p,rfl⟩:∃ a len cap,c=.slice a len cap:=by
    rcases Deep.open_slice Tryz.underlying55 h with ⟨hcs,_⟩ | ⟨ad,len',cap',m,n,D,Pl,hcs,_⟩ <;> (simp only [List.cons.injEq,and_true] at hcs;exact ⟨_,_,_,hcs⟩)
  obtain ⟨l,-,r⟩:=open_voteS h
  exact ⟨l,r⟩
theorem opuGone {fuel:Nat} {c:Value} {x:DataW H × List MemPlace} (h:DataW.trod enc Tryz.prog w base spare held fuel 56 [c]=some x):∃ l:List Tr,RdR w c l/\l.length<=maxLen/\∀ q ∈ l,q.2.2.size<=maxLen:=by
  obtain ⟨a,n,p,rfl⟩:∃ a len cap,c=.slice a len cap:=by
    rcases Deep.open_slice Tryz.underlying56 h with ⟨hcs,_⟩ | ⟨ad,len',cap',m,n,D,Pl,hcs,_⟩ <;> (simp only [List.cons.injEq,and_true] at hcs;exact ⟨_,_,_,hcs⟩)
  obtain ⟨l,-,r⟩:=open_goneS h
  exact ⟨l,r⟩
theorem opuInt {fuel:Nat} {c:Value} {x:DataW H × List MemPlace} (h:DataW.trod enc Tryz.prog w base spare held fuel 52 [c]=some x):∃ l:List Int,RdI w c l/\l.length<=maxLen:=by
  obtain ⟨v,l,e,r⟩:=open_intsC h
  simp only [List.cons.injEq,and_true] at e
  subst e
  exact ⟨l,r⟩
end
end Go.Proofs.YtaidhenkijjcfaaGreat
namespace Go.Proofs.YtaidhenkijjcfaaGreat
open Go.RowKit Go.ChangeShapes Go.WideShapes
set_option linter.unusedVariables false
section
variable {H:Type} {enc:TypeId × Value->H} {w:World} {base:Nat} {spare:Nat->Bool} {held:Bool}
theorem open_Pf {fuel:Nat} {cs:List Value} {x:DataW H × List MemPlace} (h:DataW.trod enc Tryz.prog w base spare held fuel 30 cs=some x) :
    ∃ (p:Pf) (u:Pv),cs=pfC p u/\RdPf w p u/\FitPf p:=by
  obtain ⟨xs,n,_,_,hlen,hxl,hf⟩:=DataW.trod_struct Tryz.underlying30 h
  have h5:cs.length=5:=hlen.trans (by kernel_rfl)
  have hx5:xs.length=3:=hxl
  match cs,h5,xs,hx5 with
  | [c0,c1,c2,c3,c4],_,[y0,y1,y2],_ =>
    have k_int:Tryz.prog.cellsOf 3=1:=by kernel_rfl
    have k_Slaws_Block:Tryz.prog.cellsOf 25=1:=by kernel_rfl
    have k_laws_Qc:Tryz.prog.cellsOf 28=3:=by kernel_rfl
    have g0:DataW.trod enc Tryz.prog w base spare held n 3 [c0]=some y0:=by
      have e:=hf 0 _ rfl
      change DataW.trod enc Tryz.prog w base spare held n 3 (List.take (Tryz.prog.cellsOf 3) [c0,c1,c2,c3,c4])=some y0 at e
      rw [k_int] at e
      exact e
    have g1:DataW.trod enc Tryz.prog w base spare held n 25 [c1]=some y1:=by
      have e:=hf 1 _ rfl
      change DataW.trod enc Tryz.prog w base spare held n 25 (List.take (Tryz.prog.cellsOf 25) [c1,c2,c3,c4])=some y1 at e
      rw [k_Slaws_Block] at e
      exact e
    have g2:DataW.trod enc Tryz.prog w base spare held n 28 [c2,c3,c4]=some y2:=by
      have e:=hf 2 _ rfl
      change DataW.trod enc Tryz.prog w base spare held n 28 (List.take (Tryz.prog.cellsOf 28) [c2,c3,c4])=some y2 at e
      rw [k_laws_Qc] at e
      exact e
    obtain ⟨z0,e0,_,f0⟩:=DataW.trod_int Tryz.underlying3 g0
    obtain ⟨l1,r1,n1,q1⟩:=opuBlock g1
    obtain ⟨z2,b2,v2,l2,e2,r2,n2,q2,f2,ff2⟩:=open_qc9 g2
    simp only [List.cons.injEq,and_true] at e2
    obtain ⟨ea2,eb2,ec2⟩:=e2
    subst ea2 eb2 ec2
    simp only [List.cons.injEq,and_true] at e0
    subst e0
    exact ⟨⟨z0,l1,z2,b2,l2⟩,⟨c1,c4⟩,rfl,⟨r1,r2⟩,⟨f0,n1,q1,f2,ff2,n2,q2⟩⟩
theorem opuProof {fuel:Nat} {c:Value} {x:DataW H × List MemPlace} (h:DataW.trod enc Tryz.prog w base spare held fuel 58 [c]=some x):∃ l:List Pf,RdPs w c l/\l.length<=maxLen/\∀ q ∈ l,FitPf q:=by
  rcases Deep.open_slice Tryz.underlying58 h with ⟨hcs,_⟩ | ⟨ad,len,cap,m,n,D,Pl,hcs,hb,hl,hm,hmm,hx,hel⟩
  · simp at hcs
    subst hcs
    exact ⟨[],⟨[],rfl,.inl ⟨_,_,rfl,rfl,fun _=>rfl⟩⟩,by simp,by simp⟩
  · simp at hcs
    subst hcs
    have hlm:len<=m:=by rw [hmm];split <;> omega
    by_cases h0:len=0
    · subst h0;exact ⟨[],⟨[],rfl,.inl ⟨_,_,rfl,rfl,fun h=>by cases h⟩⟩,by simp,by simp⟩
    · obtain ⟨b,off,spot⟩:=ad
      rw [show Tryz.prog.cellsOf 30=5 from by kernel_rfl] at hel
      have each:∀ i,i < m->∃ q:Pf × Pv,w.cells? base ((⟨b,off,spot⟩:Addr).add (i * 5)) 5=some (pfC q.1 q.2)/\RdPf w q.1 q.2/\FitPf q.1:=fun i hi=>by
        obtain ⟨cs',h1,h2⟩:=hel i hi
        obtain ⟨p,u,rfl,k1,k2⟩:=open_Pf h2
        exact ⟨(p,u),h1,k1,k2⟩
      obtain ⟨q0,-⟩:=each 0 (by omega)
      haveI:Inhabited (Pf × Pv):=⟨q0⟩
      obtain ⟨q,hq⟩:=Deep.choose_lt each
      have c0:∀ i,i < m->∀ j,j < 5->w.cell? (((⟨b,off,spot⟩:Addr).add (i * 5)).add j)=(pfC (q i).1 (q i).2)[j]?:=fun i hi=>(World.cells?_some (hq i hi).1).2.2
      have hc0:=c0 0 (by omega) 0 (by omega)
      have hspot:spot=none:=by simpa [Addr.add] using World.cell?_spot hc0
      subst hspot
      have hlen:((List.range len).map q).length=len:=by simp
      refine ⟨((List.range len).map q).map (·.1),⟨(List.range len).map q,rfl,.inr ⟨b,off,cap,?_,by rw [hlen],by omega,hm,?_,?_⟩⟩,by simp;omega,?_⟩
      · intro e;rw [e] at hlen;simp at hlen;omega
      · have:=World.block_lt_of_cell? w _ hc0;simpa [Addr.add] using this
      · intro i hi
        rw [hlen] at hi
        simp only [List.getElem_map,List.getElem_range]
        refine ⟨fun j v hv=>?_,(hq i (by omega)).2.1⟩
        have:=c0 i (by omega) j (by have:=(List.getElem?_eq_some_iff.1 hv).1;exact this)
        rw [add_plainV,add_plainV] at this
        exact this.trans hv
      · intro z hz
        obtain ⟨y,hy,rfl⟩:=List.mem_map.1 hz
        obtain ⟨i,hi,rfl⟩:=List.mem_map.1 hy
        exact (hq i (by have:=List.mem_range.1 hi;omega)).2.2
end
end Go.Proofs.YtaidhenkijjcfaaGreat
