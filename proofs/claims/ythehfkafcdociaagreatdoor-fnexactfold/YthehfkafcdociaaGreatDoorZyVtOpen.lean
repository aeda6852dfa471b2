/- Votes and leavings that came in, opened. -/
import Derived.Test.YthehfkafcdociaaGreatDoorZyPfSz
set_option maxRecDepth 20000
namespace Go.Proofs.YthehfkafcdociaaGreatDoor
open Go.RowKit
set_option linter.unusedVariables false
structure FitNd (p:Nd):Prop where
  znm:p.nm.size<=maxLen
  wep:(Lit.int .i64 p.ep).wf=true
  wbe:(Lit.int .i64 p.be).wf=true
  la:p.la.length<=maxLen
  ga:∀ a ∈ p.la,a.1.size<=maxLen/\a.2.2.2.2.length<=maxLen
  ls:p.st.length<=maxLen
  gs:∀ a ∈ p.st,a.1.size<=maxLen
  lt:p.tt.length<=maxLen
  gt:∀ b ∈ p.tt,FitK b
  wrd:(Lit.int .i64 p.rd).wf=true
  wvd:(Lit.int .i64 p.vd).wf=true
  whr:(Lit.int .i64 p.hr).wf=true
  whb:(Lit.int .i64 p.hb).wf=true
  lw:p.hw.length<=maxLen
  gw:∀ a ∈ p.hw,a.size<=maxLen
  wtr:(Lit.int .i64 p.tr).wf=true
  lx:p.tw.length<=maxLen
  gx:∀ a ∈ p.tw,a.size<=maxLen
  lh:p.th.length<=maxLen
  wld:(Lit.int .i64 p.ld).wf=true
  lv:p.vo.length<=maxLen
  gv:∀ a ∈ p.vo,a.2.2.size<=maxLen
  lg:p.go.length<=maxLen
  gg:∀ a ∈ p.go,a.2.2.size<=maxLen
  ld:p.dn.length<=maxLen
  lp:p.pl.length<=maxLen
  gp:∀ a ∈ p.pl,a.2.1.size<=maxLen/\a.2.2.1.size<=maxLen
  lq:p.ps.length<=maxLen
  gq:∀ q ∈ p.ps,FitPf q
structure FitMg (p:Mg):Prop where
  wkd:(Lit.int .i64 p.kd).wf=true
  ztn:p.tn.size<=maxLen
  wep:(Lit.int .i64 p.ep).wf=true
  lb:p.bs.length<=maxLen
  gb:∀ b ∈ p.bs,FitK b
  wvr:(Lit.int .i64 p.vr).wf=true
  wvb:(Lit.int .i64 p.vb).wf=true
  zvw:p.vw.size<=maxLen
  wgr:(Lit.int .i64 p.gr).wf=true
  wgh:(Lit.int .i64 p.gh).wf=true
  zgw:p.gw.size<=maxLen
  wqr:(Lit.int .i64 p.qr).wf=true
  wqb:(Lit.int .i64 p.qb).wf=true
  lq:p.qw.length<=maxLen
  gq:∀ a ∈ p.qw,a.size<=maxLen
  wtr:(Lit.int .i64 p.tr).wf=true
  lw:p.tw.length<=maxLen
  gw:∀ a ∈ p.tw,a.size<=maxLen
  lh:p.th.length<=maxLen
structure FitWd (p:Wd):Prop where
  wep:(Lit.int .i64 p.ep).wf=true
  la:p.la.length<=maxLen
  ga:∀ a ∈ p.la,a.1.size<=maxLen/\a.2.2.2.2.length<=maxLen
  lf:p.fo.length<=maxLen
  gf:∀ a ∈ p.fo,a.size<=maxLen
  ln:p.ns.length<=maxLen
  gn:∀ q ∈ p.ns,FitNd q
  lb:p.bs.length<=maxLen
  gb:∀ b ∈ p.bs,FitK b
  ls:p.sg.length<=maxLen
  gs:∀ q ∈ p.sg,FitSn q
  lm:p.ms.length<=maxLen
  gm:∀ q ∈ p.ms,FitMg q
end Go.Proofs.YthehfkafcdociaaGreatDoor
namespace Go.Proofs.YthehfkafcdociaaGreatDoor
open Go.RowKit Go.ChangeShapes Go.WideShapes
set_option linter.unusedVariables false
section
variable {H:Type} {enc:TypeId × Value->H} {w:World} {base:Nat} {spare:Nat->Bool} {held:Bool}
theorem open_vote {fuel:Nat} {cs:List Value} {x:DataW H × List MemPlace} (h:DataW.trod enc Tryz.prog w base spare held fuel 109 cs=some x) :
    ∃ (r k:Int) (s:ByteArray),cs=[.int .i64 r,.int .i64 k,.string s]/\s.size<=maxLen/\(Lit.int .i64 r).wf=true/\(Lit.int .i64 k).wf=true:=by
  obtain ⟨xs,n,_,_,hlen,hxl,hf⟩:=DataW.trod_struct Tryz.underlying109 h
  have h5:cs.length=3:=hlen.trans (by kernel_rfl)
  have hx5:xs.length=3:=hxl
  match cs,h5,xs,hx5 with
  | [c0,c1,c2],_,[y0,y1,y2],_ =>
    have ki:Tryz.prog.cellsOf 3=1:=by kernel_rfl
    have ks:Tryz.prog.cellsOf 9=1:=by kernel_rfl
    have g0:DataW.trod enc Tryz.prog w base spare held n 3 [c0]=some y0:=by
      have e:=hf 0 _ rfl
      change DataW.trod enc Tryz.prog w base spare held n 3 (List.take (Tryz.prog.cellsOf 3) [c0,c1,c2])=some y0 at e
      rw [ki] at e
      exact e
    have g1:DataW.trod enc Tryz.prog w base spare held n 3 [c1]=some y1:=by
      have e:=hf 1 _ rfl
      change DataW.trod enc Tryz.prog w base spare held n 3 (List.take (Tryz.prog.cellsOf 3) [c1,c2])=some y1 at e
      rw [ki] at e
      exact e
    have g2:DataW.trod enc Tryz.prog w base spare held n 9 [c2]=some y2:=by
      have e:=hf 2 _ rfl
      change DataW.trod enc Tryz.prog w base spare held n 9 (List.take (Tryz.prog.cellsOf 9) [c2])=some y2 at e
      rw [ks] at e
      exact e
    obtain ⟨z0,e0,_,f0⟩:=DataW.trod_int Tryz.underlying3 g0
    obtain ⟨z1,e1,_,f1⟩:=DataW.trod_int Tryz.underlying3 g1
    obtain ⟨s2,e2,_,f2⟩:=DataW.trod_string Tryz.underlying9 g2
    simp only [List.cons.injEq,and_true] at e0 e1 e2
    subst e0 e1 e2
    exact ⟨z0,z1,s2,rfl,f2,f0,f1⟩
theorem open_gone {fuel:Nat} {cs:List Value} {x:DataW H × List MemPlace} (h:DataW.trod enc Tryz.prog w base spare held fuel 111 cs=some x) :
    ∃ (r k:Int) (s:ByteArray),cs=[.int .i64 r,.int .i64 k,.string s]/\s.size<=maxLen/\(Lit.int .i64 r).wf=true/\(Lit.int .i64 k).wf=true:=by
  obtain ⟨xs,n,_,_,hlen,hxl,hf⟩:=DataW.trod_struct Tryz.underlying111 h
  have h5:cs.length=3:=hlen.trans (by kernel_rfl)
  have hx5:xs.length=3:=hxl
  match cs,h5,xs,hx5 with
  | [c0,c1,c2],_,[y0,y1,y2],_ =>
    have ki:Tryz.prog.cellsOf 3=1:=by kernel_rfl
    have ks:Tryz.prog.cellsOf 9=1:=by kernel_rfl
    have g0:DataW.trod enc Tryz.prog w base spare held n 3 [c0]=some y0:=by
      have e:=hf 0 _ rfl
      change DataW.trod enc Tryz.prog w base spare held n 3 (List.take (Tryz.prog.cellsOf 3) [c0,c1,c2])=some y0 at e
      rw [ki] at e
      exact e
    have g1:DataW.trod enc Tryz.prog w base spare held n 3 [c1]=some y1:=by
      have e:=hf 1 _ rfl
      change DataW.trod enc Tryz.prog w base spare held n 3 (List.take (Tryz.prog.cellsOf 3) [c1,c2])=some y1 at e
      rw [ki] at e
      exact e
    have g2:DataW.trod enc Tryz.prog w base spare held n 9 [c2]=some y2:=by
      have e:=hf 2 _ rfl
      change DataW.trod enc Tryz.prog w base spare held n 9 (List.take (Tryz.prog.cellsOf 9) [c2])=some y2 at e
      rw [ks] at e
      exact e
    obtain ⟨z0,e0,_,f0⟩:=DataW.trod_int Tryz.underlying3 g0
    obtain ⟨z1,e1,_,f1⟩:=DataW.trod_int Tryz.underlying3 g1
    obtain ⟨s2,e2,_,f2⟩:=DataW.trod_string Tryz.underlying9 g2
    simp only [List.cons.injEq,and_true] at e0 e1 e2
    subst e0 e1 e2
    exact ⟨z0,z1,s2,rfl,f2,f0,f1⟩
theorem open_voteS {fuel:Nat} {a:Option Addr} {len cap:Nat} {x:DataW H × List MemPlace} (h:DataW.trod enc Tryz.prog w base spare held fuel 95 [.slice a len cap]=some x) :
    ∃ l:List Tr,len=l.length/\RdR w (.slice a len cap) l/\l.length<=maxLen/\∀ q ∈ l,q.2.2.size<=maxLen:=by
  rcases Deep.open_slice Tryz.underlying95 h with ⟨hcs,_⟩ | ⟨ad,len',cap',m,n,D,Pl,hcs,hb,hl,hm,hmm,hx,hel⟩
  · simp at hcs
    obtain ⟨rfl,rfl,rfl⟩:=hcs
    exact ⟨[],rfl,.inl ⟨_,_,rfl,rfl,fun _=>rfl⟩,by simp,by simp⟩
  · simp at hcs
    obtain ⟨rfl,rfl,rfl⟩:=hcs
    have hlm:len<=m:=by rw [hmm];split <;> omega
    by_cases h0:len=0
    · subst h0;exact ⟨[],rfl,.inl ⟨_,_,rfl,rfl,fun h=>by cases h⟩,by simp,by simp⟩
    · obtain ⟨b,off,spot⟩:=ad
      rw [show Tryz.prog.cellsOf 109=3 from by kernel_rfl] at hel
      have each:∀ i,i < m->∃ q:Tr,w.cells? base ((⟨b,off,spot⟩:Addr).add (i * 3)) 3=some (trC q)/\q.2.2.size<=maxLen:=fun i hi=>by
        obtain ⟨cs',h1,h2⟩:=hel i hi
        obtain ⟨r,k,s,rfl,k1,-⟩:=open_vote h2
        exact ⟨(r,k,s),h1,k1⟩
      obtain ⟨q,hq⟩:=Deep.choose_lt each
      have c0:∀ i,i < m->∀ j,j < 3->w.cell? (((⟨b,off,spot⟩:Addr).add (i * 3)).add j)=(trC (q i))[j]?:=fun i hi=>(World.cells?_some (hq i hi).1).2.2
      have hc0:=c0 0 (by omega) 0 (by omega)
      have hspot:spot=none:=by simpa [Addr.add] using World.cell?_spot hc0
      subst hspot
      have hlen:((List.range len).map q).length=len:=by simp
      refine ⟨(List.range len).map q,hlen.symm,.inr ⟨b,off,cap,?_,by rw [hlen],by omega,hm,?_,?_⟩,by omega,?_⟩
      · intro e;rw [e] at hlen;simp at hlen;omega
      · have:=World.block_lt_of_cell? w _ hc0;simpa [Addr.add] using this
      · intro i hi
        rw [hlen] at hi
        have cc:∀ j,j < 3->w.cell? ⟨b,off+i * 3+j,none⟩=(trC (q i))[j]?:=fun j hj=>by
          have:=c0 i (by omega) j hj
          rwa [add_plainV,add_plainV] at this
        simp only [List.getElem_map,List.getElem_range]
        exact ⟨by have:=cc 0 (by omega);simpa [trC] using this,by have:=cc 1 (by omega);simpa [trC] using this,by have:=cc 2 (by omega);simpa [trC] using this⟩
      · intro z hz
        obtain ⟨i,hi,rfl⟩:=List.mem_map.1 hz
        exact (hq i (by have:=List.mem_range.1 hi;omega)).2
theorem open_goneS {fuel:Nat} {a:Option Addr} {len cap:Nat} {x:DataW H × List MemPlace} (h:DataW.trod enc Tryz.prog w base spare held fuel 96 [.slice a len cap]=some x) :
    ∃ l:List Tr,len=l.length/\RdR w (.slice a len cap) l/\l.length<=maxLen/\∀ q ∈ l,q.2.2.size<=maxLen:=by
  rcases Deep.open_slice Tryz.underlying96 h with ⟨hcs,_⟩ | ⟨ad,len',cap',m,n,D,Pl,hcs,hb,hl,hm,hmm,hx,hel⟩
  · simp at hcs
    obtain ⟨rfl,rfl,rfl⟩:=hcs
    exact ⟨[],rfl,.inl ⟨_,_,rfl,rfl,fun _=>rfl⟩,by simp,by simp⟩
  · simp at hcs
    obtain ⟨rfl,rfl,rfl⟩:=hcs
    have hlm:len<=m:=by rw [hmm];split <;> omega
    by_cases h0:len=0
    · subst h0;exact ⟨[],rfl,.inl ⟨_,_,rfl,rfl,fun h=>by cases h⟩,by simp,by simp⟩
    · obtain ⟨b,off,spot⟩:=ad
      rw [show Tryz.prog.cellsOf 111=3 from by kernel_rfl] at hel
      have each:∀ i,i < m->∃ q:Tr,w.cells? base ((⟨b,off,spot⟩:Addr).add (i * 3)) 3=some (trC q)/\q.2.2.size<=maxLen:=fun i hi=>by
        obtain ⟨cs',h1,h2⟩:=hel i hi
        obtain ⟨r,k,s,rfl,k1,-⟩:=open_gone h2
        exact ⟨(r,k,s),h1,k1⟩
      obtain ⟨q,hq⟩:=Deep.choose_lt each
      have c0:∀ i,i < m->∀ j,j < 3->w.cell? (((⟨b,off,spot⟩:Addr).add (i * 3)).add j)=(trC (q i))[j]?:=fun i hi=>(World.cells?_some (hq i hi).1).2.2
      have hc0:=c0 0 (by omega) 0 (by omega)
      have hspot:spot=none:=by simpa [Addr.add] using World.cell?_spot hc0
      subst hspot
      have hlen:((List.range len).map q).length=len:=by simp
      refine ⟨(List.range len).map q,hlen.symm,.inr ⟨b,off,cap,?_,by rw [hlen],by omega,hm,?_,?_⟩,by omega,?_⟩
      · intro e;rw [e] at hlen;simp at hlen;omega
      · have:=World.block_lt_of_cell? w _ hc0;simpa [Addr.add] using this
      · intro i hi
        rw [hlen] at hi
        have cc:∀ j,j < 3->w.cell? ⟨b,off+i * 3+j,none⟩=(trC (q i))[j]?:=fun j hj=>by
          have:=c0 i (by omega) j hj
          rwa [add_plainV,add_plainV] at this
        simp only [List.getElem_map,List.getElem_range]
        exact ⟨by have:=cc 0 (by omega);simpa [trC] using this,by have:=cc 1 (by omega);simpa [trC] using this,by have:=cc 2 (by omega);simpa [trC] using this⟩
      · intro z hz
        obtain ⟨i,hi,rfl⟩:=List.mem_map.1 hz
        exact (hq i (by have:=List.mem_range.1 hi;omega)).2
end
end Go.Proofs.YthehfkafcdociaaGreatDoor
