/- A block that came in, opened. -/
import Derived.Test.YtfdbedenlbikgaaZoBkVal
import Derived.Test.YtfdbedenlbikgaaZoTxOpen
set_option maxRecDepth 20000
set_option maxHeartbeats 1000000
namespace Go.Proofs.Ytfdbedenlbikgaa
open Go.RowKit Go.ChangeShapes Go.WideShapes
set_option linter.unusedVariables false
section
variable {H:Type} {enc:TypeId × Value->H} {w:World} {base:Nat} {spare:Nat->Bool} {held:Bool}
theorem add_plainV (b off i:Nat):(⟨b,off,none⟩:Addr).add i=⟨b,off+i,none⟩:=by
  by_cases hz:i=0
  · subst hz;simp [Addr.add]
  · simp [Addr.add,hz]
theorem open_vl {fuel:Nat} {cs:List Value} {x:DataW H × List MemPlace} (h:DataW.trod enc Try.prog w base spare held fuel 161 cs=some x) :
    ∃ t:Vl,cs=[.string t.1,.int .i64 t.2]/\t.1.size<=maxLen:=by
  obtain ⟨xs,n,_,_,hlen,hxl,hf⟩:=DataW.trod_struct Try.underlying161 h
  have h5:cs.length=2:=hlen.trans (by kernel_rfl)
  have hx5:xs.length=2:=hxl
  match cs,h5,xs,hx5 with
  | [c0,c1],_,[y0,y1],_ =>
    have ks:Try.prog.cellsOf 9=1:=by kernel_rfl
    have ki:Try.prog.cellsOf 3=1:=by kernel_rfl
    have g0:DataW.trod enc Try.prog w base spare held n 9 [c0]=some y0:=by
      have e:=hf 0 _ rfl
      change DataW.trod enc Try.prog w base spare held n 9 (List.take (Try.prog.cellsOf 9) [c0,c1])=some y0 at e
      rw [ks] at e
      exact e
    have g1:DataW.trod enc Try.prog w base spare held n 3 [c1]=some y1:=by
      have e:=hf 1 _ rfl
      change DataW.trod enc Try.prog w base spare held n 3 (List.take (Try.prog.cellsOf 3) [c1])=some y1 at e
      rw [ki] at e
      exact e
    obtain ⟨s0,e0,_,h0⟩:=DataW.trod_string Try.underlying9 g0
    obtain ⟨z1,e1,_⟩:=DataW.trod_int Try.underlying3 g1
    simp only [List.cons.injEq,and_true] at e0 e1
    subst e0 e1
    exact ⟨(s0,z1),rfl,h0⟩
theorem open_vlS {fuel:Nat} {a:Option Addr} {len cap:Nat} {x:DataW H × List MemPlace} (h:DataW.trod enc Try.prog w base spare held fuel 80 [.slice a len cap]=some x) :
    ∃ l:List Vl,len=l.length/\RdV w (.slice a len cap) l/\l.length<=maxLen/\∀ q ∈ l,q.1.size<=maxLen:=by
  rcases Deep.open_slice Try.underlying80 h with ⟨hcs,_⟩ | ⟨ad,len',cap',m,n,D,Pl,hcs,hb,hl,hm,hmm,hx,hel⟩
  · simp at hcs
    obtain ⟨rfl,rfl,rfl⟩:=hcs
    exact ⟨[],rfl,.inl ⟨_,_,rfl,rfl,fun _=>rfl⟩,by simp,by simp⟩
  · simp at hcs
    obtain ⟨rfl,rfl,rfl⟩:=hcs
    have hlm:len<=m:=by rw [hmm];split <;> omega
    by_cases h0:len=0
    · subst h0;exact ⟨[],rfl,.inl ⟨_,_,rfl,rfl,fun h=>by cases h⟩,by simp,by simp⟩
    · obtain ⟨b,off,spot⟩:=ad
      rw [show Try.prog.cellsOf 161=2 from by kernel_rfl] at hel
      have each:∀ i,i < m->∃ q:Vl,w.cells? base ((⟨b,off,spot⟩:Addr).add (i * 2)) 2=some (vlC q)/\q.1.size<=maxLen:=fun i hi=>by
        obtain ⟨cs',h1,h2⟩:=hel i hi
        obtain ⟨q,rfl,k1⟩:=open_vl h2
        exact ⟨q,h1,k1⟩
      obtain ⟨q,hq⟩:=Deep.choose_lt each
      have c0:∀ i,i < m->∀ j,j < 2->w.cell? (((⟨b,off,spot⟩:Addr).add (i * 2)).add j)=(vlC (q i))[j]?:=fun i hi=>(World.cells?_some (hq i hi).1).2.2
      have hc0:=c0 0 (by omega) 0 (by omega)
      have hspot:spot=none:=by simpa [Addr.add] using World.cell?_spot hc0
      subst hspot
      have hlen:((List.range len).map q).length=len:=by simp
      refine ⟨(List.range len).map q,hlen.symm,.inr ⟨b,off,cap,?_,by rw [hlen],by omega,hm,?_,?_⟩,by omega,?_⟩
      · intro e;rw [e] at hlen;simp at hlen;omega
      · have:=World.block_lt_of_cell? w _ hc0;simpa [Addr.add] using this
      · intro i hi
        rw [hlen] at hi
        have cc:∀ j,j < 2->w.cell? ⟨b,off+i * 2+j,none⟩=(vlC (q i))[j]?:=fun j hj=>by
          have:=c0 i (by omega) j hj
          rwa [add_plainV,add_plainV] at this
        simp only [List.getElem_map,List.getElem_range]
        exact ⟨by have:=cc 0 (by omega);simpa [vlC] using this,by have:=cc 1 (by omega);simpa [vlC] using this⟩
      · intro z hz
        obtain ⟨i,hi,rfl⟩:=List.mem_map.1 hz
        exact (hq i (by have:=List.mem_range.1 hi;omega)).2
end
end Go.Proofs.Ytfdbedenlbikgaa
namespace Go.Proofs.Ytfdbedenlbikgaa
open Go.RowKit Go.ChangeShapes Go.WideShapes
set_option linter.unusedVariables false
structure FitK (b:Bk):Prop where
  q:b.qw.length<=maxLen
  w:b.tw.length<=maxLen
  h:b.th.length<=maxLen
  t:b.ts.length<=maxLen
  n:b.nx.length<=maxLen
  qs:∀ s ∈ b.qw,s.size<=maxLen
  ws:∀ s ∈ b.tw,s.size<=maxLen
  ts:∀ t ∈ b.ts,t.2.1.size<=maxLen/\t.2.2.1.size<=maxLen
  ns:∀ p ∈ b.nx,p.1.size<=maxLen
  ms:b.md.size<=maxLen
  rs:b.rt.size<=maxLen
  wf:(Lit.int .i64 b.id).wf=true/\(Lit.int .i64 b.ep).wf=true/\(Lit.int .i64 b.rd).wf=true/\(Lit.int .i64 b.qr).wf=true/\(Lit.int .i64 b.qb).wf=true/\(Lit.int .i64 b.tr).wf=true
section
variable {H:Type} {enc:TypeId × Value->H} {w:World} {base:Nat} {spare:Nat->Bool} {held:Bool}
theorem open_txS9 {fuel:Nat} {a:Option Addr} {len cap:Nat} {x:DataW H × List MemPlace} (h:DataW.trod enc Try.prog w base spare held fuel 85 [.slice a len cap]=some x) :
    ∃ l:List Tx5,len=l.length/\RdT w (.slice a len cap) l/\l.length<=maxLen/\∀ q ∈ l,q.2.1.size<=maxLen/\q.2.2.1.size<=maxLen:=by
  rcases Deep.open_slice Try.underlying85 h with ⟨hcs,_⟩ | ⟨ad,len',cap',m,n,D,Pl,hcs,hb,hl,hm,hmm,hx,hel⟩
  · simp at hcs
    obtain ⟨rfl,rfl,rfl⟩:=hcs
    exact ⟨[],rfl,.inl ⟨_,_,rfl,rfl,fun _=>rfl⟩,by simp,by simp⟩
  · simp at hcs
    obtain ⟨rfl,rfl,rfl⟩:=hcs
    have hlm:len<=m:=by rw [hmm];split <;> omega
    by_cases h0:len=0
    · subst h0;exact ⟨[],rfl,.inl ⟨_,_,rfl,rfl,fun h=>by cases h⟩,by simp,by simp⟩
    · obtain ⟨b,off,spot⟩:=ad
      rw [show Try.prog.cellsOf 164=5 from by kernel_rfl] at hel
      have each:∀ i,i < m->∃ q:Tx5,w.cells? base ((⟨b,off,spot⟩:Addr).add (i * 5)) 5=some (txC q)/\q.2.1.size<=maxLen/\q.2.2.1.size<=maxLen:=fun i hi=>by
        obtain ⟨cs',h1,h2⟩:=hel i hi
        obtain ⟨q,rfl,k1,k2,-⟩:=open_tx h2
        exact ⟨q,h1,k1,k2⟩
      obtain ⟨q,hq⟩:=Deep.choose_lt each
      have c0:∀ i,i < m->∀ j,j < 5->w.cell? (((⟨b,off,spot⟩:Addr).add (i * 5)).add j)=(txC (q i))[j]?:=fun i hi=>(World.cells?_some (hq i hi).1).2.2
      have hc0:=c0 0 (by omega) 0 (by omega)
      have hspot:spot=none:=by simpa [Addr.add] using World.cell?_spot hc0
      subst hspot
      have hlen:((List.range len).map q).length=len:=by simp
      refine ⟨(List.range len).map q,hlen.symm,.inr ⟨b,off,cap,?_,by rw [hlen],by omega,hm,?_,?_⟩,by omega,?_⟩
      · intro e;rw [e] at hlen;simp at hlen;omega
      · have:=World.block_lt_of_cell? w _ hc0;simpa [Addr.add] using this
      · intro i hi
        rw [hlen] at hi
        have cc:∀ j,j < 5->w.cell? ⟨b,off+i * 5+j,none⟩=(txC (q i))[j]?:=fun j hj=>by
          have:=c0 i (by omega) j hj
          rwa [add_plainC,add_plainC] at this
        simp only [List.getElem_map,List.getElem_range]
        exact ⟨by have:=cc 0 (by omega);simpa [txC] using this,by have:=cc 1 (by omega);simpa [txC] using this,by have:=cc 2 (by omega);simpa [txC] using this,by have:=cc 3 (by omega);simpa [txC] using this,by have:=cc 4 (by omega);simpa [txC] using this⟩
      · intro z hz
        obtain ⟨i,hi,rfl⟩:=List.mem_map.1 hz
        exact (hq i (by have:=List.mem_range.1 hi;omega)).2
theorem open_qc9 {fuel:Nat} {cs:List Value} {x:DataW H × List MemPlace} (h:DataW.trod enc Try.prog w base spare held fuel 81 cs=some x) :
    ∃ (r b:Int) (vw:Value) (ws:List ByteArray),cs=[.int .i64 r,.int .i64 b,vw]/\RdS w vw ws/\ws.length<=maxLen/\(∀ s ∈ ws,s.size<=maxLen)/\(Lit.int .i64 r).wf=true/\(Lit.int .i64 b).wf=true:=by
  obtain ⟨xs,n,_,_,hlen,hxl,hf⟩:=DataW.trod_struct Try.underlying81 h
  have h5:cs.length=3:=hlen.trans (by kernel_rfl)
  have hx5:xs.length=3:=hxl
  match cs,h5,xs,hx5 with
  | [c0,c1,c2],_,[y0,y1,y2],_ =>
    have ki:Try.prog.cellsOf 3=1:=by kernel_rfl
    have ks:Try.prog.cellsOf 25=1:=by kernel_rfl
    have g0:DataW.trod enc Try.prog w base spare held n 3 [c0]=some y0:=by
      have e:=hf 0 _ rfl
      change DataW.trod enc Try.prog w base spare held n 3 (List.take (Try.prog.cellsOf 3) [c0,c1,c2])=some y0 at e
      rw [ki] at e
      exact e
    have g1:DataW.trod enc Try.prog w base spare held n 3 [c1]=some y1:=by
      have e:=hf 1 _ rfl
      change DataW.trod enc Try.prog w base spare held n 3 (List.take (Try.prog.cellsOf 3) [c1,c2])=some y1 at e
      rw [ki] at e
      exact e
    have g2:DataW.trod enc Try.prog w base spare held n 25 [c2]=some y2:=by
      have e:=hf 2 _ rfl
      change DataW.trod enc Try.prog w base spare held n 25 (List.take (Try.prog.cellsOf 25) [c2])=some y2 at e
      rw [ks] at e
      exact e
    obtain ⟨z0,e0,_,f0⟩:=DataW.trod_int Try.underlying3 g0
    obtain ⟨z1,e1,_,f1⟩:=DataW.trod_int Try.underlying3 g1
    obtain ⟨v2,ws,e2,hw,hwl,hwz⟩:=open_strs g2
    simp only [List.cons.injEq,and_true] at e0 e1 e2
    subst e0 e1 e2
    exact ⟨z0,z1,c2,ws,rfl,hw,hwl,hwz,f0,f1⟩
theorem open_tc9 {fuel:Nat} {cs:List Value} {x:DataW H × List MemPlace} (h:DataW.trod enc Try.prog w base spare held fuel 82 cs=some x) :
    ∃ (r:Int) (vw vh:Value) (ws:List ByteArray) (hs:List Int),cs=[.int .i64 r,vw,vh]/\RdS w vw ws/\RdI w vh hs/\ws.length<=maxLen/\(∀ s ∈ ws,s.size<=maxLen)/\hs.length<=maxLen/\(Lit.int .i64 r).wf=true:=by
  obtain ⟨xs,n,_,_,hlen,hxl,hf⟩:=DataW.trod_struct Try.underlying82 h
  have h5:cs.length=3:=hlen.trans (by kernel_rfl)
  have hx5:xs.length=3:=hxl
  match cs,h5,xs,hx5 with
  | [c0,c1,c2],_,[y0,y1,y2],_ =>
    have ki:Try.prog.cellsOf 3=1:=by kernel_rfl
    have ks:Try.prog.cellsOf 25=1:=by kernel_rfl
    have kh:Try.prog.cellsOf 55=1:=by kernel_rfl
    have g0:DataW.trod enc Try.prog w base spare held n 3 [c0]=some y0:=by
      have e:=hf 0 _ rfl
      change DataW.trod enc Try.prog w base spare held n 3 (List.take (Try.prog.cellsOf 3) [c0,c1,c2])=some y0 at e
      rw [ki] at e
      exact e
    have g1:DataW.trod enc Try.prog w base spare held n 25 [c1]=some y1:=by
      have e:=hf 1 _ rfl
      change DataW.trod enc Try.prog w base spare held n 25 (List.take (Try.prog.cellsOf 25) [c1,c2])=some y1 at e
      rw [ks] at e
      exact e
    have g2:DataW.trod enc Try.prog w base spare held n 55 [c2]=some y2:=by
      have e:=hf 2 _ rfl
      change DataW.trod enc Try.prog w base spare held n 55 (List.take (Try.prog.cellsOf 55) [c2])=some y2 at e
      rw [kh] at e
      exact e
    obtain ⟨z0,e0,_,f0⟩:=DataW.trod_int Try.underlying3 g0
    obtain ⟨v1,ws,e1,hw,hwl,hwz⟩:=open_strs g1
    obtain ⟨v2,hs,e2,hh,hhl⟩:=open_intsC g2
    simp only [List.cons.injEq,and_true] at e0 e1 e2
    subst e0 e1 e2
    exact ⟨z0,c1,c2,ws,hs,rfl,hw,hh,hwl,hwz,hhl,f0⟩
theorem open_block {fuel:Nat} {cs:List Value} {x:DataW H × List MemPlace} (h:DataW.trod enc Try.prog w base spare held fuel 91 cs=some x) :
    ∃ (b:Bk) (v:Bv),cs=bkC b v/\RdK w b v/\FitK b:=by
  obtain ⟨xs,n,_,_,hlen,hxl,hf⟩:=DataW.trod_struct Try.underlying91 h
  have h5:cs.length=14:=hlen.trans (by kernel_rfl)
  have hx5:xs.length=10:=hxl
  match cs,h5,xs,hx5 with
  | [c0,c1,c2,c3,c4,c5,c6,c7,c8,c9,c10,c11,c12,c13],_,[y0,y1,y2,y3,y4,y5,y6,y7,y8,y9],_ =>
    have k_int:Try.prog.cellsOf 3=1:=by kernel_rfl
    have k_string:Try.prog.cellsOf 9=1:=by kernel_rfl
    have k_laws_Qc:Try.prog.cellsOf 81=3:=by kernel_rfl
    have k_laws_Tc:Try.prog.cellsOf 82=3:=by kernel_rfl
    have k_Slaws_Tx:Try.prog.cellsOf 85=1:=by kernel_rfl
    have k_bool:Try.prog.cellsOf 4=1:=by kernel_rfl
    have k_Slaws_Val:Try.prog.cellsOf 80=1:=by kernel_rfl
    have g0:DataW.trod enc Try.prog w base spare held n 3 [c0]=some y0:=by
      have e:=hf 0 _ rfl
      change DataW.trod enc Try.prog w base spare held n 3 (List.take (Try.prog.cellsOf 3) [c0,c1,c2,c3,c4,c5,c6,c7,c8,c9,c10,c11,c12,c13])=some y0 at e
      rw [k_int] at e
      exact e
    have g1:DataW.trod enc Try.prog w base spare held n 3 [c1]=some y1:=by
      have e:=hf 1 _ rfl
      change DataW.trod enc Try.prog w base spare held n 3 (List.take (Try.prog.cellsOf 3) [c1,c2,c3,c4,c5,c6,c7,c8,c9,c10,c11,c12,c13])=some y1 at e
      rw [k_int] at e
      exact e
    have g2:DataW.trod enc Try.prog w base spare held n 3 [c2]=some y2:=by
      have e:=hf 2 _ rfl
      change DataW.trod enc Try.prog w base spare held n 3 (List.take (Try.prog.cellsOf 3) [c2,c3,c4,c5,c6,c7,c8,c9,c10,c11,c12,c13])=some y2 at e
      rw [k_int] at e
      exact e
    have g3:DataW.trod enc Try.prog w base spare held n 9 [c3]=some y3:=by
      have e:=hf 3 _ rfl
      change DataW.trod enc Try.prog w base spare held n 9 (List.take (Try.prog.cellsOf 9) [c3,c4,c5,c6,c7,c8,c9,c10,c11,c12,c13])=some y3 at e
      rw [k_string] at e
      exact e
    have g4:DataW.trod enc Try.prog w base spare held n 81 [c4,c5,c6]=some y4:=by
      have e:=hf 4 _ rfl
      change DataW.trod enc Try.prog w base spare held n 81 (List.take (Try.prog.cellsOf 81) [c4,c5,c6,c7,c8,c9,c10,c11,c12,c13])=some y4 at e
      rw [k_laws_Qc] at e
      exact e
    have g5:DataW.trod enc Try.prog w base spare held n 82 [c7,c8,c9]=some y5:=by
      have e:=hf 5 _ rfl
      change DataW.trod enc Try.prog w base spare held n 82 (List.take (Try.prog.cellsOf 82) [c7,c8,c9,c10,c11,c12,c13])=some y5 at e
      rw [k_laws_Tc] at e
      exact e
    have g6:DataW.trod enc Try.prog w base spare held n 85 [c10]=some y6:=by
      have e:=hf 6 _ rfl
      change DataW.trod enc Try.prog w base spare held n 85 (List.take (Try.prog.cellsOf 85) [c10,c11,c12,c13])=some y6 at e
      rw [k_Slaws_Tx] at e
      exact e
    have g7:DataW.trod enc Try.prog w base spare held n 4 [c11]=some y7:=by
      have e:=hf 7 _ rfl
      change DataW.trod enc Try.prog w base spare held n 4 (List.take (Try.prog.cellsOf 4) [c11,c12,c13])=some y7 at e
      rw [k_bool] at e
      exact e
    have g8:DataW.trod enc Try.prog w base spare held n 80 [c12]=some y8:=by
      have e:=hf 8 _ rfl
      change DataW.trod enc Try.prog w base spare held n 80 (List.take (Try.prog.cellsOf 80) [c12,c13])=some y8 at e
      rw [k_Slaws_Val] at e
      exact e
    have g9:DataW.trod enc Try.prog w base spare held n 9 [c13]=some y9:=by
      have e:=hf 9 _ rfl
      change DataW.trod enc Try.prog w base spare held n 9 (List.take (Try.prog.cellsOf 9) [c13])=some y9 at e
      rw [k_string] at e
      exact e
    obtain ⟨z0,e0,_,f0⟩:=DataW.trod_int Try.underlying3 g0
    obtain ⟨z1,e1,_,f1⟩:=DataW.trod_int Try.underlying3 g1
    obtain ⟨z2,e2,_,f2⟩:=DataW.trod_int Try.underlying3 g2
    obtain ⟨s3,e3,_,f3⟩:=DataW.trod_string Try.underlying9 g3
    obtain ⟨r4,b4,v4,ws4,e4,hw4,hl4,hz4,f4,f4'⟩:=open_qc9 g4
    obtain ⟨r5,v5,u5,ws5,hs5,e5,hw5,hh5,hl5,hz5,hm5,f5⟩:=open_tc9 g5
    obtain ⟨a6,n6,p6,rfl⟩:∃ a len cap,c10=.slice a len cap:=by
      rcases Deep.open_slice Try.underlying85 g6 with ⟨hcs,_⟩ | ⟨ad,len',cap',m,n,D,Pl,hcs,_⟩ <;> (simp only [List.cons.injEq,and_true] at hcs;exact ⟨_,_,_,hcs⟩)
    obtain ⟨t6,en6,ht6,hl6,hz6⟩:=open_txS9 g6
    obtain ⟨b7,e7,_⟩:=DataW.trod_bool Try.underlying4 g7
    obtain ⟨a8,n8,p8,rfl⟩:∃ a len cap,c12=.slice a len cap:=by
      rcases Deep.open_slice Try.underlying80 g8 with ⟨hcs,_⟩ | ⟨ad,len',cap',m,n,D,Pl,hcs,_⟩ <;> (simp only [List.cons.injEq,and_true] at hcs;exact ⟨_,_,_,hcs⟩)
    obtain ⟨t8,en8,ht8,hl8,hz8⟩:=open_vlS g8
    obtain ⟨s9,e9,_,f9⟩:=DataW.trod_string Try.underlying9 g9
    simp only [List.cons.injEq,and_true] at e0 e1 e2 e3 e4 e5 e7 e9
    obtain ⟨e4a,e4b,e4c⟩:=e4
    obtain ⟨e5a,e5b,e5c⟩:=e5
    subst e0 e1 e2 e3 e4a e4b e4c e5a e5b e5c e7 e9
    exact ⟨⟨z0,z1,z2,s3,r4,b4,ws4,r5,ws5,hs5,t6,b7,t8,s9⟩,⟨c6,c8,c9,.slice a6 n6 p6,.slice a8 n8 p8⟩,rfl,⟨hw4,hw5,hh5,ht6,ht8⟩,⟨hl4,hl5,hm5,hl6,hl8,hz4,hz5,hz6,hz8,f3,f9,f0,f1,f2,f4,f4',f5⟩⟩
end
end Go.Proofs.Ytfdbedenlbikgaa
