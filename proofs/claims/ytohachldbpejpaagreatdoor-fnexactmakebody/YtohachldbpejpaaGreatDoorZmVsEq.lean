/- Those who vote that came in, opened: what they read as. A block that came in, opened: what it reads as. Blocks that came in, opened: what they read as. Orders that came in, opened: what they read as. Those who vote, held against each other; their size. -/
import Derived.Test.YtohachldbpejpaaGreatDoorZmVsMem
import Derived.Deep.SlicePairs
import Derived.Lib.SmallJoins
import Derived.OpenShut
import Derived.ShutString
import Derived.ChangeOld
import Derived.WideShapes
import Derived.Test.YtohachldbpejpaaGreatDoorZmBkTo
import Derived.Test.YtohachldbpejpaaGreatDoorZmTxOpen
import Derived.Test.YtohachldbpejpaaGreatDoorZmTxRow
import Derived.Test.YtohachldbpejpaaGreatDoorZmAcOpen
import Derived.Deep.RegionHeldLaw
namespace Go.Proofs.YtohachldbpejpaaGreatDoor
open Go.RowKit Go.ChangeShapes Go.WideShapes
set_option linter.unusedVariables false
section
variable {H:Type} {enc:TypeId × Value->H} {w:World} {base:Nat} {spare:Nat->Bool} {held:Bool}
theorem add_plainV (b off i:Nat):(⟨b,off,none⟩:Addr).add i=⟨b,off+i,none⟩:=by
  by_cases hz:i=0
  · subst hz;simp [Addr.add]
  · simp [Addr.add,hz]
set_option maxRecDepth 20000 in
theorem open_vl {fuel:Nat} {cs:List Value} {x:DataW H × List MemPlace} (h:DataW.trod enc Tryz.prog w base spare held fuel 213 cs=some x) :
    ∃ t:Vl,cs=[.string t.1,.int .i64 t.2]/\t.1.size<=maxLen:=by
  obtain ⟨xs,n,_,_,hlen,hxl,hf⟩:=DataW.trod_struct Tryz.underlying213 h
  have h5:cs.length=2:=hlen.trans (by kernel_rfl)
  have hx5:xs.length=2:=hxl
  match cs,h5,xs,hx5 with
  | [c0,c1],_,[y0,y1],_ =>
    have ks:Tryz.prog.cellsOf 9=1:=by kernel_rfl
    have ki:Tryz.prog.cellsOf 3=1:=by kernel_rfl
    have g0:DataW.trod enc Tryz.prog w base spare held n 9 [c0]=some y0:=by
      have e:=hf 0 _ rfl
      change DataW.trod enc Tryz.prog w base spare held n 9 (List.take (Tryz.prog.cellsOf 9) [c0,c1])=some y0 at e
      rw [ks] at e
      exact e
    have g1:DataW.trod enc Tryz.prog w base spare held n 3 [c1]=some y1:=by
      have e:=hf 1 _ rfl
      change DataW.trod enc Tryz.prog w base spare held n 3 (List.take (Tryz.prog.cellsOf 3) [c1])=some y1 at e
      rw [ki] at e
      exact e
    obtain ⟨s0,e0,_,h0⟩:=DataW.trod_string Tryz.underlying9 g0
    obtain ⟨z1,e1,_⟩:=DataW.trod_int Tryz.underlying3 g1
    simp only [List.cons.injEq,and_true] at e0 e1
    subst e0 e1
    exact ⟨(s0,z1),rfl,h0⟩
theorem open_vlS {fuel:Nat} {a:Option Addr} {len cap:Nat} {x:DataW H × List MemPlace} (h:DataW.trod enc Tryz.prog w base spare held fuel 69 [.slice a len cap]=some x) :
    ∃ l:List Vl,len=l.length/\RdV w (.slice a len cap) l/\l.length<=maxLen/\∀ q ∈ l,q.1.size<=maxLen:=by
  rcases Deep.open_slice Tryz.underlying69 h with ⟨hcs,_⟩ | ⟨ad,len',cap',m,n,D,Pl,hcs,hb,hl,hm,hmm,hx,hel⟩
  · simp at hcs
    obtain ⟨rfl,rfl,rfl⟩:=hcs
    exact ⟨[],rfl,.inl ⟨_,_,rfl,rfl,fun _=>rfl⟩,by simp,by simp⟩
  · simp at hcs
    obtain ⟨rfl,rfl,rfl⟩:=hcs
    have hlm:len<=m:=by rw [hmm];split <;> omega
    by_cases h0:len=0
    · subst h0;exact ⟨[],rfl,.inl ⟨_,_,rfl,rfl,fun h=>by cases h⟩,by simp,by simp⟩
    · obtain ⟨b,off,spot⟩:=ad
      rw [show Tryz.prog.cellsOf 213=2 from by kernel_rfl] at hel
      have each:∀ i,i < m->∃ q:Vl,w.cells? base ((⟨b,off,spot⟩:Addr).add (i * 2)) 2=some (vlC q)/\q.1.size<=maxLen:=fun i hi=>by
        obtain ⟨cs',h1,h2⟩:=hel i hi
        obtain ⟨q,rfl,k1⟩:=open_vl h2
        exact ⟨q,h1,k1⟩
      obtain ⟨q,hq⟩:=Deep.choose_lt each
      have c0:∀ i,i < m->∀ j,j < 2->w.cell? (((⟨b,off,spot⟩:Addr).add (i * 2)).add j)=(vlC (q i))[j]?:=fun i hi=>(World.cells?_some (hq i hi).1).2.2
      have hc0:=c0 0 (by omega) 0 (by omega)
      have hspot:spot=none:=by simpa [Addr.add] using World.cell?_spot hc0
      subst hspot
      have hlen:((List.range len).map q).length=len:=by simp
      refine ⟨(List.range len).map q,hlen.symm,.inr ⟨b,off,cap,?_,by rw [hlen],by omega,hm,?_,?_⟩,by omega,?_⟩
      · intro e;rw [e] at hlen;simp at hlen;omega
      · have:=World.block_lt_of_cell? w _ hc0;simpa [Addr.add] using this
      · intro i hi
        rw [hlen] at hi
        have cc:∀ j,j < 2->w.cell? ⟨b,off+i * 2+j,none⟩=(vlC (q i))[j]?:=fun j hj=>by
          have:=c0 i (by omega) j hj
          rwa [add_plainV,add_plainV] at this
        simp only [List.getElem_map,List.getElem_range]
        exact ⟨by have:=cc 0 (by omega);simpa [vlC] using this,by have:=cc 1 (by omega);simpa [vlC] using this⟩
      · intro z hz
        obtain ⟨i,hi,rfl⟩:=List.mem_map.1 hz
        exact (hq i (by have:=List.mem_range.1 hi;omega)).2
end
end Go.Proofs.YtohachldbpejpaaGreatDoor

namespace Go.Proofs.YtohachldbpejpaaGreatDoor
open Go.RowKit Go.ChangeShapes Go.WideShapes
set_option linter.unusedVariables false
structure FitK (b:Bk):Prop where
  q:b.qw.length<=maxLen
  w:b.tw.length<=maxLen
  h:b.th.length<=maxLen
  t:b.ts.length<=maxLen
  n:b.nx.length<=maxLen
  qs:∀ s ∈ b.qw,s.size<=maxLen
  ws:∀ s ∈ b.tw,s.size<=maxLen
  ts:∀ t ∈ b.ts,t.2.1.size<=maxLen/\t.2.2.1.size<=maxLen
  ns:∀ p ∈ b.nx,p.1.size<=maxLen
  ms:b.md.size<=maxLen
  rs:b.rt.size<=maxLen
  wf:(Lit.int .i64 b.id).wf=true/\(Lit.int .i64 b.ep).wf=true/\(Lit.int .i64 b.rd).wf=true/\(Lit.int .i64 b.qr).wf=true/\(Lit.int .i64 b.qb).wf=true/\(Lit.int .i64 b.tr).wf=true
section
variable {H:Type} {enc:TypeId × Value->H} {w:World} {base:Nat} {spare:Nat->Bool} {held:Bool}
theorem open_txS9 {fuel:Nat} {a:Option Addr} {len cap:Nat} {x:DataW H × List MemPlace} (h:DataW.trod enc Tryz.prog w base spare held fuel 68 [.slice a len cap]=some x) :
    ∃ l:List Tx5,len=l.length/\RdT w (.slice a len cap) l/\l.length<=maxLen/\∀ q ∈ l,q.2.1.size<=maxLen/\q.2.2.1.size<=maxLen:=by
  rcases Deep.open_slice Tryz.underlying68 h with ⟨hcs,_⟩ | ⟨ad,len',cap',m,n,D,Pl,hcs,hb,hl,hm,hmm,hx,hel⟩
  · simp at hcs
    obtain ⟨rfl,rfl,rfl⟩:=hcs
    exact ⟨[],rfl,.inl ⟨_,_,rfl,rfl,fun _=>rfl⟩,by simp,by simp⟩
  · simp at hcs
    obtain ⟨rfl,rfl,rfl⟩:=hcs
    have hlm:len<=m:=by rw [hmm];split <;> omega
    by_cases h0:len=0
    · subst h0;exact ⟨[],rfl,.inl ⟨_,_,rfl,rfl,fun h=>by cases h⟩,by simp,by simp⟩
    · obtain ⟨b,off,spot⟩:=ad
      rw [show Tryz.prog.cellsOf 151=5 from by kernel_rfl] at hel
      have each:∀ i,i < m->∃ q:Tx5,w.cells? base ((⟨b,off,spot⟩:Addr).add (i * 5)) 5=some (txC q)/\q.2.1.size<=maxLen/\q.2.2.1.size<=maxLen:=fun i hi=>by
        obtain ⟨cs',h1,h2⟩:=hel i hi
        obtain ⟨q,rfl,k1,k2,-⟩:=open_tx h2
        exact ⟨q,h1,k1,k2⟩
      obtain ⟨q,hq⟩:=Deep.choose_lt each
      have c0:∀ i,i < m->∀ j,j < 5->w.cell? (((⟨b,off,spot⟩:Addr).add (i * 5)).add j)=(txC (q i))[j]?:=fun i hi=>(World.cells?_some (hq i hi).1).2.2
      have hc0:=c0 0 (by omega) 0 (by omega)
      have hspot:spot=none:=by simpa [Addr.add] using World.cell?_spot hc0
      subst hspot
      have hlen:((List.range len).map q).length=len:=by simp
      refine ⟨(List.range len).map q,hlen.symm,.inr ⟨b,off,cap,?_,by rw [hlen],by omega,hm,?_,?_⟩,by omega,?_⟩
      · intro e;rw [e] at hlen;simp at hlen;omega
      · have:=World.block_lt_of_cell? w _ hc0;simpa [Addr.add] using this
      · intro i hi
        rw [hlen] at hi
        have cc:∀ j,j < 5->w.cell? ⟨b,off+i * 5+j,none⟩=(txC (q i))[j]?:=fun j hj=>by
          have:=c0 i (by omega) j hj
          rwa [add_plainC,add_plainC] at this
        simp only [List.getElem_map,List.getElem_range]
        exact ⟨by have:=cc 0 (by omega);simpa [txC] using this,by have:=cc 1 (by omega);simpa [txC] using this,by have:=cc 2 (by omega);simpa [txC] using this,by have:=cc 3 (by omega);simpa [txC] using this,by have:=cc 4 (by omega);simpa [txC] using this⟩
      · intro z hz
        obtain ⟨i,hi,rfl⟩:=List.mem_map.1 hz
        exact (hq i (by have:=List.mem_range.1 hi;omega)).2
set_option maxRecDepth 20000 in
theorem open_qc9 {fuel:Nat} {cs:List Value} {x:DataW H × List MemPlace} (h:DataW.trod enc Tryz.prog w base spare held fuel 66 cs=some x) :
    ∃ (r b:Int) (vw:Value) (ws:List ByteArray),cs=[.int .i64 r,.int .i64 b,vw]/\RdS w vw ws/\ws.length<=maxLen/\(∀ s ∈ ws,s.size<=maxLen)/\(Lit.int .i64 r).wf=true/\(Lit.int .i64 b).wf=true:=by
  obtain ⟨xs,n,_,_,hlen,hxl,hf⟩:=DataW.trod_struct Tryz.underlying66 h
  have h5:cs.length=3:=hlen.trans (by kernel_rfl)
  have hx5:xs.length=3:=hxl
  match cs,h5,xs,hx5 with
  | [c0,c1,c2],_,[y0,y1,y2],_ =>
    have ki:Tryz.prog.cellsOf 3=1:=by kernel_rfl
    have ks:Tryz.prog.cellsOf 42=1:=by kernel_rfl
    have g0:DataW.trod enc Tryz.prog w base spare held n 3 [c0]=some y0:=by
      have e:=hf 0 _ rfl
      change DataW.trod enc Tryz.prog w base spare held n 3 (List.take (Tryz.prog.cellsOf 3) [c0,c1,c2])=some y0 at e
      rw [ki] at e
      exact e
    have g1:DataW.trod enc Tryz.prog w base spare held n 3 [c1]=some y1:=by
      have e:=hf 1 _ rfl
      change DataW.trod enc Tryz.prog w base spare held n 3 (List.take (Tryz.prog.cellsOf 3) [c1,c2])=some y1 at e
      rw [ki] at e
      exact e
    have g2:DataW.trod enc Tryz.prog w base spare held n 42 [c2]=some y2:=by
      have e:=hf 2 _ rfl
      change DataW.trod enc Tryz.prog w base spare held n 42 (List.take (Tryz.prog.cellsOf 42) [c2])=some y2 at e
      rw [ks] at e
      exact e
    obtain ⟨z0,e0,_,f0⟩:=DataW.trod_int Tryz.underlying3 g0
    obtain ⟨z1,e1,_,f1⟩:=DataW.trod_int Tryz.underlying3 g1
    obtain ⟨v2,ws,e2,hw,hwl,hwz⟩:=open_strs g2
    simp only [List.cons.injEq,and_true] at e0 e1 e2
    subst e0 e1 e2
    exact ⟨z0,z1,c2,ws,rfl,hw,hwl,hwz,f0,f1⟩
set_option maxRecDepth 20000 in
theorem open_tc9 {fuel:Nat} {cs:List Value} {x:DataW H × List MemPlace} (h:DataW.trod enc Tryz.prog w base spare held fuel 67 cs=some x) :
    ∃ (r:Int) (vw vh:Value) (ws:List ByteArray) (hs:List Int),cs=[.int .i64 r,vw,vh]/\RdS w vw ws/\RdI w vh hs/\ws.length<=maxLen/\(∀ s ∈ ws,s.size<=maxLen)/\hs.length<=maxLen/\(Lit.int .i64 r).wf=true:=by
  obtain ⟨xs,n,_,_,hlen,hxl,hf⟩:=DataW.trod_struct Tryz.underlying67 h
  have h5:cs.length=3:=hlen.trans (by kernel_rfl)
  have hx5:xs.length=3:=hxl
  match cs,h5,xs,hx5 with
  | [c0,c1,c2],_,[y0,y1,y2],_ =>
    have ki:Tryz.prog.cellsOf 3=1:=by kernel_rfl
    have ks:Tryz.prog.cellsOf 42=1:=by kernel_rfl
    have kh:Tryz.prog.cellsOf 45=1:=by kernel_rfl
    have g0:DataW.trod enc Tryz.prog w base spare held n 3 [c0]=some y0:=by
      have e:=hf 0 _ rfl
      change DataW.trod enc Tryz.prog w base spare held n 3 (List.take (Tryz.prog.cellsOf 3) [c0,c1,c2])=some y0 at e
      rw [ki] at e
      exact e
    have g1:DataW.trod enc Tryz.prog w base spare held n 42 [c1]=some y1:=by
      have e:=hf 1 _ rfl
      change DataW.trod enc Tryz.prog w base spare held n 42 (List.take (Tryz.prog.cellsOf 42) [c1,c2])=some y1 at e
      rw [ks] at e
      exact e
    have g2:DataW.trod enc Tryz.prog w base spare held n 45 [c2]=some y2:=by
      have e:=hf 2 _ rfl
      change DataW.trod enc Tryz.prog w base spare held n 45 (List.take (Tryz.prog.cellsOf 45) [c2])=some y2 at e
      rw [kh] at e
      exact e
    obtain ⟨z0,e0,_,f0⟩:=DataW.trod_int Tryz.underlying3 g0
    obtain ⟨v1,ws,e1,hw,hwl,hwz⟩:=open_strs g1
    obtain ⟨v2,hs,e2,hh,hhl⟩:=open_intsC g2
    simp only [List.cons.injEq,and_true] at e0 e1 e2
    subst e0 e1 e2
    exact ⟨z0,c1,c2,ws,hs,rfl,hw,hh,hwl,hwz,hhl,f0⟩
set_option maxRecDepth 20000 in
set_option maxHeartbeats 1000000 in
theorem open_block {fuel:Nat} {cs:List Value} {x:DataW H × List MemPlace} (h:DataW.trod enc Tryz.prog w base spare held fuel 71 cs=some x) :
    ∃ (b:Bk) (v:Bv),cs=bkC b v/\RdK w b v/\FitK b:=by
  obtain ⟨xs,n,_,_,hlen,hxl,hf⟩:=DataW.trod_struct Tryz.underlying71 h
  have h5:cs.length=14:=hlen.trans (by kernel_rfl)
  have hx5:xs.length=10:=hxl
  match cs,h5,xs,hx5 with
  | [c0,c1,c2,c3,c4,c5,c6,c7,c8,c9,c10,c11,c12,c13],_,[y0,y1,y2,y3,y4,y5,y6,y7,y8,y9],_ =>
    have k_int:Tryz.prog.cellsOf 3=1:=by kernel_rfl
    have k_string:Tryz.prog.cellsOf 9=1:=by kernel_rfl
    have k_laws_Qc:Tryz.prog.cellsOf 66=3:=by kernel_rfl
    have k_laws_Tc:Tryz.prog.cellsOf 67=3:=by kernel_rfl
    have k_Slaws_Tx:Tryz.prog.cellsOf 68=1:=by kernel_rfl
    have k_bool:Tryz.prog.cellsOf 4=1:=by kernel_rfl
    have k_Slaws_Val:Tryz.prog.cellsOf 69=1:=by kernel_rfl
    have g0:DataW.trod enc Tryz.prog w base spare held n 3 [c0]=some y0:=by
      have e:=hf 0 _ rfl
      change DataW.trod enc Tryz.prog w base spare held n 3 (List.take (Tryz.prog.cellsOf 3) [c0,c1,c2,c3,c4,c5,c6,c7,c8,c9,c10,c11,c12,c13])=some y0 at e
      rw [k_int] at e
      exact e
    have g1:DataW.trod enc Tryz.prog w base spare held n 3 [c1]=some y1:=by
      have e:=hf 1 _ rfl
      change DataW.trod enc Tryz.prog w base spare held n 3 (List.take (Tryz.prog.cellsOf 3) [c1,c2,c3,c4,c5,c6,c7,c8,c9,c10,c11,c12,c13])=some y1 at e
      rw [k_int] at e
      exact e
    have g2:DataW.trod enc Tryz.prog w base spare held n 3 [c2]=some y2:=by
      have e:=hf 2 _ rfl
      change DataW.trod enc Tryz.prog w base spare held n 3 (List.take (Tryz.prog.cellsOf 3) [c2,c3,c4,c5,c6,c7,c8,c9,c10,c11,c12,c13])=some y2 at e
      rw [k_int] at e
      exact e
    have g3:DataW.trod enc Tryz.prog w base spare held n 9 [c3]=some y3:=by
      have e:=hf 3 _ rfl
      change DataW.trod enc Tryz.prog w base spare held n 9 (List.take (Tryz.prog.cellsOf 9) [c3,c4,c5,c6,c7,c8,c9,c10,c11,c12,c13])=some y3 at e
      rw [k_string] at e
      exact e
    have g4:DataW.trod enc Tryz.prog w base spare held n 66 [c4,c5,c6]=some y4:=by
      have e:=hf 4 _ rfl
      change DataW.trod enc Tryz.prog w base spare held n 66 (List.take (Tryz.prog.cellsOf 66) [c4,c5,c6,c7,c8,c9,c10,c11,c12,c13])=some y4 at e
      rw [k_laws_Qc] at e
      exact e
    have g5:DataW.trod enc Tryz.prog w base spare held n 67 [c7,c8,c9]=some y5:=by
      have e:=hf 5 _ rfl
      change DataW.trod enc Tryz.prog w base spare held n 67 (List.take (Tryz.prog.cellsOf 67) [c7,c8,c9,c10,c11,c12,c13])=some y5 at e
      rw [k_laws_Tc] at e
      exact e
    have g6:DataW.trod enc Tryz.prog w base spare held n 68 [c10]=some y6:=by
      have e:=hf 6 _ rfl
      change DataW.trod enc Tryz.prog w base spare held n 68 (List.take (Tryz.prog.cellsOf 68) [c10,c11,c12,c13])=some y6 at e
      rw [k_Slaws_Tx] at e
      exact e
    have g7:DataW.trod enc Tryz.prog w base spare held n 4 [c11]=some y7:=by
      have e:=hf 7 _ rfl
      change DataW.trod enc Tryz.prog w base spare held n 4 (List.take (Tryz.prog.cellsOf 4) [c11,c12,c13])=some y7 at e
      rw [k_bool] at e
      exact e
    have g8:DataW.trod enc Tryz.prog w base spare held n 69 [c12]=some y8:=by
      have e:=hf 8 _ rfl
      change DataW.trod enc Tryz.prog w base spare held n 69 (List.take (Tryz.prog.cellsOf 69) [c12,c13])=some y8 at e
      rw [k_Slaws_Val] at e
      exact e
    have g9:DataW.trod enc Tryz.prog w base spare held n 9 [c13]=some y9:=by
      have e:=hf 9 _ rfl
      change DataW.trod enc Tryz.prog w base spare held n 9 (List.take (Tryz.prog.cellsOf 9) [c13])=some y9 at e
      rw [k_string] at e
      exact e
    obtain ⟨z0,e0,_,f0⟩:=DataW.trod_int Tryz.underlying3 g0
    obtain ⟨z1,e1,_,f1⟩:=DataW.trod_int Tryz.underlying3 g1
    obtain ⟨z2,e2,_,f2⟩:=DataW.trod_int Tryz.underlying3 g2
    obtain ⟨s3,e3,_,f3⟩:=DataW.trod_string Tryz.underlying9 g3
    obtain ⟨r4,b4,v4,ws4,e4,hw4,hl4,hz4,f4,f4'⟩:=open_qc9 g4
    obtain ⟨r5,v5,u5,ws5,hs5,e5,hw5,hh5,hl5,hz5,hm5,f5⟩:=open_tc9 g5
    obtain ⟨a6,n6,p6,rfl⟩:∃ a len cap,c10=.slice a len cap:=by
      rcases Deep.open_slice Tryz.underlying68 g6 with ⟨hcs,_⟩ | ⟨ad,len',cap',m,n,D,Pl,hcs,_⟩ <;> (simp only [List.cons.injEq,and_true] at hcs;exact ⟨_,_,_,hcs⟩)
    obtain ⟨t6,en6,ht6,hl6,hz6⟩:=open_txS9 g6
    obtain ⟨b7,e7,_⟩:=DataW.trod_bool Tryz.underlying4 g7
    obtain ⟨a8,n8,p8,rfl⟩:∃ a len cap,c12=.slice a len cap:=by
      rcases Deep.open_slice Tryz.underlying69 g8 with ⟨hcs,_⟩ | ⟨ad,len',cap',m,n,D,Pl,hcs,_⟩ <;> (simp only [List.cons.injEq,and_true] at hcs;exact ⟨_,_,_,hcs⟩)
    obtain ⟨t8,en8,ht8,hl8,hz8⟩:=open_vlS g8
    obtain ⟨s9,e9,_,f9⟩:=DataW.trod_string Tryz.underlying9 g9
    simp only [List.cons.injEq,and_true] at e0 e1 e2 e3 e4 e5 e7 e9
    obtain ⟨e4a,e4b,e4c⟩:=e4
    obtain ⟨e5a,e5b,e5c⟩:=e5
    subst e0 e1 e2 e3 e4a e4b e4c e5a e5b e5c e7 e9
    exact ⟨⟨z0,z1,z2,s3,r4,b4,ws4,r5,ws5,hs5,t6,b7,t8,s9⟩,⟨c6,c8,c9,.slice a6 n6 p6,.slice a8 n8 p8⟩,rfl,⟨hw4,hw5,hh5,ht6,ht8⟩,⟨hl4,hl5,hm5,hl6,hl8,hz4,hz5,hz6,hz8,f3,f9,f0,f1,f2,f4,f4',f5⟩⟩
end
end Go.Proofs.YtohachldbpejpaaGreatDoor

namespace Go.Proofs.YtohachldbpejpaaGreatDoor
open Go.RowKit Go.ChangeShapes Go.WideShapes
set_option linter.unusedVariables false
theorem wf_int {x:Int} (h:(Lit.int .i64 x).wf=true):-9223372036854775808<=x/\x<=9223372036854775807:=by
  simp [Lit.wf,IntKind.min,IntKind.max,IntKind.signed,IntKind.bits] at h
  omega
theorem trS_of {l:List Bk} (h:∀ q ∈ l,FitK q):∀ b ∈ l,-9223372036854775808<=b.tr/\b.tr<=9223372036854775807:=fun b hb=>wf_int (h b hb).wf.2.2.2.2.2
section
variable {H:Type} {enc:TypeId × Value->H} {w:World} {base:Nat} {spare:Nat->Bool} {held:Bool}
theorem open_blockS {fuel:Nat} {a:Option Addr} {len cap:Nat} {x:DataW H × List MemPlace} (h:DataW.trod enc Tryz.prog w base spare held fuel 65 [.slice a len cap]=some x) :
    ∃ l:List Bk,len=l.length/\RdKs w (.slice a len cap) l/\l.length<=maxLen/\∀ q ∈ l,FitK q:=by
  rcases Deep.open_slice Tryz.underlying65 h with ⟨hcs,_⟩ | ⟨ad,len',cap',m,n,D,Pl,hcs,hb,hl,hm,hmm,hx,hel⟩
  · simp at hcs
    obtain ⟨rfl,rfl,rfl⟩:=hcs
    exact ⟨[],rfl,.inl ⟨_,_,rfl,rfl,fun _=>rfl⟩,by simp,by simp⟩
  · simp at hcs
    obtain ⟨rfl,rfl,rfl⟩:=hcs
    have hlm:len<=m:=by rw [hmm];split <;> omega
    by_cases h0:len=0
    · subst h0;exact ⟨[],rfl,.inl ⟨_,_,rfl,rfl,fun h=>by cases h⟩,by simp,by simp⟩
    · obtain ⟨b,off,spot⟩:=ad
      rw [show Tryz.prog.cellsOf 71=14 from by kernel_rfl] at hel
      have each:∀ i,i < m->∃ q:Bk × Bv,w.cells? base ((⟨b,off,spot⟩:Addr).add (i * 14)) 14=some (bkP q)/\RdK w q.1 q.2/\FitK q.1:=fun i hi=>by
        obtain ⟨cs',h1,h2⟩:=hel i hi
        obtain ⟨qa,lv,rfl,k1,k2⟩:=open_block h2
        exact ⟨(qa,lv),h1,k1,k2⟩
      obtain ⟨q0,-⟩:=each 0 (by omega)
      haveI:Inhabited (Bk × Bv):=⟨q0⟩
      obtain ⟨q,hq⟩:=Deep.choose_lt each
      have c0:∀ i,i < m->∀ j,j < 14->w.cell? (((⟨b,off,spot⟩:Addr).add (i * 14)).add j)=(bkP (q i))[j]?:=fun i hi=>(World.cells?_some (hq i hi).1).2.2
      have hc0:=c0 0 (by omega) 0 (by omega)
      have hspot:spot=none:=by simpa [Addr.add] using World.cell?_spot hc0
      subst hspot
      have hlen:((List.range len).map (fun i=>(q i).1)).length=len:=by simp
      refine ⟨(List.range len).map (fun i=>(q i).1),hlen.symm,.inr ⟨b,off,cap,?_,by rw [hlen],by omega,hm,?_,?_⟩,by omega,?_⟩
      · intro e;rw [e] at hlen;simp at hlen;omega
      · have:=World.block_lt_of_cell? w _ hc0;simpa [Addr.add] using this
      · intro i hi
        rw [hlen] at hi
        refine ⟨(q i).2,?_,by simpa using (hq i (by omega)).2.1⟩
        intro j hj
        have:=c0 i (by omega) j hj
        rw [add_plainC,add_plainC] at this
        simpa [bkP] using this
      · intro z hz
        obtain ⟨i,hi,rfl⟩:=List.mem_map.1 hz
        exact (hq i (by have:=List.mem_range.1 hi;omega)).2.2
end
end Go.Proofs.YtohachldbpejpaaGreatDoor

namespace Go.Proofs.YtohachldbpejpaaGreatDoor
open Go.RowKit Go.ChangeShapes Go.WideShapes
set_option linter.unusedVariables false
section
variable {H:Type} {enc:TypeId × Value->H} {w:World} {base:Nat} {spare:Nat->Bool} {held:Bool}
theorem open_txS {fuel:Nat} {a:Option Addr} {len cap:Nat} {x:DataW H × List MemPlace} (h:DataW.trod enc Tryz.prog w base spare held fuel 68 [.slice a len cap]=some x) :
    ∃ l:List Tx5,len=l.length/\RdT w (.slice a len cap) l/\l.length<=maxLen/\∀ q ∈ l,q.2.1.size<=maxLen/\q.2.2.1.size<=maxLen:=by
  rcases Deep.open_slice Tryz.underlying68 h with ⟨hcs,_⟩ | ⟨ad,len',cap',m,n,D,Pl,hcs,hb,hl,hm,hmm,hx,hel⟩
  · simp at hcs
    obtain ⟨rfl,rfl,rfl⟩:=hcs
    exact ⟨[],rfl,.inl ⟨_,_,rfl,rfl,fun _=>rfl⟩,by simp,by simp⟩
  · simp at hcs
    obtain ⟨rfl,rfl,rfl⟩:=hcs
    have hlm:len<=m:=by rw [hmm];split <;> omega
    by_cases h0:len=0
    · subst h0;exact ⟨[],rfl,.inl ⟨_,_,rfl,rfl,fun h=>by cases h⟩,by simp,by simp⟩
    · obtain ⟨b,off,spot⟩:=ad
      rw [show Tryz.prog.cellsOf 151=5 from by kernel_rfl] at hel
      have each:∀ i,i < m->∃ q:Tx5,w.cells? base ((⟨b,off,spot⟩:Addr).add (i * 5)) 5=some (txC q)/\q.2.1.size<=maxLen/\q.2.2.1.size<=maxLen:=fun i hi=>by
        obtain ⟨cs',h1,h2⟩:=hel i hi
        obtain ⟨q,rfl,k1,k2,-⟩:=open_tx h2
        exact ⟨q,h1,k1,k2⟩
      obtain ⟨q,hq⟩:=Deep.choose_lt each
      have c0:∀ i,i < m->∀ j,j < 5->w.cell? (((⟨b,off,spot⟩:Addr).add (i * 5)).add j)=(txC (q i))[j]?:=fun i hi=>(World.cells?_some (hq i hi).1).2.2
      have hc0:=c0 0 (by omega) 0 (by omega)
      have hspot:spot=none:=by simpa [Addr.add] using World.cell?_spot hc0
      subst hspot
      have hlen:((List.range len).map q).length=len:=by simp
      refine ⟨(List.range len).map q,hlen.symm,.inr ⟨b,off,cap,?_,by rw [hlen],by omega,hm,?_,?_⟩,by omega,?_⟩
      · intro e;rw [e] at hlen;simp at hlen;omega
      · have:=World.block_lt_of_cell? w _ hc0;simpa [Addr.add] using this
      · intro i hi
        rw [hlen] at hi
        have cc:∀ j,j < 5->w.cell? ⟨b,off+i * 5+j,none⟩=(txC (q i))[j]?:=fun j hj=>by
          have:=c0 i (by omega) j hj
          rwa [add_plain',add_plain'] at this
        simp only [List.getElem_map,List.getElem_range]
        exact ⟨cc 0 (by omega),cc 1 (by omega),cc 2 (by omega),cc 3 (by omega),cc 4 (by omega)⟩
      · intro z hz
        obtain ⟨i,hi,rfl⟩:=List.mem_map.1 hz
        exact (hq i (by have:=List.mem_range.1 hi;omega)).2
end
end Go.Proofs.YtohachldbpejpaaGreatDoor

namespace Go.Proofs.YtohachldbpejpaaGreatDoor
open Go.RowKit
set_option linter.unusedVariables false
set_option maxRecDepth 20000 in
theorem eqVal_any (p q:Vl) (w:World):Calls Tryz.prog 98 #[.agg #[.string p.1,.int .i64 p.2],.agg #[.string q.1,.int .i64 q.2]] w fun e w'=>e=.returned (.bool (decide (p=q)))/\Below w.heap.size w w':=by
  obtain ⟨a,b⟩:=p
  obtain ⟨c,d⟩:=q
  have hB:=hide (((Below.refl _ w).alloc (Nat.le_refl _) (.cells #[.string a,.int .i64 b] 124)).alloc (by simp) (.cells #[.string c,.int .i64 d] 124))
  by_cases h1:a=c
  · subst h1
    by_cases h2:b=d
    · subst h2
      go_enter Tryz.func98,Tryz.ntmps98
      go_wp2
      go_ret
      exact ⟨by simp,hB.out⟩
    · have Hd:Hid (decide ((a,b)=(a,d))=false):=hide (by rw [decide_eq_false];intro e;injection e with _ e;exact h2 e)
      have hq:(b != d)=true:=by rw [bne_iff_ne];exact h2
      clear h2
      go_enter Tryz.func98,Tryz.ntmps98
      go_wp2
      go_ret
      exact ⟨ret_bool Hd.out.symm,hB.out⟩
  · have Hd:Hid (decide ((a,b)=(c,d))=false):=hide (by rw [decide_eq_false];intro e;injection e with e _;exact h1 e)
    have hq:=bytes_ne h1
    clear h1
    go_enter Tryz.func98,Tryz.ntmps98
    go_wp2
    go_ret
    exact ⟨ret_bool Hd.out.symm,hB.out⟩
set_option maxRecDepth 20000 in
set_option maxHeartbeats 1000000 in
theorem eqValS_any (v1 v2:Value) (l1 l2:List Vl) (w:World) (hr1:RdV w v1 l1) (hr2:RdV w v2 l2) (hl1:l1.length<=4000000) (hl2:l2.length<=4000000) :
    Calls Tryz.prog 39 #[v1,v2] w fun e w'=>e=.returned (.bool (decide (l1=l2)))/\Below w.heap.size w w':=by
  by_cases hne:l1.length=l2.length
  · rcases hr1 with ⟨a,cap,rfl,rfl,-⟩ | ⟨b,off,cap,h0,rfl,h1,h2,h3,h4⟩
    · have e2:l2=[]:=List.length_eq_zero_iff.1 (by simpa using hne.symm)
      subst e2
      obtain ⟨a2,cap2,rfl⟩:=hr2.shape
      clear hr2
      go_enter Tryz.func39,Tryz.ntmps39
      go_wp2
      refine wp_loop_rounds 1 ?_
      rw [rounds_succ]
      go_wp2
      go_ret
      exact ⟨rfl,Below.refl _ _⟩
    · rcases hr2 with ⟨a2,cap2,rfl,rfl,-⟩ | ⟨b2,off2,cap2,g0,rfl,g1,g2,g3,g4⟩
      · exact absurd (List.length_eq_zero_iff.1 (by simpa using hne)) h0
      · have Hne:=hide hne
        have hlen:((l1.length:Int) != (l2.length:Int))=false:=by rw [hne];simp
        have hle:l1.length<=l2.length:=by omega
        have hge:l2.length<=l1.length:=by omega
        have H4:=hide h4
        have G4:=hide g4
        clear hne h4 g4
        go_enter Tryz.func39,Tryz.ntmps39
        go_wp2
        go_loopw [5] (fun i wr=>∃ k:Nat,k<=l1.length/\i=.int .i64 k/\l1.take k=l2.take k/\Below w.heap.size w wr) (fun i _=>l1.length - (intOf i).toNat)
        case atStart=>exact ⟨0,Nat.zero_le _,rfl,rfl,Below.refl _ _⟩
        case round =>
          obtain ⟨k,hk,rfl,ht,hs⟩:=hrel
          have Ht:=hide ht
          clear ht
          by_cases hlt:k < l1.length
          · have hlt2:k < l2.length:=by omega
            obtain ⟨d1,d2⟩:=H4.out k hlt
            obtain ⟨e1,e2⟩:=G4.out k hlt2
            have hc1:wr.drew.cell? ⟨b,off+k * 2,none⟩=some (.string l1[k].1):=(hs.cell (p:=⟨b,off+k * 2,none⟩) h3).trans d1
            have hc2:wr.drew.cell? ⟨b,off+k * 2+1,none⟩=some (.int .i64 l1[k].2):=(hs.cell (p:=⟨b,off+k * 2+1,none⟩) h3).trans d2
            have hd1:wr.drew.cell? ⟨b2,off2+k * 2,none⟩=some (.string l2[k].1):=(hs.cell (p:=⟨b2,off2+k * 2,none⟩) g3).trans e1
            have hd2:wr.drew.cell? ⟨b2,off2+k * 2+1,none⟩=some (.int .i64 l2[k].2):=(hs.cell (p:=⟨b2,off2+k * 2+1,none⟩) g3).trans e2
            have hli:(k:Int) < (l1.length:Int):=by omega
            have hli2:(k:Int) < (l2.length:Int):=by omega
            have HE:=hide (eqVal_any l1[k] l2[k] wr.drew)
            have Hnx:Hid (l1[k]=l2[k]->l1.take (k+1)=l2.take (k+1)):=hide (fun he=>take_eq_snoc hlt hlt2 Ht.out he)
            have Hno:Hid (l1[k] ≠ l2[k]->decide (l1=l2)=false):=hide (fun he=>by rw [decide_eq_false];intro e;subst e;exact he rfl)
            clear d1 d2 e1 e2
            generalize hp:l1[k]=p at hc1 hc2 HE Hnx Hno
            generalize hq:l2[k]=q at hd1 hd2 HE Hnx Hno
            clear hp hq
            by_cases he:p=q
            · rw [decide_eq_true he] at HE
              have Hnx:=hide (Hnx.out he)
              clear he Hno
              go_wp2
              go_region_held_law (fun w'=>w'.cell? ⟨b,off+k * 2,none⟩=some (.string p.1)/\w'.cell? ⟨b,off+k * 2+1,none⟩=some (.int .i64 p.2)/\w'.cell? ⟨b2,off2+k * 2,none⟩=some (.string q.1)/\w'.cell? ⟨b2,off2+k * 2+1,none⟩=some (.int .i64 q.2)) (first | exact ⟨hc1,hc2,hd1,hd2⟩ | exact hS2) ((go_at_call 98;refine HE.out.mono ?_;rintro e w2 ⟨rfl,hb2⟩;have hz:=hs.size;have hS2:w2.cell? ⟨b,off+k * 2,none⟩=some (.string p.1)/\w2.cell? ⟨b,off+k * 2+1,none⟩=some (.int .i64 p.2)/\w2.cell? ⟨b2,off2+k * 2,none⟩=some (.string q.1)/\w2.cell? ⟨b2,off2+k * 2+1,none⟩=some (.int .i64 q.2):=⟨(hb2.cell (p:=⟨b,off+k * 2,none⟩) (Nat.lt_of_lt_of_le h3 hz)).trans hc1,(hb2.cell (p:=⟨b,off+k * 2+1,none⟩) (Nat.lt_of_lt_of_le h3 hz)).trans hc2,(hb2.cell (p:=⟨b2,off2+k * 2,none⟩) (Nat.lt_of_lt_of_le g3 hz)).trans hd1,(hb2.cell (p:=⟨b2,off2+k * 2+1,none⟩) (Nat.lt_of_lt_of_le g3 hz)).trans hd2⟩))
              go_wp2
              go_roundw
              case rel=>exact ⟨k+1,by omega,by go_num,Hnx.out,hs.drew.trans (hb2.mono hs.size)⟩
              case measure=>simp [intOf];omega
            · rw [decide_eq_false he] at HE
              have Hno:=hide (Hno.out he)
              clear he Hnx
              go_wp2
              go_region_held_law (fun w'=>w'.cell? ⟨b,off+k * 2,none⟩=some (.string p.1)/\w'.cell? ⟨b,off+k * 2+1,none⟩=some (.int .i64 p.2)/\w'.cell? ⟨b2,off2+k * 2,none⟩=some (.string q.1)/\w'.cell? ⟨b2,off2+k * 2+1,none⟩=some (.int .i64 q.2)) (first | exact ⟨hc1,hc2,hd1,hd2⟩ | exact hS2) ((go_at_call 98;refine HE.out.mono ?_;rintro e w2 ⟨rfl,hb2⟩;have hz:=hs.size;have hS2:w2.cell? ⟨b,off+k * 2,none⟩=some (.string p.1)/\w2.cell? ⟨b,off+k * 2+1,none⟩=some (.int .i64 p.2)/\w2.cell? ⟨b2,off2+k * 2,none⟩=some (.string q.1)/\w2.cell? ⟨b2,off2+k * 2+1,none⟩=some (.int .i64 q.2):=⟨(hb2.cell (p:=⟨b,off+k * 2,none⟩) (Nat.lt_of_lt_of_le h3 hz)).trans hc1,(hb2.cell (p:=⟨b,off+k * 2+1,none⟩) (Nat.lt_of_lt_of_le h3 hz)).trans hc2,(hb2.cell (p:=⟨b2,off2+k * 2,none⟩) (Nat.lt_of_lt_of_le g3 hz)).trans hd1,(hb2.cell (p:=⟨b2,off2+k * 2+1,none⟩) (Nat.lt_of_lt_of_le g3 hz)).trans hd2⟩))
              go_wp2
              go_ret
              exact ⟨ret_bool Hno.out.symm,hs.drew.trans (hb2.mono hs.size)⟩
          · have hf:Hid (decide (l1=l2)=true):=hide (by
              rw [decide_eq_true]
              have:=Ht.out
              rwa [List.take_of_length_le (by omega),List.take_of_length_le (by omega)] at this)
            go_wp2
            go_ret
            exact ⟨ret_bool hf.out.symm,hs⟩
  · obtain ⟨a,cap,rfl⟩:=hr1.shape
    obtain ⟨a2,cap2,rfl⟩:=hr2.shape
    clear hr1 hr2
    have hlen:((l1.length:Int) != (l2.length:Int))=true:=by rw [bne_iff_ne];omega
    have hf:Hid (decide (l1=l2)=false):=hide (by rw [decide_eq_false];intro e;subst e;exact hne rfl)
    clear hne
    go_enter Tryz.func39,Tryz.ntmps39
    go_wp2
    go_ret
    exact ⟨ret_bool hf.out.symm,Below.refl _ _⟩
def totV (l:List Vl):Nat:=(l.map (·.1.size)).sum
theorem totV_snoc (l:List Vl) (k:Nat) (h:k < l.length):totV (l.take (k+1))=totV (l.take k)+l[k].1.size:=by
  unfold totV
  rw [List.take_succ_eq_append_getElem h,List.map_append,List.sum_append]
  simp only [List.map_cons,List.map_nil,List.sum_cons,List.sum_nil,Nat.add_zero]
set_option maxRecDepth 20000 in
theorem szVal_fit (p:Vl) (r:Nat) (w:World) (h:p.1.size<=r) (hr:r<=100000000) :
    Calls Tryz.prog 142 #[.agg #[.string p.1,.int .i64 p.2],.int .i64 (r:Int)] w fun e w'=>e=.returned (.int .i64 ((r - p.1.size:Nat):Int))/\Below w.heap.size w w':=by
  obtain ⟨a,b⟩:=p
  simp only at h ⊢
  have HB:=hide ((Below.refl _ w).alloc (Nat.le_refl _) (.cells #[.string a,.int .i64 b] 213))
  have w1:IntKind.i64.wrap ((r:Int) - (a.size:Int))=((r - a.size:Nat):Int):=by rw [IntKind.wrap_i64];omega
  have h0:¬ ((r:Int) - (a.size:Int)) < 0:=by omega
  have h1:¬ (((r - a.size:Nat):Int)) < 0:=by omega
  generalize r - a.size=q at w1 h1 ⊢
  go_enter Tryz.func142,Tryz.ntmps142
  go_wp2
  go_ret
  exact ⟨rfl,HB.out⟩
set_option maxRecDepth 20000 in
theorem szVal_not (p:Vl) (r:Nat) (w:World) (h:¬ p.1.size<=r) (hr:r<=100000000) (hs:p.1.size<=9223372036854775807) :
    Calls Tryz.prog 142 #[.agg #[.string p.1,.int .i64 p.2],.int .i64 (r:Int)] w fun e w'=>e=.returned (.int .i64 (-1))/\Below w.heap.size w w':=by
  obtain ⟨a,b⟩:=p
  simp only at h hs ⊢
  have HB:=hide ((Below.refl _ w).alloc (Nat.le_refl _) (.cells #[.string a,.int .i64 b] 213))
  have w1:IntKind.i64.wrap ((r:Int) - (a.size:Int))=(r:Int) - (a.size:Int):=by rw [IntKind.wrap_i64];omega
  have h0:((r:Int) - (a.size:Int)) < 0:=by omega
  go_enter Tryz.func142,Tryz.ntmps142
  go_wp2
  go_ret
  exact ⟨rfl,HB.out⟩
end Go.Proofs.YtohachldbpejpaaGreatDoor
