/- How large blocks are, as the laws ask. -/
import Derived.Test.YtaidhenkijjcfaaGreatZqTxOpen
import Derived.Test.YtaidhenkijjcfaaGreatZqBkPuts
set_option maxRecDepth 20000
set_option maxHeartbeats 4000000
namespace Go.Proofs.YtaidhenkijjcfaaGreat
open Go.RowKit Go.ChangeShapes Go.WideShapes
set_option linter.unusedVariables false
structure FitK (b:Bk):Prop where
  q:b.qw.length<=maxLen
  w:b.tw.length<=maxLen
  h:b.th.length<=maxLen
  t:b.ts.length<=maxLen
  n:b.nx.length<=maxLen
  qs:∀ s ∈ b.qw,s.size<=maxLen
  ws:∀ s ∈ b.tw,s.size<=maxLen
  ts:∀ t ∈ b.ts,t.2.1.size<=maxLen/\t.2.2.1.size<=maxLen
  ns:∀ p ∈ b.nx,p.1.size<=maxLen
  ms:b.md.size<=maxLen
  rs:b.rt.size<=maxLen
  wf:(Lit.int .i64 b.id).wf=true/\(Lit.int .i64 b.ep).wf=true/\(Lit.int .i64 b.rd).wf=true/\(Lit.int .i64 b.qr).wf=true/\(Lit.int .i64 b.qb).wf=true/\(Lit.int .i64 b.tr).wf=true
section
variable {H:Type} {enc:TypeId × Value->H} {w:World} {base:Nat} {spare:Nat->Bool} {held:Bool}
theorem open_txS9 {fuel:Nat} {a:Option Addr} {len cap:Nat} {x:DataW H × List MemPlace} (h:DataW.trod enc Tryz.prog w base spare held fuel 57 [.slice a len cap]=some x) :
    ∃ l:List Tx5,len=l.length/\RdT w (.slice a len cap) l/\l.length<=maxLen/\∀ q ∈ l,q.2.1.size<=maxLen/\q.2.2.1.size<=maxLen:=by
  rcases Deep.open_slice Tryz.underlying57 h with ⟨hcs,_⟩ | ⟨ad,len',cap',m,n,D,Pl,hcs,hb,hl,hm,hmm,hx,hel⟩
  · simp at hcs
    obtain ⟨rfl,rfl,rfl⟩:=hcs
    exact ⟨[],rfl,.inl ⟨_,_,rfl,rfl,fun _=>rfl⟩,by simp,by simp⟩
  · simp at hcs
    obtain ⟨rfl,rfl,rfl⟩:=hcs
    have hlm:len<=m:=by rw [hmm];split <;> omega
    by_cases h0:len=0
    · subst h0;exact ⟨[],rfl,.inl ⟨_,_,rfl,rfl,fun h=>by cases h⟩,by simp,by simp⟩
    · obtain ⟨b,off,spot⟩:=ad
      rw [show Tryz.prog.cellsOf 170=5 from by kernel_rfl] at hel
      have each:∀ i,i < m->∃ q:Tx5,w.cells? base ((⟨b,off,spot⟩:Addr).add (i * 5)) 5=some (txC q)/\q.2.1.size<=maxLen/\q.2.2.1.size<=maxLen:=fun i hi=>by
        obtain ⟨cs',h1,h2⟩:=hel i hi
        obtain ⟨q,rfl,k1,k2,-⟩:=open_tx h2
        exact ⟨q,h1,k1,k2⟩
      obtain ⟨q,hq⟩:=Deep.choose_lt each
      have c0:∀ i,i < m->∀ j,j < 5->w.cell? (((⟨b,off,spot⟩:Addr).add (i * 5)).add j)=(txC (q i))[j]?:=fun i hi=>(World.cells?_some (hq i hi).1).2.2
      have hc0:=c0 0 (by omega) 0 (by omega)
      have hspot:spot=none:=by simpa [Addr.add] using World.cell?_spot hc0
      subst hspot
      have hlen:((List.range len).map q).length=len:=by simp
      refine ⟨(List.range len).map q,hlen.symm,.inr ⟨b,off,cap,?_,by rw [hlen],by omega,hm,?_,?_⟩,by omega,?_⟩
      · intro e;rw [e] at hlen;simp at hlen;omega
      · have:=World.block_lt_of_cell? w _ hc0;simpa [Addr.add] using this
      · intro i hi
        rw [hlen] at hi
        have cc:∀ j,j < 5->w.cell? ⟨b,off+i * 5+j,none⟩=(txC (q i))[j]?:=fun j hj=>by
          have:=c0 i (by omega) j hj
          rwa [add_plainC,add_plainC] at this
        simp only [List.getElem_map,List.getElem_range]
        exact ⟨by have:=cc 0 (by omega);simpa [txC] using this,by have:=cc 1 (by omega);simpa [txC] using this,by have:=cc 2 (by omega);simpa [txC] using this,by have:=cc 3 (by omega);simpa [txC] using this,by have:=cc 4 (by omega);simpa [txC] using this⟩
      · intro z hz
        obtain ⟨i,hi,rfl⟩:=List.mem_map.1 hz
        exact (hq i (by have:=List.mem_range.1 hi;omega)).2
theorem open_qc9 {fuel:Nat} {cs:List Value} {x:DataW H × List MemPlace} (h:DataW.trod enc Tryz.prog w base spare held fuel 28 cs=some x) :
    ∃ (r b:Int) (vw:Value) (ws:List ByteArray),cs=[.int .i64 r,.int .i64 b,vw]/\RdS w vw ws/\ws.length<=maxLen/\(∀ s ∈ ws,s.size<=maxLen)/\(Lit.int .i64 r).wf=true/\(Lit.int .i64 b).wf=true:=by
  obtain ⟨xs,n,_,_,hlen,hxl,hf⟩:=DataW.trod_struct Tryz.underlying28 h
  have h5:cs.length=3:=hlen.trans (by kernel_rfl)
  have hx5:xs.length=3:=hxl
  match cs,h5,xs,hx5 with
  | [c0,c1,c2],_,[y0,y1,y2],_ =>
    have ki:Tryz.prog.cellsOf 3=1:=by kernel_rfl
    have ks:Tryz.prog.cellsOf 26=1:=by kernel_rfl
    have g0:DataW.trod enc Tryz.prog w base spare held n 3 [c0]=some y0:=by
      have e:=hf 0 _ rfl
      change DataW.trod enc Tryz.prog w base spare held n 3 (List.take (Tryz.prog.cellsOf 3) [c0,c1,c2])=some y0 at e
      rw [ki] at e
      exact e
    have g1:DataW.trod enc Tryz.prog w base spare held n 3 [c1]=some y1:=by
      have e:=hf 1 _ rfl
      change DataW.trod enc Tryz.prog w base spare held n 3 (List.take (Tryz.prog.cellsOf 3) [c1,c2])=some y1 at e
      rw [ki] at e
      exact e
    have g2:DataW.trod enc Tryz.prog w base spare held n 26 [c2]=some y2:=by
      have e:=hf 2 _ rfl
      change DataW.trod enc Tryz.prog w base spare held n 26 (List.take (Tryz.prog.cellsOf 26) [c2])=some y2 at e
      rw [ks] at e
      exact e
    obtain ⟨z0,e0,_,f0⟩:=DataW.trod_int Tryz.underlying3 g0
    obtain ⟨z1,e1,_,f1⟩:=DataW.trod_int Tryz.underlying3 g1
    obtain ⟨v2,ws,e2,hw,hwl,hwz⟩:=open_strs g2
    simp only [List.cons.injEq,and_true] at e0 e1 e2
    subst e0 e1 e2
    exact ⟨z0,z1,c2,ws,rfl,hw,hwl,hwz,f0,f1⟩
theorem open_tc9 {fuel:Nat} {cs:List Value} {x:DataW H × List MemPlace} (h:DataW.trod enc Tryz.prog w base spare held fuel 54 cs=some x) :
    ∃ (r:Int) (vw vh:Value) (ws:List ByteArray) (hs:List Int),cs=[.int .i64 r,vw,vh]/\RdS w vw ws/\RdI w vh hs/\ws.length<=maxLen/\(∀ s ∈ ws,s.size<=maxLen)/\hs.length<=maxLen/\(Lit.int .i64 r).wf=true:=by
  obtain ⟨xs,n,_,_,hlen,hxl,hf⟩:=DataW.trod_struct Tryz.underlying54 h
  have h5:cs.length=3:=hlen.trans (by kernel_rfl)
  have hx5:xs.length=3:=hxl
  match cs,h5,xs,hx5 with
  | [c0,c1,c2],_,[y0,y1,y2],_ =>
    have ki:Tryz.prog.cellsOf 3=1:=by kernel_rfl
    have ks:Tryz.prog.cellsOf 26=1:=by kernel_rfl
    have kh:Tryz.prog.cellsOf 52=1:=by kernel_rfl
    have g0:DataW.trod enc Tryz.prog w base spare held n 3 [c0]=some y0:=by
      have e:=hf 0 _ rfl
      change DataW.trod enc Tryz.prog w base spare held n 3 (List.take (Tryz.prog.cellsOf 3) [c0,c1,c2])=some y0 at e
      rw [ki] at e
      exact e
    have g1:DataW.trod enc Tryz.prog w base spare held n 26 [c1]=some y1:=by
      have e:=hf 1 _ rfl
      change DataW.trod enc Tryz.prog w base spare held n 26 (List.take (Tryz.prog.cellsOf 26) [c1,c2])=some y1 at e
      rw [ks] at e
      exact e
    have g2:DataW.trod enc Tryz.prog w base spare held n 52 [c2]=some y2:=by
      have e:=hf 2 _ rfl
      change DataW.trod enc Tryz.prog w base spare held n 52 (List.take (Tryz.prog.cellsOf 52) [c2])=some y2 at e
      rw [kh] at e
      exact e
    obtain ⟨z0,e0,_,f0⟩:=DataW.trod_int Tryz.underlying3 g0
    obtain ⟨v1,ws,e1,hw,hwl,hwz⟩:=open_strs g1
    obtain ⟨v2,hs,e2,hh,hhl⟩:=open_intsC g2
    simp only [List.cons.injEq,and_true] at e0 e1 e2
    subst e0 e1 e2
    exact ⟨z0,c1,c2,ws,hs,rfl,hw,hh,hwl,hwz,hhl,f0⟩
theorem open_block {fuel:Nat} {cs:List Value} {x:DataW H × List MemPlace} (h:DataW.trod enc Tryz.prog w base spare held fuel 143 cs=some x) :
    ∃ (b:Bk) (v:Bv),cs=bkC b v/\RdK w b v/\FitK b:=by
  obtain ⟨xs,n,_,_,hlen,hxl,hf⟩:=DataW.trod_struct Tryz.underlying143 h
  have h5:cs.length=14:=hlen.trans (by kernel_rfl)
  have hx5:xs.length=10:=hxl
  match cs,h5,xs,hx5 with
  | [c0,c1,c2,c3,c4,c5,c6,c7,c8,c9,c10,c11,c12,c13],_,[y0,y1,y2,y3,y4,y5,y6,y7,y8,y9],_ =>
    have k_int:Tryz.prog.cellsOf 3=1:=by kernel_rfl
    have k_string:Tryz.prog.cellsOf 9=1:=by kernel_rfl
    have k_laws_Qc:Tryz.prog.cellsOf 28=3:=by kernel_rfl
    have k_laws_Tc:Tryz.prog.cellsOf 54=3:=by kernel_rfl
    have k_Slaws_Tx:Tryz.prog.cellsOf 57=1:=by kernel_rfl
    have k_bool:Tryz.prog.cellsOf 4=1:=by kernel_rfl
    have k_Slaws_Val:Tryz.prog.cellsOf 22=1:=by kernel_rfl
    have g0:DataW.trod enc Tryz.prog w base spare held n 3 [c0]=some y0:=by
      have e:=hf 0 _ rfl
      change DataW.trod enc Tryz.prog w base spare held n 3 (List.take (Tryz.prog.cellsOf 3) [c0,c1,c2,c3,c4,c5,c6,c7,c8,c9,c10,c11,c12,c13])=some y0 at e
      rw [k_int] at e
      exact e
    have g1:DataW.trod enc Tryz.prog w base spare held n 3 [c1]=some y1:=by
      have e:=hf 1 _ rfl
      change DataW.trod enc Tryz.prog w base spare held n 3 (List.take (Tryz.prog.cellsOf 3) [c1,c2,c3,c4,c5,c6,c7,c8,c9,c10,c11,c12,c13])=some y1 at e
      rw [k_int] at e
      exact e
    have g2:DataW.trod enc Tryz.prog w base spare held n 3 [c2]=some y2:=by
      have e:=hf 2 _ rfl
      change DataW.trod enc Tryz.prog w base spare held n 3 (List.take (Tryz.prog.cellsOf 3) [c2,c3,c4,c5,c6,c7,c8,c9,c10,c11,c12,c13])=some y2 at e
      rw [k_int] at e
      exact e
    have g3:DataW.trod enc Tryz.prog w base spare held n 9 [c3]=some y3:=by
      have e:=hf 3 _ rfl
      change DataW.trod enc Tryz.prog w base spare held n 9 (List.take (Tryz.prog.cellsOf 9) [c3,c4,c5,c6,c7,c8,c9,c10,c11,c12,c13])=some y3 at e
      rw [k_string] at e
      exact e
    have g4:DataW.trod enc Tryz.prog w base spare held n 28 [c4,c5,c6]=some y4:=by
      have e:=hf 4 _ rfl
      change DataW.trod enc Tryz.prog w base spare held n 28 (List.take (Tryz.prog.cellsOf 28) [c4,c5,c6,c7,c8,c9,c10,c11,c12,c13])=some y4 at e
      rw [k_laws_Qc] at e
      exact e
    have g5:DataW.trod enc Tryz.prog w base spare held n 54 [c7,c8,c9]=some y5:=by
      have e:=hf 5 _ rfl
      change DataW.trod enc Tryz.prog w base spare held n 54 (List.take (Tryz.prog.cellsOf 54) [c7,c8,c9,c10,c11,c12,c13])=some y5 at e
      rw [k_laws_Tc] at e
      exact e
    have g6:DataW.trod enc Tryz.prog w base spare held n 57 [c10]=some y6:=by
      have e:=hf 6 _ rfl
      change DataW.trod enc Tryz.prog w base spare held n 57 (List.take (Tryz.prog.cellsOf 57) [c10,c11,c12,c13])=some y6 at e
      rw [k_Slaws_Tx] at e
      exact e
    have g7:DataW.trod enc Tryz.prog w base spare held n 4 [c11]=some y7:=by
      have e:=hf 7 _ rfl
      change DataW.trod enc Tryz.prog w base spare held n 4 (List.take (Tryz.prog.cellsOf 4) [c11,c12,c13])=some y7 at e
      rw [k_bool] at e
      exact e
    have g8:DataW.trod enc Tryz.prog w base spare held n 22 [c12]=some y8:=by
      have e:=hf 8 _ rfl
      change DataW.trod enc Tryz.prog w base spare held n 22 (List.take (Tryz.prog.cellsOf 22) [c12,c13])=some y8 at e
      rw [k_Slaws_Val] at e
      exact e
    have g9:DataW.trod enc Tryz.prog w base spare held n 9 [c13]=some y9:=by
      have e:=hf 9 _ rfl
      change DataW.trod enc Tryz.prog w base spare held n 9 (List.take (Tryz.prog.cellsOf 9) [c13])=some y9 at e
      rw [k_string] at e
      exact e
    obtain ⟨z0,e0,_,f0⟩:=DataW.trod_int Tryz.underlying3 g0
    obtain ⟨z1,e1,_,f1⟩:=DataW.trod_int Tryz.underlying3 g1
    obtain ⟨z2,e2,_,f2⟩:=DataW.trod_int Tryz.underlying3 g2
    obtain ⟨s3,e3,_,f3⟩:=DataW.trod_string Tryz.underlying9 g3
    obtain ⟨r4,b4,v4,ws4,e4,hw4,hl4,hz4,f4,f4'⟩:=open_qc9 g4
    obtain ⟨r5,v5,u5,ws5,hs5,e5,hw5,hh5,hl5,hz5,hm5,f5⟩:=open_tc9 g5
    obtain ⟨a6,n6,p6,rfl⟩:∃ a len cap,c10=.slice a len cap:=by
      rcases Deep.open_slice Tryz.underlying57 g6 with ⟨hcs,_⟩ | ⟨ad,len',cap',m,n,D,Pl,hcs,_⟩ <;> (simp only [List.cons.injEq,and_true] at hcs;exact ⟨_,_,_,hcs⟩)
    obtain ⟨t6,en6,ht6,hl6,hz6⟩:=open_txS9 g6
    obtain ⟨b7,e7,_⟩:=DataW.trod_bool Tryz.underlying4 g7
    obtain ⟨a8,n8,p8,rfl⟩:∃ a len cap,c12=.slice a len cap:=by
      rcases Deep.open_slice Tryz.underlying22 g8 with ⟨hcs,_⟩ | ⟨ad,len',cap',m,n,D,Pl,hcs,_⟩ <;> (simp only [List.cons.injEq,and_true] at hcs;exact ⟨_,_,_,hcs⟩)
    obtain ⟨t8,en8,ht8,hl8,hz8⟩:=open_vlS g8
    obtain ⟨s9,e9,_,f9⟩:=DataW.trod_string Tryz.underlying9 g9
    simp only [List.cons.injEq,and_true] at e0 e1 e2 e3 e4 e5 e7 e9
    obtain ⟨e4a,e4b,e4c⟩:=e4
    obtain ⟨e5a,e5b,e5c⟩:=e5
    subst e0 e1 e2 e3 e4a e4b e4c e5a e5b e5c e7 e9
    exact ⟨⟨z0,z1,z2,s3,r4,b4,ws4,r5,ws5,hs5,t6,b7,t8,s9⟩,⟨c6,c8,c9,.slice a6 n6 p6,.slice a8 n8 p8⟩,rfl,⟨hw4,hw5,hh5,ht6,ht8⟩,⟨hl4,hl5,hm5,hl6,hl8,hz4,hz5,hz6,hz8,f3,f9,f0,f1,f2,f4,f4',f5⟩⟩
end
end Go.Proofs.YtaidhenkijjcfaaGreat
namespace Go.Proofs.YtaidhenkijjcfaaGreat
open Go.RowKit
set_option linter.unusedVariables false
theorem szIntN_any (v:Value) (l:List Int) (m:Nat) (w:World) (hr:RdI w v l) (hm:m<=100000000) (hl:l.length<=9223372036854775807) :
    Calls Tryz.prog 54 #[v,.int .i64 (m:Int)] w fun e w'=>∃ r:Int,e=.returned (.int .i64 r)/\(0<=r->(l.length:Int)+r<=(m:Int))/\w'=w:=by
  obtain ⟨a,c,rfl⟩:=hr.shape
  clear hr
  have w1:IntKind.i64.wrap ((m:Int) - (l.length:Int))=(m:Int) - (l.length:Int):=by rw [IntKind.wrap_i64];omega
  by_cases h:(m:Int) - (l.length:Int) < 0
  · go_enter Tryz.func54,Tryz.ntmps54
    go_wp2
    go_ret
    exact ⟨_,rfl,fun h=>by omega,rfl⟩
  · go_enter Tryz.func54,Tryz.ntmps54
    go_wp2
    go_ret
    exact ⟨_,rfl,fun _=>by omega,rfl⟩
theorem szQcN_any (r b:Int) (vw:Value) (ws:List ByteArray) (m:Nat) (w:World) (hrw:RdS w vw ws) (hm:m<=100000000) (hlw:ws.length<=9223372036854775807) (hsw:∀ s ∈ ws,s.size<=9223372036854775807) :
    Calls Tryz.prog 32 #[qcV r b vw,.int .i64 (m:Int)] w fun en w'=>∃ q:Int,en=.returned (.int .i64 q)/\(0<=q->(ws.length:Int)+q<=(m:Int))/\Below w.heap.size w w':=by
  obtain ⟨a1,c1,rfl⟩:=hrw.shape
  simp only [qcV] at *
  obtain ⟨w1,hw1⟩:∃ w1,w.alloc (.cells #[.int .i64 r,.int .i64 b,.slice a1 ws.length c1] 28)=w1:=⟨_,rfl⟩
  have hb1:Below w.heap.size w w1:=by rw [<- hw1];exact (Below.refl _ w).alloc (Nat.le_refl _) _
  have kA:Blk w1 w.heap.size 28 [.int .i64 r,.int .i64 b,.slice a1 ws.length c1]:=by rw [<- hw1];exact Blk.new w _ _
  have HZ:=hide (szStringS_any _ ws m w1 (hrw.below hb1 (Nat.le_refl _)) hm hlw hsw)
  have Hok:Hid (0<=szR ws m->(ws.length:Int)+szR ws m<=(m:Int)):=hide (fun h=>by unfold szR at h ⊢;split at h <;> rename_i h' <;> first | (rw [if_pos h'];omega) | omega)
  have x2:=kA.cell 2
  simp only [List.getElem?_cons_zero,List.getElem?_cons_succ] at x2
  generalize szR ws m=z at HZ Hok
  clear hrw hsw
  by_cases hz:z < 0
  · clear Hok
    go_enter Tryz.func32,Tryz.ntmps32
    go_wp2_with fail
    refine HZ.out.mono ?_
    rintro en w2 ⟨rfl,hw2⟩
    subst hw2
    go_wp2
    go_ret
    exact ⟨_,rfl,fun h=>by omega,hb1⟩
  · go_enter Tryz.func32,Tryz.ntmps32
    go_wp2_with fail
    refine HZ.out.mono ?_
    rintro en w2 ⟨rfl,hw2⟩
    subst hw2
    go_wp2
    go_ret
    exact ⟨_,rfl,Hok.out,hb1⟩
theorem szTcN_any (r:Int) (vw vh:Value) (ws:List ByteArray) (hs:List Int) (m:Nat) (w:World) (hrw:RdS w vw ws) (hrh:RdI w vh hs) (hm:m<=100000000) (hlw:ws.length<=9223372036854775807) (hsw:∀ s ∈ ws,s.size<=9223372036854775807) (hlh:hs.length<=9223372036854775807) :
    Calls Tryz.prog 51 #[tcV r vw vh,.int .i64 (m:Int)] w fun en w'=>∃ q:Int,en=.returned (.int .i64 q)/\(0<=q->(ws.length:Int)+hs.length+q<=(m:Int))/\Below w.heap.size w w':=by
  obtain ⟨a1,c1,rfl⟩:=hrw.shape
  obtain ⟨a2,c2,rfl⟩:=hrh.shape
  simp only [tcV] at *
  obtain ⟨w1,hw1⟩:∃ w1,w.alloc (.cells #[.int .i64 r,.slice a1 ws.length c1,.slice a2 hs.length c2] 54)=w1:=⟨_,rfl⟩
  have hb1:Below w.heap.size w w1:=by rw [<- hw1];exact (Below.refl _ w).alloc (Nat.le_refl _) _
  have kA:Blk w1 w.heap.size 54 [.int .i64 r,.slice a1 ws.length c1,.slice a2 hs.length c2]:=by rw [<- hw1];exact Blk.new w _ _
  have HZ:=hide (szStringS_any _ ws m w1 (hrw.below hb1 (Nat.le_refl _)) hm hlw hsw)
  have Hok:Hid (0<=szR ws m->szR ws m=((m - (ws.length+tot ws):Nat):Int)/\ws.length+tot ws<=m):=hide (fun h=>by unfold szR at h ⊢;split at h <;> rename_i h' <;> first | (rw [if_pos h'];omega) | omega)
  have Hh:=hide (fun (k:Nat) hk=>szIntN_any (.slice a2 hs.length c2) hs k w1 (hrh.below hb1 (Nat.le_refl _)) hk hlh)
  have x1:=kA.cell 1
  have x2:=kA.cell 2
  simp only [List.getElem?_cons_zero,List.getElem?_cons_succ] at x1 x2
  generalize szR ws m=z at HZ Hok
  clear hrw hrh hsw
  by_cases hz:z < 0
  · clear Hok Hh
    go_enter Tryz.func51,Tryz.ntmps51
    go_wp2_with fail
    refine HZ.out.mono ?_
    rintro en w2 ⟨rfl,hw2⟩
    subst hw2
    go_wp2
    go_ret
    exact ⟨_,rfl,fun h=>by omega,hb1⟩
  · obtain ⟨hz1,hz2⟩:=Hok.out (by omega)
    obtain ⟨k,hk⟩:∃ k,m - (ws.length+tot ws)=k:=⟨_,rfl⟩
    rw [hk] at hz1
    subst hz1
    have hkm:ws.length+tot ws+k=m:=by omega
    have Hkm:=hide hkm
    have Hk:=hide (Hh.out k (by omega))
    clear Hok Hh hk hkm hz2
    go_enter Tryz.func51,Tryz.ntmps51
    go_wp2_with fail
    refine HZ.out.mono ?_
    rintro en w2 ⟨rfl,hw2⟩
    obtain rfl:w2=w1:=hw2
    go_wp2_with fail
    refine Hk.out.mono ?_
    rintro en w3 ⟨q,rfl,hq,hw3⟩
    obtain rfl:w3=w2:=hw3
    by_cases hq0:q < 0
    · clear hq
      go_wp2
      go_ret
      exact ⟨_,rfl,fun h=>by omega,hb1⟩
    · have Hq:=hide (hq (by omega))
      clear hq
      go_wp2
      go_ret
      exact ⟨_,rfl,fun _=>by have:=Hq.out;have:=Hkm.out;omega,hb1⟩
theorem szTxN_any (v:Value) (l:List Tx5) (m:Nat) (w:World) (hr:RdT w v l) (hm:m<=100000000) (hl:l.length<=9223372036854775807) (hs:∀ t ∈ l,t.2.1.size<=9223372036854775807/\t.2.2.1.size<=9223372036854775807) :
    Calls Tryz.prog 55 #[v,.int .i64 (m:Int)] w fun e w'=>∃ r:Int,e=.returned (.int .i64 r)/\(0<=r->(l.length:Int)+r<=(m:Int))/\Below w.heap.size w w':=by
  by_cases hn:m < l.length
  · obtain ⟨a,cap,rfl⟩:=hr.shape
    clear hr hs
    go_enter Tryz.func55,Tryz.ntmps55
    go_wp2
    go_ret
    exact ⟨_,rfl,fun h=>by omega,Below.refl _ _⟩
  · rcases hr with ⟨a,cap,rfl,rfl,-⟩ | ⟨b,off,cap,h0,rfl,h1,h2,h3,h4⟩
    · go_enter Tryz.func55,Tryz.ntmps55
      go_wp2
      refine wp_loop_rounds 1 ?_
      rw [rounds_succ]
      go_wp2
      go_ret
      exact ⟨_,rfl,fun _=>by simp,Below.refl _ _⟩
    · have Hs:=hide hs
      have H4:=hide h4
      clear hs h4
      go_enter Tryz.func55,Tryz.ntmps55
      go_wp2
      go_loopw [1,5] (fun mv iv wr=>∃ k r:Nat,k<=l.length/\iv=.int .i64 (k:Int)/\mv=.int .i64 (r:Int)/\l.length+totT (l.take k)+r=m/\Below w.heap.size w wr) (fun _ iv _=>l.length - (intOf iv).toNat)
      case atStart=>exact ⟨0,m - l.length,Nat.zero_le _,rfl,by go_num,by simp [totT];omega,Below.refl _ _⟩
      case round =>
        obtain ⟨k,r,hk,rfl,rfl,hrem,hb⟩:=hrel
        have Hrem:=hide hrem
        have hrm:r<=m:=by omega
        clear hrem
        by_cases hlt:k < l.length
        · obtain ⟨c0,c1,c2,c3,c4⟩:=(H4.out k hlt).below hb h3
          have hsz:=Hs.out l[k] (List.getElem_mem hlt)
          have Hsn:=hide (totT_snoc l k hlt)
          have HZ:=hide (szTx_any l[k] (r:Int) wr (by omega) (by omega) hsz.1 hsz.2)
          have hli:(k:Int) < (l.length:Int):=by omega
          by_cases hfit:wgT l[k]<=r
          · rw [szT_fit _ _ hfit] at HZ
            obtain ⟨q,hq⟩:∃ q,r - wgT l[k]=q:=⟨_,rfl⟩
            have Hq:Hid (wgT l[k]+q=r):=hide (by omega)
            rw [hq] at HZ
            clear hfit hsz hq
            generalize l[k]=ak at c0 c1 c2 c3 c4 HZ Hsn Hq
            obtain ⟨kd,fr,tO,am,no⟩:=ak
            simp only [txV] at c0 c1 c2 c3 c4 HZ
            go_wp2_with (go_at_call 111;refine HZ.out.mono ?_;rintro e w2 ⟨rfl,hb2⟩)
            go_roundw
            case rel=>exact ⟨k+1,q,by omega,by go_num,rfl,by rw [Hsn.out];have:=Hrem.out;have:=Hq.out;omega,hb.trans (hb2.mono hb.size)⟩
            case measure=>simp [intOf];omega
          · rw [szT_not _ _ hfit] at HZ
            clear hfit hsz
            generalize l[k]=ak at c0 c1 c2 c3 c4 HZ Hsn
            obtain ⟨kd,fr,tO,am,no⟩:=ak
            simp only [txV] at c0 c1 c2 c3 c4 HZ
            go_wp2_with (go_at_call 111;refine HZ.out.mono ?_;rintro e w2 ⟨rfl,hb2⟩)
            go_ret
            exact ⟨_,rfl,fun h=>by omega,hb.trans (hb2.mono hb.size)⟩
        · have hf:Hid ((l.length:Int)+(r:Int)<=(m:Int)):=hide (by have:=Hrem.out;omega)
          go_wp2
          go_ret
          exact ⟨_,rfl,fun _=>hf.out,hb⟩
theorem szValN_any (v:Value) (l:List Vl) (m:Nat) (w:World) (hr:RdV w v l) (hm:m<=100000000) (hl:l.length<=9223372036854775807) (hs:∀ a ∈ l,a.1.size<=9223372036854775807) :
    Calls Tryz.prog 30 #[v,.int .i64 (m:Int)] w fun e w'=>∃ r:Int,e=.returned (.int .i64 r)/\(0<=r->(l.length:Int)+r<=(m:Int))/\Below w.heap.size w w':=by
  by_cases hn:m < l.length
  · obtain ⟨a,cap,rfl⟩:=hr.shape
    clear hr hs
    go_enter Tryz.func30,Tryz.ntmps30
    go_wp2
    go_ret
    exact ⟨_,rfl,fun h=>by omega,Below.refl _ _⟩
  · rcases hr with ⟨a,cap,rfl,rfl,-⟩ | ⟨b,off,cap,h0,rfl,h1,h2,h3,h4⟩
    · go_enter Tryz.func30,Tryz.ntmps30
      go_wp2
      refine wp_loop_rounds 1 ?_
      rw [rounds_succ]
      go_wp2
      go_ret
      exact ⟨_,rfl,fun _=>by simp,Below.refl _ _⟩
    · have Hs:=hide hs
      have H4:=hide h4
      clear hs h4
      go_enter Tryz.func30,Tryz.ntmps30
      go_wp2
      go_loopw [1,5] (fun mv iv wr=>∃ k r:Nat,k<=l.length/\iv=.int .i64 (k:Int)/\mv=.int .i64 (r:Int)/\l.length+totV (l.take k)+r=m/\Below w.heap.size w wr) (fun _ iv _=>l.length - (intOf iv).toNat)
      case atStart=>exact ⟨0,m - l.length,Nat.zero_le _,rfl,by go_num,by simp [totV];omega,Below.refl _ _⟩
      case round =>
        obtain ⟨k,r,hk,rfl,rfl,hrem,hb⟩:=hrel
        have Hrem:=hide hrem
        have hrm:r<=m:=by omega
        clear hrem
        by_cases hlt:k < l.length
        · obtain ⟨d0,d1⟩:=H4.out k hlt
          have c0:=(hb.cell (p:=⟨b,off+k * 2,none⟩) h3).trans d0
          have c1:=(hb.cell (p:=⟨b,off+k * 2+1,none⟩) h3).trans d1
          have hsz:=Hs.out l[k] (List.getElem_mem hlt)
          have Hsn:=hide (totV_snoc l k hlt)
          have hli:(k:Int) < (l.length:Int):=by omega
          clear d0 d1
          by_cases hfit:l[k].1.size<=r
          · have HZ:=hide (szVal_fit l[k] r wr hfit (by omega))
            obtain ⟨q,hq⟩:∃ q,r - l[k].1.size=q:=⟨_,rfl⟩
            have Hq:Hid (l[k].1.size+q=r):=hide (by omega)
            rw [hq] at HZ
            clear hfit hsz hq
            generalize l[k]=ak at c0 c1 HZ Hsn Hq
            obtain ⟨nm,wt⟩:=ak
            simp only at c0 c1 HZ
            go_wp2_with (go_at_call 86;refine HZ.out.mono ?_;rintro e w2 ⟨rfl,hb2⟩)
            go_roundw
            case rel=>exact ⟨k+1,q,by omega,by go_num,rfl,by rw [Hsn.out];have:=Hrem.out;have:=Hq.out;omega,hb.trans (hb2.mono hb.size)⟩
            case measure=>simp [intOf];omega
          · have HZ:=hide (szVal_not l[k] r wr hfit (by omega) hsz)
            clear hfit hsz
            generalize l[k]=ak at c0 c1 HZ Hsn
            obtain ⟨nm,wt⟩:=ak
            simp only at c0 c1 HZ
            go_wp2_with (go_at_call 86;refine HZ.out.mono ?_;rintro e w2 ⟨rfl,hb2⟩)
            go_ret
            exact ⟨_,rfl,fun h=>by omega,hb.trans (hb2.mono hb.size)⟩
        · have hf:Hid ((l.length:Int)+(r:Int)<=(m:Int)):=hide (by have:=Hrem.out;omega)
          go_wp2
          go_ret
          exact ⟨_,rfl,fun _=>hf.out,hb⟩
theorem szBlockN_any (b:Bk) (v:Bv) (m:Nat) (w:World) (hr:RdK w b v) (hm:m<=100000000) (l1:b.qw.length<=maxLen) (l2:b.tw.length<=maxLen) (l3:b.th.length<=maxLen) (l4:b.ts.length<=maxLen) (l5:b.nx.length<=maxLen) (s1:∀ s ∈ b.qw,s.size<=maxLen) (s2:∀ s ∈ b.tw,s.size<=maxLen) (s3:∀ t ∈ b.ts,t.2.1.size<=maxLen/\t.2.2.1.size<=maxLen) (s4:∀ p ∈ b.nx,p.1.size<=maxLen) (s5:b.md.size<=maxLen) (s6:b.rt.size<=maxLen) :
    Calls Tryz.prog 87 #[bkV b v,.int .i64 (m:Int)] w fun e w'=>∃ q:Int,e=.returned (.int .i64 q)/\(0<=q->(b.qw.length:Int)+b.tw.length+b.th.length+b.ts.length+b.nx.length+q<=(m:Int))/\Below w.heap.size w w':=by
  have em:maxLen<=9223372036854775807:=by unfold maxLen;omega
  obtain ⟨id,ep,rd,mk,qr,qb,qw,tr,tw,th,ts,en,nx,rt⟩:=b
  obtain ⟨vq,vw,vh,vt,vn⟩:=v
  obtain ⟨hq,hw,hh,ht,hn⟩:=hr
  simp only at *
  obtain ⟨aq,cq,rfl⟩:=hq.shape
  obtain ⟨aw,cw,rfl⟩:=hw.shape
  obtain ⟨ah,ch,rfl⟩:=hh.shape
  obtain ⟨at_,ct,rfl⟩:=ht.shape
  obtain ⟨an,cn,rfl⟩:=hn.shape
  have E1:=hide (fun (k:Nat) (hk:k<=100000000) V (hV:Below w.heap.size w V)=>szQcN_any qr qb (.slice aq qw.length cq) qw k V (hq.below hV (Nat.le_refl _)) hk (Nat.le_trans l1 em) (fun s hs=>Nat.le_trans (s1 s hs) em))
  have E2:=hide (fun (k:Nat) (hk:k<=100000000) V (hV:Below w.heap.size w V)=>szTcN_any tr (.slice aw tw.length cw) (.slice ah th.length ch) tw th k V (hw.below hV (Nat.le_refl _)) (hh.below hV (Nat.le_refl _)) hk (Nat.le_trans l2 em) (fun s hs=>Nat.le_trans (s2 s hs) em) (Nat.le_trans l3 em))
  have E3:=hide (fun (k:Nat) (hk:k<=100000000) V (hV:Below w.heap.size w V)=>szTxN_any (.slice at_ ts.length ct) ts k V (ht.below hV (Nat.le_refl _)) hk (Nat.le_trans l4 em) (fun t hs=>⟨Nat.le_trans (s3 t hs).1 em,Nat.le_trans (s3 t hs).2 em⟩))
  have E4:=hide (fun (k:Nat) (hk:k<=100000000) V (hV:Below w.heap.size w V)=>szValN_any (.slice an nx.length cn) nx k V (hn.below hV (Nat.le_refl _)) hk (Nat.le_trans l5 em) (fun p hs=>Nat.le_trans (s4 p hs) em))
  have s5':mk.size<=9223372036854775807:=Nat.le_trans s5 em
  have s6':rt.size<=9223372036854775807:=Nat.le_trans s6 em
  simp only [bkV,qcV,tcV] at *
  clear hq hw hh ht hn l1 l2 l3 l4 l5 s1 s2 s3 s4 s5 s6 em
  obtain ⟨w1,hw1⟩:∃ x,w.alloc (.cells #[.int .i64 id,.int .i64 ep,.int .i64 rd,.string mk,.int .i64 qr,.int .i64 qb,.slice aq qw.length cq,.int .i64 tr,.slice aw tw.length cw,.slice ah th.length ch,.slice at_ ts.length ct,.bool en,.slice an nx.length cn,.string rt] 143)=x:=⟨_,rfl⟩
  have b1:Below w.heap.size w w1:=by rw [<- hw1];exact (Below.refl _ w).alloc (Nat.le_refl _) _
  have k1:Blk w1 w.heap.size 143 [.int .i64 id,.int .i64 ep,.int .i64 rd,.string mk,.int .i64 qr,.int .i64 qb,.slice aq qw.length cq,.int .i64 tr,.slice aw tw.length cw,.slice ah th.length ch,.slice at_ ts.length ct,.bool en,.slice an nx.length cn,.string rt]:=by rw [<- hw1];exact Blk.new w _ _
  have x3:=k1.cell 3
  have x4:=k1.cell 4
  have x5:=k1.cell 5
  have x6:=k1.cell 6
  simp only [List.getElem?_cons_zero,List.getElem?_cons_succ] at x3 x4 x5 x6
  go_enter Tryz.func87,Tryz.ntmps87
  by_cases hz:m < mk.size
  · have hzi:(m:Int) - (mk.size:Int) < 0:=by omega
    have hwz:IntKind.i64.wrap ((m:Int) - (mk.size:Int))=(m:Int) - (mk.size:Int):=by rw [IntKind.wrap_i64];omega
    clear hz
    go_wp2
    go_ret
    exact ⟨_,rfl,fun h=>by omega,b1⟩
  obtain ⟨m1,hm1⟩:∃ k,m - mk.size=k:=⟨_,rfl⟩
  have hwz:IntKind.i64.wrap ((m:Int) - (mk.size:Int))=(m1:Int):=by rw [IntKind.wrap_i64];omega
  have hm1':m1<=m:=by omega
  have hnn:¬ (m1:Int) < 0:=by omega
  clear hz hm1
  go_wp2_with fail
  refine (E1.out m1 (by omega) _ b1).mono ?_
  rintro e w2 ⟨q1,rfl,f1,hb2⟩
  have k2:=k1.below hb2 k1.lt
  have b2:=b1.trans (hb2.mono b1.size)
  clear x3 x4 x5 x6 hw1 hwz k1 b1 hb2
  by_cases zq1:q1 < 0
  · go_wp2
    go_ret
    exact ⟨_,rfl,fun h=>by omega,b2⟩
  obtain ⟨m2,em2⟩:∃ k:Nat,q1=(k:Int):=⟨q1.toNat,by omega⟩
  subst em2
  have Ff1:=hide (f1 (by omega))
  clear f1
  have hm2:m2<=100000000:=by have:=Ff1.out;omega
  have x7:=k2.cell 7
  have x8:=k2.cell 8
  have x9:=k2.cell 9
  simp only [List.getElem?_cons_zero,List.getElem?_cons_succ] at x7 x8 x9
  go_wp2_with fail
  refine (E2.out m2 hm2 _ b2).mono ?_
  rintro e w3 ⟨q2,rfl,f2,hb3⟩
  have k3:=k2.below hb3 k2.lt
  have b3:=b2.trans (hb3.mono b2.size)
  clear x7 x8 x9 k2 b2 hb3
  by_cases zq2:q2 < 0
  · go_wp2
    go_ret
    exact ⟨_,rfl,fun h=>by omega,b3⟩
  obtain ⟨m3,em3⟩:∃ k:Nat,q2=(k:Int):=⟨q2.toNat,by omega⟩
  subst em3
  have Ff2:=hide (f2 (by omega))
  clear f2
  have hm3:m3<=100000000:=by have:=Ff2.out;omega
  have x10:=k3.cell 10
  simp only [List.getElem?_cons_zero,List.getElem?_cons_succ] at x10
  go_wp2_with fail
  refine (E3.out m3 hm3 _ b3).mono ?_
  rintro e w4 ⟨q3,rfl,f3,hb4⟩
  have k4:=k3.below hb4 k3.lt
  have b4:=b3.trans (hb4.mono b3.size)
  clear x10 k3 b3 hb4
  by_cases zq3:q3 < 0
  · go_wp2
    go_ret
    exact ⟨_,rfl,fun h=>by omega,b4⟩
  obtain ⟨m4,em4⟩:∃ k:Nat,q3=(k:Int):=⟨q3.toNat,by omega⟩
  subst em4
  have Ff3:=hide (f3 (by omega))
  clear f3
  have hm4:m4<=100000000:=by have:=Ff3.out;omega
  have x12:=k4.cell 12
  simp only [List.getElem?_cons_zero,List.getElem?_cons_succ] at x12
  go_wp2_with fail
  refine (E4.out m4 hm4 _ b4).mono ?_
  rintro e w5 ⟨q4,rfl,f4,hb5⟩
  have k5:=k4.below hb5 k4.lt
  have b5:=b4.trans (hb5.mono b4.size)
  have x13:=k5.cell 13
  simp only [List.getElem?_cons_zero,List.getElem?_cons_succ] at x13
  clear x12 k4 b4 hb5 k5
  by_cases zq4:q4 < 0
  · go_wp2
    go_ret
    exact ⟨_,rfl,fun h=>by omega,b5⟩
  obtain ⟨m5,em5⟩:∃ k:Nat,q4=(k:Int):=⟨q4.toNat,by omega⟩
  subst em5
  have Ff4:=hide (f4 (by omega))
  clear f4
  have hfin:Hid ((qw.length:Int)+tw.length+th.length+ts.length+nx.length+((m5:Int) - (rt.size:Int))<=(m:Int)):=hide (by
    have h1:=Ff1.out
    have h2:=Ff2.out
    have h3:=Ff3.out
    have h4:=Ff4.out
    omega)
  have hm5:m5<=100000000:=by have:=Ff4.out;omega
  have hw5:IntKind.i64.wrap ((m5:Int) - (rt.size:Int))=(m5:Int) - (rt.size:Int):=by rw [IntKind.wrap_i64];omega
  by_cases h9:(m5:Int) - (rt.size:Int) < 0
  · go_wp2
    go_ret
    exact ⟨_,rfl,fun h=>by omega,b5⟩
  · go_wp2
    go_ret
    exact ⟨_,rfl,fun _=>hfin.out,b5⟩
def wgK (b:Bk):Nat:=b.qw.length+b.tw.length+b.th.length+b.ts.length+b.nx.length
def totK (l:List Bk):Nat:=(l.map wgK).sum
theorem totK_snoc (l:List Bk) (k:Nat) (h:k < l.length):totK (l.take (k+1))=totK (l.take k)+wgK l[k]:=by
  unfold totK
  rw [List.take_succ_eq_append_getElem h,List.map_append,List.sum_append]
  simp only [List.map_cons,List.map_nil,List.sum_cons,List.sum_nil,Nat.add_zero]
theorem totK_at:∀ (l:List Bk) (b:Bk),b ∈ l->wgK b<=totK l
  | [],a,h=>by simp at h
  | b :: l,a,h=>by
    have e:totK (b :: l)=wgK b+totK l:=by simp [totK]
    rw [e]
    rcases List.mem_cons.1 h with rfl | h
    · omega
    · have:=totK_at l a h;omega
theorem szBlockSN_any (v:Value) (l:List Bk) (m:Nat) (w:World) (hr:RdKs w v l) (hm:m<=100000000) (hl:l.length<=maxLen) (hs:∀ b ∈ l,FitK b) :
    Calls Tryz.prog 31 #[v,.int .i64 (m:Int)] w fun e w'=>∃ r:Int,e=.returned (.int .i64 r)/\(0<=r->(l.length:Int)+totK l+r<=(m:Int))/\Below w.heap.size w w':=by
  have em:maxLen<=9223372036854775807:=by unfold maxLen;omega
  by_cases hn:m < l.length
  · obtain ⟨a,cap,rfl⟩:=hr.shape
    clear hr hs
    go_enter Tryz.func31,Tryz.ntmps31
    go_wp2
    go_ret
    exact ⟨_,rfl,fun h=>by omega,Below.refl _ _⟩
  · rcases hr with ⟨a,cap,rfl,rfl,-⟩ | ⟨b,off,cap,h0,rfl,h1,h2,h3,h4⟩
    · go_enter Tryz.func31,Tryz.ntmps31
      go_wp2
      refine wp_loop_rounds 1 ?_
      rw [rounds_succ]
      go_wp2
      go_ret
      exact ⟨_,rfl,fun _=>by simp [totK],Below.refl _ _⟩
    · have Hs := hide hs
      have H4:=hide h4
      clear hs h4 h0
      go_enter Tryz.func31,Tryz.ntmps31
      go_wp2
      go_loopw [1,5] (fun mv iv wr=>∃ k r:Nat,k<=l.length/\iv=.int .i64 (k:Int)/\mv=.int .i64 (r:Int)/\l.length+totK (l.take k)+r<=m/\Below w.heap.size w wr) (fun _ iv _=>l.length - (intOf iv).toNat)
      case atStart=>exact ⟨0,m - l.length,Nat.zero_le _,rfl,by go_num,by simp [totK];omega,Below.refl _ _⟩
      case round =>
        obtain ⟨k,r,hk,rfl,rfl,hrem,hb⟩:=hrel
        have Hrem:=hide hrem
        have hrm:r<=m:=by omega
        clear hrem
        by_cases hlt:k < l.length
        · obtain ⟨lv,hat,hrl⟩:=H4.out k hlt
          obtain ⟨c0,c1,c2,c3,c4,c5,c6,c7,c8,c9,c10,c11,c12,c13⟩:=(hat.below hb h3).cells
          have hf:=Hs.out l[k] (List.getElem_mem hlt)
          have HZ:=hide (szBlockN_any l[k] lv r wr (hrl.below hb (Nat.le_refl _)) (by omega) hf.q hf.w hf.h hf.t hf.n hf.qs hf.ws hf.ts hf.ns hf.ms hf.rs)
          have Hsn:=hide (totK_snoc l k hlt)
          have Hw:Hid (wgK l[k]=l[k].qw.length+l[k].tw.length+l[k].th.length+l[k].ts.length+l[k].nx.length):=hide rfl
          have Hsh:=hide hrl.shapes9
          have hli:(k:Int) < (l.length:Int):=by omega
          clear hf hrl hat
          generalize l[k]=ak at c0 c1 c2 c3 c4 c5 c6 c7 c8 c9 c10 c11 c12 c13 HZ Hsh Hsn Hw
          obtain ⟨aq,cq,aw,cw,ah,ch,at_,ct,an,cn,rfl⟩:=Hsh.out
          clear Hsh
          generalize wgK ak=W at Hsn Hw
          obtain ⟨id,ep,rd,md,qr,qb,qw,tr,tw,th,ts,en,nx,rt⟩:=ak
          simp only [bkV] at c0 c1 c2 c3 c4 c5 c6 c7 c8 c9 c10 c11 c12 c13 HZ Hw
          go_wp2_with fail
          refine HZ.out.mono ?_
          rintro e w2 ⟨q,rfl,hq,hb2⟩
          have HB2:=hide (hb.trans (hb2.mono hb.size))
          have Hq:=hide hq
          clear c0 c1 c2 c3 c4 c5 c6 c7 c8 c9 c10 c11 c12 c13 hq hb2
          by_cases hneg:q < 0
          · go_wp2
            go_ret
            exact ⟨_,rfl,fun h=>by omega,HB2.out⟩
          · obtain ⟨r2,hr2⟩:∃ r2:Nat,q=(r2:Int):=⟨q.toNat,by omega⟩
            subst hr2
            go_wp2
            go_roundw
            case rel =>
              have h9:=Hq.out (by omega)
              exact ⟨k+1,r2,by omega,by go_num,rfl,by rw [Hsn.out];have:=Hrem.out;have:=Hw.out;omega,HB2.out⟩
            case measure=>simp [intOf];omega
        · have hf:Hid ((l.length:Int)+totK l+(r:Int)<=(m:Int)):=hide (by
            have h:=Hrem.out
            rw [List.take_of_length_le (by omega)] at h
            omega)
          go_wp2
          go_ret
          exact ⟨_,rfl,fun _=>hf.out,hb⟩
end Go.Proofs.YtaidhenkijjcfaaGreat
