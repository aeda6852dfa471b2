/- Votes and leavings that came in, opened. -/
import Derived.Test.YtfdbedenlbikgaaZlMgSz
set_option maxRecDepth 20000
set_option maxHeartbeats 8000000
namespace Go.Proofs.Ytfdbedenlbikgaa
open Go.RowKit
set_option linter.unusedVariables false
structure FitWd (p:Wd):Prop where
  wep:(Lit.int .i64 p.ep).wf=true
  la:p.la.length<=maxLen
  ga:∀ a ∈ p.la,a.1.size<=maxLen/\a.2.2.2.2.length<=maxLen
  lf:p.fo.length<=maxLen
  gf:∀ a ∈ p.fo,a.size<=maxLen
  ln:p.ns.length<=maxLen
  gn:∀ q ∈ p.ns,FitNd q
  lb:p.bs.length<=maxLen
  gb:∀ b ∈ p.bs,FitK b
  ls:p.sg.length<=maxLen
  gs:∀ q ∈ p.sg,FitSn q
  lm:p.ms.length<=maxLen
  gm:∀ q ∈ p.ms,FitMg q
theorem szWorld_any (p:Wd) (u:Wv) (m:Nat) (w:World) (hr:RdWd w p u) (hm:m<=4000000) (hf:FitWd p) :
    Calls Try.prog 5 #[wdV p u,.int .i64 (m:Int)] w fun e w'=>Szd (FewWd p) m w e w':=by
  have hla:=hf.la
  have hga:=hf.ga
  have hlf:=hf.lf
  have hgf:=hf.gf
  have hln:=hf.ln
  have hgn:=hf.gn
  have hlb:=hf.lb
  have hgb:=hf.gb
  have hls:=hf.ls
  have hgs:=hf.gs
  have hlm:=hf.lm
  have hgm:=hf.gm
  clear hf
  obtain ⟨ep,la,fo,ns,bs,sg,ms⟩:=p
  obtain ⟨ya,yf,yn,yb,ys,ym⟩:=u
  obtain ⟨hya,hyf,hyn,hyb,hys,hym⟩:=hr
  simp only at *
  obtain ⟨ada,cpa,rfl⟩:=hya.shape
  obtain ⟨adf,cpf,rfl⟩:=hyf.shape
  obtain ⟨adn,cpn,rfl⟩:=hyn.shape
  obtain ⟨adb,cpb,rfl⟩:=hyb.shape
  obtain ⟨ads,cps,rfl⟩:=hys.shape
  obtain ⟨adm,cpm,rfl⟩:=hym.shape
  have E1:=hide (fun (k:Nat) (hk:k<=4000000) V (hV:Below w.heap.size w V)=>szuLedger ep (.slice ada la.length cpa) la k V (hya.below hV (Nat.le_refl _)) hk hla hga)
  have E2:=hide (fun (k:Nat) (hk:k<=4000000) V (hV:Below w.heap.size w V)=>szuStr (.slice adf fo.length cpf) fo k V (hyf.below hV (Nat.le_refl _)) hk hlf hgf)
  have E3:=hide (fun (k:Nat) (hk:k<=4000000) V (hV:Below w.heap.size w V)=>szNodeS_any (.slice adn ns.length cpn) ns k V (hyn.below hV (Nat.le_refl _)) hk hln hgn)
  have E4:=hide (fun (k:Nat) (hk:k<=4000000) V (hV:Below w.heap.size w V)=>szuBlock (.slice adb bs.length cpb) bs k V (hyb.below hV (Nat.le_refl _)) hk hlb hgb)
  have E5:=hide (fun (k:Nat) (hk:k<=4000000) V (hV:Below w.heap.size w V)=>szSigS_any (.slice ads sg.length cps) sg k V (hys.below hV (Nat.le_refl _)) hk hls hgs)
  have E6:=hide (fun (k:Nat) (hk:k<=4000000) V (hV:Below w.heap.size w V)=>szMsgS_any (.slice adm ms.length cpm) ms k V (hym.below hV (Nat.le_refl _)) hk hlm hgm)
  clear hya hla hga
  clear hyf hlf hgf
  clear hyn hln hgn
  clear hyb hlb hgb
  clear hys hls hgs
  clear hym hlm hgm
  simp only [wdV,lgV] at *
  obtain ⟨S0,hS0⟩:∃ x,w.alloc (.cells #[.int .i64 ep,.slice ada la.length cpa,.slice adf fo.length cpf,.slice adn ns.length cpn,.slice adb bs.length cpb,.slice ads sg.length cps,.slice adm ms.length cpm] 31)=x:=⟨_,rfl⟩
  have k0:Blk S0 w.heap.size 31 [.int .i64 ep,.slice ada la.length cpa,.slice adf fo.length cpf,.slice adn ns.length cpn,.slice adb bs.length cpb,.slice ads sg.length cps,.slice adm ms.length cpm]:=by rw [<- hS0];exact Blk.new w _ _
  have b0:Below w.heap.size w S0:=by rw [<- hS0];exact (Below.refl _ w).alloc (Nat.le_refl _) _
  obtain ⟨m0,em0⟩:∃ k:Nat,k=m:=⟨_,rfl⟩
  rw [<- em0]
  have hm0:m0<=4000000:=by omega
  have W0:=hide (show (m0:Int)<=(m0:Int) from by omega)
  clear em0 hm
  have x0:=k0.cell 0
  have x1:=k0.cell 1
  simp only [List.getElem?_cons_zero,List.getElem?_cons_succ] at x0 x1
  have K0:=hide k0
  clear k0
  go_enter Try.func5,Try.ntmps5
  go_wp2_with fail
  (try rw [hS0])
  clear hS0
  refine (E1.out m0 hm0 _ b0).mono ?_
  rintro e w1 ⟨q1,rfl,f1,hb1⟩
  have k1:=K0.out.below hb1 K0.out.lt
  have b1:=b0.trans (hb1.mono b0.size)
  clear x0 x1 K0 b0 hb1 E1
  by_cases zq1:q1 < 0
  · clear f1 k1
    go_wp2
    go_ret
    exact ⟨_,rfl,fun h=>by omega,b1⟩
  obtain ⟨m1,em1⟩:∃ k:Nat,q1=(k:Int):=⟨q1.toNat,by omega⟩
  subst em1
  obtain ⟨fa1,fb1⟩:=f1 (by omega)
  have X1:=hide fa1
  have hm1:m1<=4000000:=by omega
  have W1:=hide (show (m1:Int)<=(m0:Int) from by have:=W0.out;omega)
  clear f1 fa1 fb1 W0
  have x2:=k1.cell 2
  simp only [List.getElem?_cons_zero,List.getElem?_cons_succ] at x2
  have K1:=hide k1
  clear k1
  go_wp2_with fail
  refine (E2.out m1 hm1 _ b1).mono ?_
  rintro e w2 ⟨q2,rfl,f2,hb2⟩
  have k2:=K1.out.below hb2 K1.out.lt
  have b2:=b1.trans (hb2.mono b1.size)
  clear x2 K1 b1 hb2 E2
  by_cases zq2:q2 < 0
  · clear f2 k2
    go_wp2
    go_ret
    exact ⟨_,rfl,fun h=>by omega,b2⟩
  obtain ⟨m2,em2⟩:∃ k:Nat,q2=(k:Int):=⟨q2.toNat,by omega⟩
  subst em2
  obtain ⟨fa2,fb2⟩:=f2 (by omega)
  have X2:=hide fa2
  have hm2:m2<=4000000:=by omega
  have W2:=hide (show (m2:Int)<=(m0:Int) from by have:=W1.out;omega)
  clear f2 fa2 fb2 W1
  have x3:=k2.cell 3
  simp only [List.getElem?_cons_zero,List.getElem?_cons_succ] at x3
  have K2:=hide k2
  clear k2
  go_wp2_with fail
  refine (E3.out m2 hm2 _ b2).mono ?_
  rintro e w3 ⟨q3,rfl,f3,hb3⟩
  have k3:=K2.out.below hb3 K2.out.lt
  have b3:=b2.trans (hb3.mono b2.size)
  clear x3 K2 b2 hb3 E3
  by_cases zq3:q3 < 0
  · clear f3 k3
    go_wp2
    go_ret
    exact ⟨_,rfl,fun h=>by omega,b3⟩
  obtain ⟨m3,em3⟩:∃ k:Nat,q3=(k:Int):=⟨q3.toNat,by omega⟩
  subst em3
  obtain ⟨fa3,fb3⟩:=f3 (by omega)
  have X3:=hide fa3
  have hm3:m3<=4000000:=by omega
  have W3:=hide (show (m3:Int)<=(m0:Int) from by have:=W2.out;omega)
  clear f3 fa3 fb3 W2
  have x4:=k3.cell 4
  simp only [List.getElem?_cons_zero,List.getElem?_cons_succ] at x4
  have K3:=hide k3
  clear k3
  go_wp2_with fail
  refine (E4.out m3 hm3 _ b3).mono ?_
  rintro e w4 ⟨q4,rfl,f4,hb4⟩
  have k4:=K3.out.below hb4 K3.out.lt
  have b4:=b3.trans (hb4.mono b3.size)
  clear x4 K3 b3 hb4 E4
  by_cases zq4:q4 < 0
  · clear f4 k4
    go_wp2
    go_ret
    exact ⟨_,rfl,fun h=>by omega,b4⟩
  obtain ⟨m4,em4⟩:∃ k:Nat,q4=(k:Int):=⟨q4.toNat,by omega⟩
  subst em4
  obtain ⟨fa4,fb4⟩:=f4 (by omega)
  have X4:=hide fa4
  have hm4:m4<=4000000:=by omega
  have W4:=hide (show (m4:Int)<=(m0:Int) from by have:=W3.out;omega)
  clear f4 fa4 fb4 W3
  have x5:=k4.cell 5
  simp only [List.getElem?_cons_zero,List.getElem?_cons_succ] at x5
  have K4:=hide k4
  clear k4
  go_wp2_with fail
  refine (E5.out m4 hm4 _ b4).mono ?_
  rintro e w5 ⟨q5,rfl,f5,hb5⟩
  have k5:=K4.out.below hb5 K4.out.lt
  have b5:=b4.trans (hb5.mono b4.size)
  clear x5 K4 b4 hb5 E5
  by_cases zq5:q5 < 0
  · clear f5 k5
    go_wp2
    go_ret
    exact ⟨_,rfl,fun h=>by omega,b5⟩
  obtain ⟨m5,em5⟩:∃ k:Nat,q5=(k:Int):=⟨q5.toNat,by omega⟩
  subst em5
  obtain ⟨fa5,fb5⟩:=f5 (by omega)
  have X5:=hide fa5
  have hm5:m5<=4000000:=by omega
  have W5:=hide (show (m5:Int)<=(m0:Int) from by have:=W4.out;omega)
  clear f5 fa5 fb5 W4
  have x6:=k5.cell 6
  simp only [List.getElem?_cons_zero,List.getElem?_cons_succ] at x6
  have K5:=hide k5
  clear k5
  go_wp2_with fail
  refine (E6.out m5 hm5 _ b5).mono ?_
  rintro e w6 ⟨q6,rfl,f6,hb6⟩
  have k6:=K5.out.below hb6 K5.out.lt
  have b6:=b5.trans (hb6.mono b5.size)
  clear x6 K5 b5 hb6 E6
  by_cases zq6:q6 < 0
  · clear f6 k6
    go_wp2
    go_ret
    exact ⟨_,rfl,fun h=>by omega,b6⟩
  obtain ⟨m6,em6⟩:∃ k:Nat,q6=(k:Int):=⟨q6.toNat,by omega⟩
  subst em6
  obtain ⟨fa6,fb6⟩:=f6 (by omega)
  have X6:=hide fa6
  have hm6:m6<=4000000:=by omega
  have W6:=hide (show (m6:Int)<=(m0:Int) from by have:=W5.out;omega)
  clear f6 fa6 fb6 W5
  clear k6
  go_wp2
  go_ret
  exact ⟨_,rfl,fun _=>⟨⟨X1.out.1,X1.out.2,X2.out,X3.out.1,X3.out.2,X4.out.1,X4.out.2,X5.out.1,X5.out.2,X6.out.1,X6.out.2⟩,W6.out⟩,b6⟩
end Go.Proofs.Ytfdbedenlbikgaa
namespace Go.Proofs.Ytfdbedenlbikgaa
open Go.RowKit Go.ChangeShapes Go.WideShapes
set_option linter.unusedVariables false
section
variable {H:Type} {enc:TypeId × Value->H} {w:World} {base:Nat} {spare:Nat->Bool} {held:Bool}
theorem open_vote {fuel:Nat} {cs:List Value} {x:DataW H × List MemPlace} (h:DataW.trod enc Try.prog w base spare held fuel 97 cs=some x) :
    ∃ (r k:Int) (s:ByteArray),cs=[.int .i64 r,.int .i64 k,.string s]/\s.size<=maxLen/\(Lit.int .i64 r).wf=true/\(Lit.int .i64 k).wf=true:=by
  obtain ⟨xs,n,_,_,hlen,hxl,hf⟩:=DataW.trod_struct Try.underlying97 h
  have h5:cs.length=3:=hlen.trans (by kernel_rfl)
  have hx5:xs.length=3:=hxl
  match cs,h5,xs,hx5 with
  | [c0,c1,c2],_,[y0,y1,y2],_ =>
    have ki:Try.prog.cellsOf 3=1:=by kernel_rfl
    have ks:Try.prog.cellsOf 9=1:=by kernel_rfl
    have g0:DataW.trod enc Try.prog w base spare held n 3 [c0]=some y0:=by
      have e:=hf 0 _ rfl
      change DataW.trod enc Try.prog w base spare held n 3 (List.take (Try.prog.cellsOf 3) [c0,c1,c2])=some y0 at e
      rw [ki] at e
      exact e
    have g1:DataW.trod enc Try.prog w base spare held n 3 [c1]=some y1:=by
      have e:=hf 1 _ rfl
      change DataW.trod enc Try.prog w base spare held n 3 (List.take (Try.prog.cellsOf 3) [c1,c2])=some y1 at e
      rw [ki] at e
      exact e
    have g2:DataW.trod enc Try.prog w base spare held n 9 [c2]=some y2:=by
      have e:=hf 2 _ rfl
      change DataW.trod enc Try.prog w base spare held n 9 (List.take (Try.prog.cellsOf 9) [c2])=some y2 at e
      rw [ks] at e
      exact e
    obtain ⟨z0,e0,_,f0⟩:=DataW.trod_int Try.underlying3 g0
    obtain ⟨z1,e1,_,f1⟩:=DataW.trod_int Try.underlying3 g1
    obtain ⟨s2,e2,_,f2⟩:=DataW.trod_string Try.underlying9 g2
    simp only [List.cons.injEq,and_true] at e0 e1 e2
    subst e0 e1 e2
    exact ⟨z0,z1,s2,rfl,f2,f0,f1⟩
theorem open_gone {fuel:Nat} {cs:List Value} {x:DataW H × List MemPlace} (h:DataW.trod enc Try.prog w base spare held fuel 99 cs=some x) :
    ∃ (r k:Int) (s:ByteArray),cs=[.int .i64 r,.int .i64 k,.string s]/\s.size<=maxLen/\(Lit.int .i64 r).wf=true/\(Lit.int .i64 k).wf=true:=by
  obtain ⟨xs,n,_,_,hlen,hxl,hf⟩:=DataW.trod_struct Try.underlying99 h
  have h5:cs.length=3:=hlen.trans (by kernel_rfl)
  have hx5:xs.length=3:=hxl
  match cs,h5,xs,hx5 with
  | [c0,c1,c2],_,[y0,y1,y2],_ =>
    have ki:Try.prog.cellsOf 3=1:=by kernel_rfl
    have ks:Try.prog.cellsOf 9=1:=by kernel_rfl
    have g0:DataW.trod enc Try.prog w base spare held n 3 [c0]=some y0:=by
      have e:=hf 0 _ rfl
      change DataW.trod enc Try.prog w base spare held n 3 (List.take (Try.prog.cellsOf 3) [c0,c1,c2])=some y0 at e
      rw [ki] at e
      exact e
    have g1:DataW.trod enc Try.prog w base spare held n 3 [c1]=some y1:=by
      have e:=hf 1 _ rfl
      change DataW.trod enc Try.prog w base spare held n 3 (List.take (Try.prog.cellsOf 3) [c1,c2])=some y1 at e
      rw [ki] at e
      exact e
    have g2:DataW.trod enc Try.prog w base spare held n 9 [c2]=some y2:=by
      have e:=hf 2 _ rfl
      change DataW.trod enc Try.prog w base spare held n 9 (List.take (Try.prog.cellsOf 9) [c2])=some y2 at e
      rw [ks] at e
      exact e
    obtain ⟨z0,e0,_,f0⟩:=DataW.trod_int Try.underlying3 g0
    obtain ⟨z1,e1,_,f1⟩:=DataW.trod_int Try.underlying3 g1
    obtain ⟨s2,e2,_,f2⟩:=DataW.trod_string Try.underlying9 g2
    simp only [List.cons.injEq,and_true] at e0 e1 e2
    subst e0 e1 e2
    exact ⟨z0,z1,s2,rfl,f2,f0,f1⟩
theorem open_voteS {fuel:Nat} {a:Option Addr} {len cap:Nat} {x:DataW H × List MemPlace} (h:DataW.trod enc Try.prog w base spare held fuel 83 [.slice a len cap]=some x) :
    ∃ l:List Tr,len=l.length/\RdR w (.slice a len cap) l/\l.length<=maxLen/\∀ q ∈ l,q.2.2.size<=maxLen:=by
  rcases Deep.open_slice Try.underlying83 h with ⟨hcs,_⟩ | ⟨ad,len',cap',m,n,D,Pl,hcs,hb,hl,hm,hmm,hx,hel⟩
  · simp at hcs
    obtain ⟨rfl,rfl,rfl⟩:=hcs
    exact ⟨[],rfl,.inl ⟨_,_,rfl,rfl,fun _=>rfl⟩,by simp,by simp⟩
  · simp at hcs
    obtain ⟨rfl,rfl,rfl⟩:=hcs
    have hlm:len<=m:=by rw [hmm];split <;> omega
    by_cases h0:len=0
    · subst h0;exact ⟨[],rfl,.inl ⟨_,_,rfl,rfl,fun h=>by cases h⟩,by simp,by simp⟩
    · obtain ⟨b,off,spot⟩:=ad
      rw [show Try.prog.cellsOf 97=3 from by kernel_rfl] at hel
      have each:∀ i,i < m->∃ q:Tr,w.cells? base ((⟨b,off,spot⟩:Addr).add (i * 3)) 3=some (trC q)/\q.2.2.size<=maxLen:=fun i hi=>by
        obtain ⟨cs',h1,h2⟩:=hel i hi
        obtain ⟨r,k,s,rfl,k1,-⟩:=open_vote h2
        exact ⟨(r,k,s),h1,k1⟩
      obtain ⟨q,hq⟩:=Deep.choose_lt each
      have c0:∀ i,i < m->∀ j,j < 3->w.cell? (((⟨b,off,spot⟩:Addr).add (i * 3)).add j)=(trC (q i))[j]?:=fun i hi=>(World.cells?_some (hq i hi).1).2.2
      have hc0:=c0 0 (by omega) 0 (by omega)
      have hspot:spot=none:=by simpa [Addr.add] using World.cell?_spot hc0
      subst hspot
      have hlen:((List.range len).map q).length=len:=by simp
      refine ⟨(List.range len).map q,hlen.symm,.inr ⟨b,off,cap,?_,by rw [hlen],by omega,hm,?_,?_⟩,by omega,?_⟩
      · intro e;rw [e] at hlen;simp at hlen;omega
      · have:=World.block_lt_of_cell? w _ hc0;simpa [Addr.add] using this
      · intro i hi
        rw [hlen] at hi
        have cc:∀ j,j < 3->w.cell? ⟨b,off+i * 3+j,none⟩=(trC (q i))[j]?:=fun j hj=>by
          have:=c0 i (by omega) j hj
          rwa [add_plainV,add_plainV] at this
        simp only [List.getElem_map,List.getElem_range]
        exact ⟨by have:=cc 0 (by omega);simpa [trC] using this,by have:=cc 1 (by omega);simpa [trC] using this,by have:=cc 2 (by omega);simpa [trC] using this⟩
      · intro z hz
        obtain ⟨i,hi,rfl⟩:=List.mem_map.1 hz
        exact (hq i (by have:=List.mem_range.1 hi;omega)).2
theorem open_goneS {fuel:Nat} {a:Option Addr} {len cap:Nat} {x:DataW H × List MemPlace} (h:DataW.trod enc Try.prog w base spare held fuel 84 [.slice a len cap]=some x) :
    ∃ l:List Tr,len=l.length/\RdR w (.slice a len cap) l/\l.length<=maxLen/\∀ q ∈ l,q.2.2.size<=maxLen:=by
  rcases Deep.open_slice Try.underlying84 h with ⟨hcs,_⟩ | ⟨ad,len',cap',m,n,D,Pl,hcs,hb,hl,hm,hmm,hx,hel⟩
  · simp at hcs
    obtain ⟨rfl,rfl,rfl⟩:=hcs
    exact ⟨[],rfl,.inl ⟨_,_,rfl,rfl,fun _=>rfl⟩,by simp,by simp⟩
  · simp at hcs
    obtain ⟨rfl,rfl,rfl⟩:=hcs
    have hlm:len<=m:=by rw [hmm];split <;> omega
    by_cases h0:len=0
    · subst h0;exact ⟨[],rfl,.inl ⟨_,_,rfl,rfl,fun h=>by cases h⟩,by simp,by simp⟩
    · obtain ⟨b,off,spot⟩:=ad
      rw [show Try.prog.cellsOf 99=3 from by kernel_rfl] at hel
      have each:∀ i,i < m->∃ q:Tr,w.cells? base ((⟨b,off,spot⟩:Addr).add (i * 3)) 3=some (trC q)/\q.2.2.size<=maxLen:=fun i hi=>by
        obtain ⟨cs',h1,h2⟩:=hel i hi
        obtain ⟨r,k,s,rfl,k1,-⟩:=open_gone h2
        exact ⟨(r,k,s),h1,k1⟩
      obtain ⟨q,hq⟩:=Deep.choose_lt each
      have c0:∀ i,i < m->∀ j,j < 3->w.cell? (((⟨b,off,spot⟩:Addr).add (i * 3)).add j)=(trC (q i))[j]?:=fun i hi=>(World.cells?_some (hq i hi).1).2.2
      have hc0:=c0 0 (by omega) 0 (by omega)
      have hspot:spot=none:=by simpa [Addr.add] using World.cell?_spot hc0
      subst hspot
      have hlen:((List.range len).map q).length=len:=by simp
      refine ⟨(List.range len).map q,hlen.symm,.inr ⟨b,off,cap,?_,by rw [hlen],by omega,hm,?_,?_⟩,by omega,?_⟩
      · intro e;rw [e] at hlen;simp at hlen;omega
      · have:=World.block_lt_of_cell? w _ hc0;simpa [Addr.add] using this
      · intro i hi
        rw [hlen] at hi
        have cc:∀ j,j < 3->w.cell? ⟨b,off+i * 3+j,none⟩=(trC (q i))[j]?:=fun j hj=>by
          have:=c0 i (by omega) j hj
          rwa [add_plainV,add_plainV] at this
        simp only [List.getElem_map,List.getElem_range]
        exact ⟨by have:=cc 0 (by omega);simpa [trC] using this,by have:=cc 1 (by omega);simpa [trC] using this,by have:=cc 2 (by omega);simpa [trC] using this⟩
      · intro z hz
        obtain ⟨i,hi,rfl⟩:=List.mem_map.1 hz
        exact (hq i (by have:=List.mem_range.1 hi;omega)).2
end
end Go.Proofs.Ytfdbedenlbikgaa
