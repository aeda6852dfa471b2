/- The walk of the law FnConserved. -/
import Derived.Test.YtohachldbpejpaaGreatDoorZoNeFact
import Derived.Test.YtohachldbpejpaaGreatDoorZoGhLaid
import Derived.Below
set_option maxRecDepth 20000
set_option maxHeartbeats 8000000
namespace Go.Proofs.YtohachldbpejpaaGreatDoor
open Go.ChangeShapes Go.WideShapes Go.ChangeAt Go.RowKit
set_option linter.unusedVariables false
theorem OwnX.styx {base hi g:Nat} {w:World} {v:Value} {l:List Ac} (h:OwnX base hi w v l) (hh:hi<=w.heap.size) (hg:g < base\/hi<=g):Sty g w v l :=
  ⟨h.rd,fun V hV=>(h.agr (fun k h1 h2=>hV.block k (Nat.lt_of_lt_of_le h2 hh) (fun e=>by simp only [Option.some.injEq] at e;omega))).rd⟩
theorem fnConserved_walk (a0:Option Addr) (len0 cap0:Nat) (z0:List Int) (w:World) (hgl:Gl w) (hgh:Gh w) (w0:IsRow .u8 w a0 len0 cap0 z0) :
    Calls Tryz.prog 3 #[.slice a0 len0 cap0] w fun e w'=>e=.returned (.bool true)/\Below w.heap.size w w':=by
  obtain ⟨cd,rfl,hr⟩:=w0.rd
  clear w0
  have hcap:cd.length<=9223372036854775807:=by
    rcases hr with ⟨_,_,_,e,_⟩ | ⟨_,_,cap,_,_,h1,h2,_⟩
    · subst e;simp
    · unfold maxLen at h2;omega
  have Hbig:=hide (big_any _ cd w hr hcap)
  by_cases hbig:1048576 < cd.length
  · rw [decide_eq_true hbig] at Hbig
    clear hr hgh hgl
    go_enter Tryz.func3,Tryz.ntmps3
    go_wp2_with fail
    refine Hbig.out.mono ?_
    rintro e w' ⟨rfl,rfl⟩
    go_wp2
    go_ret
    exact ⟨rfl,Below.refl _ _⟩
  rw [decide_eq_false hbig] at Hbig
  have Hd:=hide (drawLedger_any w _ cd hr (by omega))
  have Hgh:=hide hgh
  have Hgl:=hide hgl
  clear hr hgh hgl
  go_enter Tryz.func3,Tryz.ntmps3
  go_wp2_with fail
  refine Hbig.out.mono ?_
  rintro e w ⟨rfl,rfl⟩
  go_wp2_with fail
  refine Hd.out.mono ?_
  rintro en w2 ⟨e,u,z,x,ts,rfl,hrl,hfw,hlg,hrt,ht10,ht9,hB2⟩
  obtain ⟨au,cu,rfl⟩:=hrl.shape
  obtain ⟨at_,ct,rfl⟩:=hrt.shape
  have few:=few_fit hfw
  have htm:∀ x ∈ ts,x.2.1.size<=maxLen/\x.2.2.1.size<=maxLen:=fun x hx=>by have:=ht9 x hx;unfold maxLen;omega
  have HAL:=hide (fun V (hg:Gh V) (h1:RdA V (.slice au z.length cu) z) (h2:RdT V (.slice at_ ts.length ct) ts)=>implAll_any e _ _ z ts V hg h1 h2 few.1 few.2 (by omega) htm)
  have HfP:Hid (∀ i,(alA e z (ts.take i)).1.length<=3999999/\∀ a ∈ (alA e z (ts.take i)).1,a.1.size<=maxLen/\a.2.2.2.2.length<=3999999):=hide (fun i=>alA_few (e:=e) (ts.take i) few.1 few.2)
  have fA:=alA_few (e:=e) ts few.1 few.2
  have fA4:(alA e z ts).1.length<=4000000/\∀ a ∈ (alA e z ts).1,a.1.size<=maxLen/\a.2.2.2.2.length<=4000000:=⟨by omega,fun a ha=>by have:=fA.2 a ha;exact ⟨this.1,by omega⟩⟩
  have HNE:=hide (fun v V (h1:RdA V v (alA e z ts).1)=>implNext_any e v _ V h1 fA4.1 fA4.2)
  have fY:(neA e (alA e z ts).1).2.length<=4000000/\∀ a ∈ (neA e (alA e z ts).1).2,a.1.size<=maxLen/\a.2.2.2.2.length<=4000000:=by
    have:=neA_few (e:=e) fA.1 fA.2
    exact ⟨by omega,fun a ha=>by have:=this.2 a ha;exact ⟨this.1,by omega⟩⟩
  have HWX:=hide (fun v V (h1:RdA V v (alA e z ts).1)=>implWealth_any v _ V h1 fA4.1 (fun a ha=>(fA4.2 a ha).2))
  have HWY:=hide (fun v V (h1:RdA V v (neA e (alA e z ts).1).2)=>implWealth_any v _ V h1 fY.1 (fun a ha=>(fY.2 a ha).2))
  have HWZ:=hide (fun v V (h1:RdA V v z)=>implWealth_any v z V h1 (by have:=few.1;omega) (fun a ha=>by have:=few.2 a ha;omega))
  rw [ne_wealth,alA_wealth] at HWY
  rw [alA_wealth] at HWX
  have HLO:=hide (fun v V (h1:RdA V v (neA e (alA e z ts).1).2)=>implLedgerOk_any (neA e (alA e z ts).1).1 v _ V h1 fY.1 fY.2)
  rw [ne_right (alA_right ts hlg)] at HLO
  have HSR:=hide (fun v V (hg:Gl V) (h1:RdA V v (alA e z ts).1)=>implStateRoot_any e v _ V h1 fA4.1 fA4.2 hg)
  have Hta:=hide htm
  simp only [lgV] at HAL HNE HLO HSR ⊢
  obtain ⟨w3,hw3⟩:∃ x,w2.alloc (.cells #[.int .i64 e,.slice au z.length cu] 26)=x:=⟨_,rfl⟩
  have b3:Below w2.heap.size w2 w3:=by rw [<- hw3];exact (Below.refl _ w2).alloc (Nat.le_refl _) _
  have k3:Blk w3 w2.heap.size 26 [.int .i64 e,.slice au z.length cu]:=by rw [<- hw3];exact Blk.new w2 _ _
  have HB3:=hide (hB2.trans (b3.mono hB2.size))
  have Hra:=hide (fun V (hV:Below w3.heap.size w3 V)=>(hrl.below b3 (Nat.le_refl _)).below hV (Nat.le_refl _))
  have Hrt:=hide (fun V (hV:Below w3.heap.size w3 V)=>(hrt.below b3 (Nat.le_refl _)).below hV (Nat.le_refl _))
  have HK:=hide (fun V (hV:Below w3.heap.size w3 V)=>k3.below hV k3.lt)
  have Hg3:=hide (fun V (hV:Below w3.heap.size w3 V)=>Hgh.out.below (HB3.out.trans (hV.mono HB3.out.size)))
  have Hl3:=hide (fun V (hV:Below w3.heap.size w3 V)=>Hgl.out.below (HB3.out.trans (hV.mono HB3.out.size)) (Nat.le_refl _))
  have c0:=k3.cell 0
  have c1:=k3.cell 1
  simp only [List.getElem?_cons_zero,List.getElem?_cons_succ] at c0 c1
  clear hrl hrt b3 k3 hB2 few hfw fA fA4 fY htm ht9 hlg
  go_wp2_with fail
  refine (HAL.out w3 (Hg3.out w3 (Below.refl _ _)) (Hra.out w3 (Below.refl _ _)) (Hrt.out w3 (Below.refl _ _))).mono ?_
  rintro en w4 ⟨v4,rfl,o4,hb4⟩
  have HeA:Hid (alA e z (ts.take ts.length)=((alA e z ts).1,(alA e z ts).2)):=hide (by rw [List.take_length])
  have hnb:=alA_len e z ts
  generalize (alA e z ts).1=A at o4 HNE HWX HWY HLO HSR HeA
  generalize (alA e z ts).2=n at HeA hnb
  generalize (neA e A).1=eY at HNE HLO
  generalize (neA e A).2=Y at HNE HWY HLO
  obtain ⟨a4,c4,rfl⟩:=o4.rd.shape
  obtain ⟨w5,hw5⟩:∃ x,w4.alloc (.cells #[.int .i64 e,.slice a4 A.length c4] 26)=x:=⟨_,rfl⟩
  have b5:Below w4.heap.size w4 w5:=by rw [<- hw5];exact (Below.refl _ w4).alloc (Nat.le_refl _) _
  have k5:Blk w5 w4.heap.size 26 [.int .i64 e,.slice a4 A.length c4]:=by rw [<- hw5];exact Blk.new w4 _ _
  have b35:=hb4.trans (b5.mono hb4.size)
  have HX:=hide (fun V (hV:Below w5.heap.size w5 V)=>(o4.rd.below b5 (Nat.le_refl _)).below hV (Nat.le_refl _))
  have HKX:=hide (fun V (hV:Below w5.heap.size w5 V)=>k5.below hV k5.lt)
  have H35:=hide (fun V (hV:Below w5.heap.size w5 V)=>b35.trans (hV.mono b35.size))
  have d0:=k5.cell 0
  have d1:=k5.cell 1
  simp only [List.getElem?_cons_zero,List.getElem?_cons_succ] at d0 d1
  have HN5:=hide (HNE.out _ w5 (HX.out w5 (Below.refl _ _)))
  clear c0 c1 o4 hb4 b5 k5 b35 hw3
  go_wp2_with fail
  (try rw [hw5])
  refine HN5.out.mono ?_
  rintro en w6 ⟨v6,rfl,o6,hb6⟩
  obtain ⟨a6,c6,rfl⟩:=o6.rd.shape
  obtain ⟨w7,hw7⟩:∃ x,w6.alloc (.cells #[.int .i64 eY,.slice a6 Y.length c6] 26)=x:=⟨_,rfl⟩
  have b7:Below w6.heap.size w6 w7:=by rw [<- hw7];exact (Below.refl _ w6).alloc (Nat.le_refl _) _
  have k7:Blk w7 w6.heap.size 26 [.int .i64 eY,.slice a6 Y.length c6]:=by rw [<- hw7];exact Blk.new w6 _ _
  have b57:=hb6.trans (b7.mono hb6.size)
  have HY:=hide (fun V (hV:Below w7.heap.size w7 V)=>(o6.rd.below b7 (Nat.le_refl _)).below hV (Nat.le_refl _))
  have HKY:=hide (fun V (hV:Below w7.heap.size w7 V)=>k7.below hV k7.lt)
  have H57:=hide (fun V (hV:Below w7.heap.size w7 V)=>b57.trans (hV.mono b57.size))
  have kg:=HK.out w7 (H35.out w7 b57)
  have c0:=kg.cell 0
  have c1:=kg.cell 1
  simp only [List.getElem?_cons_zero,List.getElem?_cons_succ] at c0 c1
  obtain ⟨w8,hw8⟩:∃ x,w7.alloc (.cells #[.int .i64 e,.slice au z.length cu] 26)=x:=⟨_,rfl⟩
  have b8:Below w7.heap.size w7 w8:=by rw [<- hw8];exact (Below.refl _ w7).alloc (Nat.le_refl _) _
  have k8:Blk w8 w7.heap.size 26 [.int .i64 e,.slice au z.length cu]:=by rw [<- hw8];exact Blk.new w7 _ _
  have s8:w8.heap.size=w7.heap.size+1:=by rw [<- hw8];simp
  have hz37:w3.heap.size<=w7.heap.size:=(H35.out w7 b57).size
  have K8:=hide k8
  have B8:=hide b8
  have S8':=hide s8
  -- what stays behind a change of the last block
  have H7:Hid (∀ V,w8.grownBy V (some w7.heap.size)->Below w7.heap.size w7 V):=hide (fun V hV=>b8.grown hV (by omega) (fun k hk=>by cases hk;exact Nat.le_refl _))
  have HSt:Hid (Sty w7.heap.size w8 (.slice au z.length cu) z):=hide ⟨Hra.out w8 (H35.out w8 (H57.out w8 b8)),fun V hV=>Hra.out V (H35.out V (H57.out V (H7.out V hV)))⟩
  clear d0 d1 o6 hb6 b7 k7 b57 hw5 kg HN5 HNE b8 k8 s8
  go_wp2
  (try rw [hw8])
  have G8:=hide (show w8.grownBy w8 (some w7.heap.size) from ⟨rfl,rfl,rfl,Nat.le_refl _,fun _ _ _=>rfl⟩)
  clear c0 c1 hw7 hw8
  go_loopw [9,10] (fun gv iv wr=>∃ (i:Nat) (a:Option Addr) (c:Nat),i<=ts.length/\iv=.int .i64 (i:Int)/\gv=.int .i64 ((alA e z (ts.take i)).2:Int)/\Blk wr w7.heap.size 26 [.int .i64 e,.slice a (alA e z (ts.take i)).1.length c]/\Sty w7.heap.size wr (.slice a (alA e z (ts.take i)).1.length c) (alA e z (ts.take i)).1/\w8.grownBy wr (some w7.heap.size)) (fun _ iv _=>ts.length - (intOf iv).toNat)
  case atStart=>exact ⟨0,au,cu,Nat.zero_le _,rfl,rfl,K8.out,HSt.out,G8.out⟩
  case round =>
    clear K8 HSt G8
    obtain ⟨i,a,c,hi,rfl,rfl,kO,hst,hgr⟩:=hrel
    have b7r:=H7.out wr hgr
    have b5r:=H57.out wr b7r
    have b3r:=H35.out wr b5r
    have hzr:=hgr.size
    have s8:=S8'.out
    by_cases hlt:i < ts.length
    · have few:=HfP.out i
      have hcnt:=alA_len e z (ts.take i)
      have hcnt2:(alA e z (ts.take i)).2<=10:=Nat.le_trans hcnt (by simp;omega)
      obtain ⟨b,off,hat,hc1,hc2,hbw,hT⟩:=(Hrt.out wr b3r).at hlt
      subst hat
      have htx:=Hta.out ts[i] (List.getElem_mem _)
      have Hsn:=hide (alA_snoc e z ts i hlt)
      obtain ⟨s,hs⟩:∃ s,alA e z (ts.take i)=s:=⟨_,rfl⟩
      rw [hs] at kO hst few hcnt2 Hsn ⊢
      obtain ⟨P,G⟩:=s
      simp only at kO hst few hcnt2 Hsn ⊢
      have HA:=hide (fun V v hg h=>implApply_any e v P ts[i] V hg h few.1 few.2 htx.1 htx.2)
      have Hgd:=hide (fun (h:(apA e P ts[i]).2=0)=>alS_good (e:=e) (s:=(P,G)) (t:=ts[i]) h)
      have Hbd:=hide (fun (h:(apA e P ts[i]).2 ≠ 0)=>alS_bad (e:=e) (s:=(P,G)) (t:=ts[i]) h)
      simp only at Hgd Hbd
      unfold ApPost at HA
      generalize ts[i]=t at hT HA Hgd Hbd Hsn
      generalize (apA e P t).1=A2 at HA Hgd
      generalize (apA e P t).2=C at HA Hgd Hbd
      obtain ⟨q0,q1,q2,q3,q4⟩:=hT
      obtain ⟨kd,fm,tn,am,nc⟩:=t
      simp only [lgV,txV] at q0 q1 q2 q3 q4 HA
      have hbr:b < wr.heap.size:=hbw
      have HS:Hid (∀ V,Below wr.heap.size wr V->(V.cell? ⟨w7.heap.size,0,none⟩=some (.int .i64 e)/\V.cell? ⟨w7.heap.size,1,none⟩=some (.slice a P.length c)/\V.cell? ⟨b,off+i * 5,none⟩=some (.int .i64 kd)/\V.cell? ⟨b,off+i * 5+1,none⟩=some (.string fm)/\V.cell? ⟨b,off+i * 5+2,none⟩=some (.string tn)/\V.cell? ⟨b,off+i * 5+3,none⟩=some (.int .i64 am)/\V.cell? ⟨b,off+i * 5+4,none⟩=some (.int .i64 nc))):=hide (fun V hv=>⟨(kO.below hv kO.lt).cell 0,(kO.below hv kO.lt).cell 1,(hv.cell (p:=⟨b,off+i * 5,none⟩) hbr).trans q0,(hv.cell (p:=⟨b,off+i * 5+1,none⟩) hbr).trans q1,(hv.cell (p:=⟨b,off+i * 5+2,none⟩) hbr).trans q2,(hv.cell (p:=⟨b,off+i * 5+3,none⟩) hbr).trans q3,(hv.cell (p:=⟨b,off+i * 5+4,none⟩) hbr).trans q4⟩)
      have bD:Below wr.heap.size wr wr.drew:=(Below.refl _ wr).drew
      have bE:Below wr.heap.size wr (wr.alloc (.cells #[.int .i64 0,.slice none 0 0] 26)).drew:=((Below.refl _ wr).alloc (Nat.le_refl _) _).drew
      have nE:Blk (wr.alloc (.cells #[.int .i64 0,.slice none 0 0] 26)).drew wr.heap.size 26 [.int .i64 0,.slice none 0 0]:=Blk.new wr 26 [.int .i64 0,.slice none 0 0]
      have rD:=hst.1.below bD (Nat.le_refl _)
      have rE:=hst.1.below bE (Nat.le_refl _)
      have gD:=Hg3.out _ (b3r.trans (bD.mono b3r.size))
      have gE:=Hg3.out _ (b3r.trans (bE.mono b3r.size))
      have zD:wr.drew.heap.size=wr.heap.size:=rfl
      have zE:(wr.alloc (.cells #[.int .i64 0,.slice none 0 0] 26)).drew.heap.size=wr.heap.size+1:=by simp
      have HL:Hid (∀ (V:World) (v:Value),RdA V v A2->∃ a c,v=.slice a A2.length c):=hide (fun V v h=>h.shape)
      have hli:(i:Int) < (ts.length:Int):=by omega
      have hB8:w7.heap.size < wr.heap.size:=by omega
      have KO:=hide kO
      have Hst:=hide hst
      have Hgr:=hide hgr
      have HgC:Hid (∀ V,Below wr.heap.size wr V->w8.grownBy V (some w7.heap.size)):=hide (fun V hV=>grw_below hgr hV hzr)
      clear kO hst hgr q0 q1 q2 q3 q4 few htx hs b7r b5r s8
      go_upto_region 11 with fail
      go_cut [11,12] from 30 to 49 (fun sp sc wc=>∃ (B:Nat) (a':Option Addr) (c':Nat),sp=.pointer (some ⟨B,0,none⟩)/\sc=.int .i64 C/\Blk wc B 26 [.int .i64 e,.slice a' A2.length c']/\Sty w7.heap.size wc (.slice a' A2.length c') A2/\wr.heap.size<=B/\Below wr.heap.size wr wc)
      case first =>
        go_region_held_law (fun w'=>w'.cell? ⟨w7.heap.size,0,none⟩=some (.int .i64 e)/\w'.cell? ⟨w7.heap.size,1,none⟩=some (.slice a P.length c)/\w'.cell? ⟨b,off+i * 5,none⟩=some (.int .i64 kd)/\w'.cell? ⟨b,off+i * 5+1,none⟩=some (.string fm)/\w'.cell? ⟨b,off+i * 5+2,none⟩=some (.string tn)/\w'.cell? ⟨b,off+i * 5+3,none⟩=some (.int .i64 am)/\w'.cell? ⟨b,off+i * 5+4,none⟩=some (.int .i64 nc)) ((refine HS.out _ ?_;repeat (first | with_reducible exact bD | with_reducible exact bE | with_reducible exact bA | with_reducible exact Below.refl _ _ | refine Below.drew ?_ | refine Below.alloc ?_ (by first | omega | (simp;done) | (simp;omega) | (dsimp only;omega)) _ | refine Below.setCell ?_ (by first | omega | (simp;done) | (simp;omega) | (dsimp only;omega)) _))) ((first
          | (go_at_call 12;with_reducible refine (HA.out wr.drew _ gD rD).mono ?_;rintro e' wA ⟨vA,rfl,oA,hbA⟩;have bA:=bD.trans (hbA.mono bD.size);have zA:=hbA.size;have xA:=oA.ox;have hsh:=HL.out _ _ xA.rd;obtain ⟨aA,cA,hvA⟩:=hsh;subst hvA)
          | (go_at_call 12;with_reducible refine (HA.out (wr.alloc (.cells #[.int .i64 0,.slice none 0 0] 26)).drew _ gE rE).mono ?_;rintro e' wA ⟨vA,rfl,oA,hbA⟩;have bA:=bE.trans (hbA.mono bE.size);have zA:=hbA.size;have xA:=oA.ox;have hsh:=HL.out _ _ xA.rd;obtain ⟨aA,cA,hvA⟩:=hsh;subst hvA;have hBlt:=nE.lt;have nb:=nE.below hbA nE.lt;have y0:=nb.cell 0;have y1:=nb.cell 1;have y0f:=nb.frozen 0;have y1f:=nb.frozen 1;simp only [List.getElem?_cons_zero,List.getElem?_cons_succ] at y0 y1)))
        all_goals
          go_wp2_with fail
          go_meet
          case rel =>
            first
              | exact ⟨wA.heap.size,aA,cA,rfl,rfl,Blk.new wA _ _,(xA.below ((Below.refl _ wA).alloc (Nat.le_refl _) _) (Nat.le_refl _)).styx (by simp) (.inl (by first | omega | (simp;omega))),by omega,bA.alloc (by omega) _⟩
              | exact ⟨_,aA,cA,rfl,rfl,(nb.set 0 _).set 1 _,((xA.old (by first | omega | (simp;done) | (simp;omega) | (dsimp only;omega)) _ _).old (by first | omega | (simp;done) | (simp;omega) | (dsimp only;omega)) _ _).styx (by simp) (.inl (by first | omega | (simp;omega))),by omega,(bA.setCell (p:=⟨_,0,none⟩) (by dsimp only;omega) _).setCell (p:=⟨_,1,none⟩) (by dsimp only;omega) _⟩
      case rest =>
      obtain ⟨B9,a9,c9,rfl,rfl,k9,x9,h9,hb9⟩:=hcut
      obtain ⟨w9,hw9⟩:∃ z,z=wc:=⟨_,rfl⟩
      subst hw9
      clear HS bD bE nE rD rE zD zE gD gE HL
      have kb:=KO.out.below hb9 KO.out.lt
      have hg9:=HgC.out w9 hb9
      by_cases hC:C=0
      · have Hs1c:=hide (Hsn.out.trans (Hgd.out hC))
        have d0:=k9.cell 0
        have d1:=k9.cell 1
        have o0:=kb.cell 0
        have o1:=kb.cell 1
        have f0:=kb.frozen 0
        have f1:=kb.frozen 1
        simp only [List.getElem?_cons_zero,List.getElem?_cons_succ] at d0 d1 o0 o1
        have gs0:=grown_set w9 w7.heap.size 0 (.int .i64 e)
        have gs1:=grown_set (w9.setCell ⟨w7.heap.size,0,none⟩ (.int .i64 e)) w7.heap.size 1 (.slice a9 A2.length c9)
        have KS:=hide ((kb.set 0 (.int .i64 e)).set 1 (.slice a9 A2.length c9))
        have XS:=hide ((x9.notg gs0).notg gs1)
        have GS:=hide (grw_trans (grw_trans hg9 gs0) gs1)
        have hBne:B9 ≠ w7.heap.size:=by omega
        clear kb k9 x9 hb9 hg9 Hgd Hbd KO Hst Hgr HgC gs0 gs1 Hsn
        subst hC
        go_wp2
        go_roundw
        case rel=>exact ⟨i+1,a9,c9,by omega,by go_num,by rw [Hs1c.out];go_num,by rw [Hs1c.out];exact KS.out,by rw [Hs1c.out];exact XS.out,GS.out⟩
        case measure=>simp [intOf];omega
      · have Hs1c:=hide (Hsn.out.trans (Hbd.out hC))
        have KS:=hide kb
        have XS:=hide (Hst.out.notg (grw_of_below (some w7.heap.size) hb9 (Nat.le_refl _)))
        have GS:=hide hg9
        clear kb k9 x9 hb9 hg9 Hgd Hbd KO Hst Hgr HgC Hsn
        go_wp2
        go_roundw
        case rel=>exact ⟨i+1,a,c,by omega,by go_num,by rw [Hs1c.out],by rw [Hs1c.out];exact KS.out,by rw [Hs1c.out];exact XS.out,GS.out⟩
        case measure=>simp [intOf];omega
    · obtain rfl:i=ts.length:=by omega
      rw [HeA.out] at kO hst ⊢
      simp only at kO hst ⊢
      have kg:=HK.out wr b3r
      have c1:=kg.cell 1
      simp only [List.getElem?_cons_zero,List.getElem?_cons_succ] at c1
      have HWr:=hide (HWZ.out _ wr (Hra.out wr b3r))
      have KO:=hide kO
      have Hst:=hide hst.1
      have Hgr:=hide hgr
      have hil:¬ ((ts.length:Int) < (ts.length:Int)):=by omega
      clear kO hst kg
      go_wp2_with fail
      refine HWr.out.mono ?_
      rintro en wd ⟨rfl,hbd⟩
      have hgd:w8.grownBy wd (some w7.heap.size):=grw_below Hgr.out hbd hzr
      have b7d:=H7.out wd hgd
      have b5d:=H57.out wd b7d
      have b3d:=H35.out wd b5d
      have kX:=HKX.out wd b5d
      have kY:=HKY.out wd b7d
      have kO:=KO.out.below hbd KO.out.lt
      have e1:=cell_regrown (kX.cell 0)
      have e2:=cell_regrown (kX.cell 1)
      have e3:=cell_regrown (kY.cell 0)
      have e4:=cell_regrown (kY.cell 1)
      have e5:=cell_regrown (kO.cell 0)
      have e6:=cell_regrown (kO.cell 1)
      have rX:=HX.out wd b5d
      have rY:=HY.out wd b7d
      have rO:=Hst.out.below hbd (Nat.le_refl _)
      have HGL:=hide (fun V (hV:Below wd.heap.size wd V)=>Hl3.out V (b3d.trans (hV.mono b3d.size)))
      have HQ1:=hide (fun d os=>Calls.regrown_of (HWX.out (.slice a4 A.length c4) (Sort.grow (redrawn wd d) os) (rX.below (below_regrown wd d os) (Nat.le_refl _))))
      have HQ2:=hide (fun d os=>Calls.regrown_of (HWY.out (.slice a6 Y.length c6) (Sort.grow (redrawn wd d) os) (rY.below (below_regrown wd d os) (Nat.le_refl _))))
      have HQ3:=hide (fun d os=>Calls.regrown_of (HLO.out (.slice a6 Y.length c6) (Sort.grow (redrawn wd d) os) (rY.below (below_regrown wd d os) (Nat.le_refl _))))
      have HQ4:=hide (fun d os=>Calls.regrown_of (HSR.out (.slice a4 A.length c4) (Sort.grow (redrawn wd d) os) (HGL.out _ (below_regrown wd d os)) (rX.below (below_regrown wd d os) (Nat.le_refl _))))
      have HQ5:=hide (fun d os=>Calls.regrown_of (HSR.out (.slice a A.length c) (Sort.grow (redrawn wd d) os) (HGL.out _ (below_regrown wd d os)) (rO.below (below_regrown wd d os) (Nat.le_refl _))))
      have BD:=hide (HB3.out.trans (b3d.mono HB3.out.size))
      clear kX kY kO rX rY rO b7d b5d b3d hbd hgd c1 HWr
      go_wp2
      refine wp_region_quiet_below (by kernel_rfl) (by kernel_rfl) ?_
      repeat (go_big_quiet_step ((first | (go_at_call 13;first | with_reducible exact HQ1.out _ _ | with_reducible exact HQ2.out _ _) | (go_at_call 14;with_reducible exact HQ3.out _ _) | (go_at_call 15;first | with_reducible exact HQ4.out _ _ | with_reducible exact HQ5.out _ _))))
      refine wpQuiet_nil ?_
      intro _ hw'
      obtain ⟨⟨dq,osq⟩,hw''⟩:=hw'
      subst hw''
      have bq:=below_regrown wd dq osq
      go_wp2
      go_ret
      exact ⟨by first | rfl | simp,BD.out.trans (bq.mono BD.out.size)⟩
end Go.Proofs.YtohachldbpejpaaGreatDoor
