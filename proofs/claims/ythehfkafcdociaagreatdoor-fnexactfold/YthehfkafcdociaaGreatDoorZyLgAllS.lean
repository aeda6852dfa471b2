/- The model's orders one behind the other. -/
import Derived.Deep.DeepCutAuto
import Derived.Test.YthehfkafcdociaaGreatDoorZyLgAll
import Derived.Test.YthehfkafcdociaaGreatDoorZyLgApplyS
set_option maxRecDepth 20000
set_option maxHeartbeats 4000000
namespace Go.Proofs.YthehfkafcdociaaGreatDoor
end Go.Proofs.YthehfkafcdociaaGreatDoor
namespace Go.Proofs.YthehfkafcdociaaGreatDoor
open Go.RowKit
set_option linter.unusedVariables false
theorem RdT.at {w:World} {a:Option Addr} {cap i:Nat} {l:List Tx5} (h:RdT w (.slice a l.length cap) l) (hi:i < l.length) :
    ∃ b off,a=some ⟨b,off,none⟩/\l.length<=cap/\cap<=maxLen/\b < w.heap.size/\TxAt w b (off+i * 5) l[i]:=by
  rcases h with ⟨a',cap',e,rfl,-⟩ | ⟨b,off,cap',h0,e,h1,h2,h3,h4⟩
  · simp at hi
  · simp only [Value.slice.injEq,true_and] at e
    obtain ⟨rfl,rfl⟩:=e
    exact ⟨b,off,rfl,h1,h2,h3,h4 i hi⟩
theorem specAll_any (e:Int) (v vt:Value) (l:List Ac) (ts:List Tx5) (w:World) (hr:RdA w v l) (hrt:RdT w vt ts) (hl:l.length<=3999999) (hall:∀ a ∈ l,a.1.size<=maxLen/\a.2.2.2.2.length<=3999999) (hts:ts.length<=4000000) (hta:∀ t ∈ ts,t.2.1.size<=maxLen/\t.2.2.1.size<=maxLen) :
    Calls Tryz.prog 24 #[lgV e v,vt] w fun en w'=>∃ v',en=.returned (.tuple #[lgV e v',.int .i64 ((alA e l ts).2:Int)])/\OwnA w.heap.size w' v' (alA e l ts).1/\Below w.heap.size w w':=by
  obtain ⟨av,cv,rfl⟩:=hr.shape
  obtain ⟨at_,ct,rfl⟩:=hrt.shape
  have hall2:∀ a ∈ l,a.2.2.2.2.length<=4000000:=fun a ha=>by have:=hall a ha;omega
  simp only [lgV] at *
  obtain ⟨w2,hw2⟩:∃ w2,(w.alloc (.cells #[.int .i64 e,.slice av l.length cv] 36)).alloc (.cells #[.int .i64 0,.slice none 0 0] 36)=w2:=⟨_,rfl⟩
  have hs2:w2.heap.size=w.heap.size+2:=by rw [<- hw2];simp
  have hb2:Below w.heap.size w w2:=by rw [<- hw2];exact ((Below.refl _ w).alloc (Nat.le_refl _) _).alloc (by simp) _
  have kA:Blk w2 w.heap.size 36 [.int .i64 e,.slice av l.length cv]:=by
    rw [<- hw2]
    exact (Blk.new w 36 [.int .i64 e,.slice av l.length cv]).below ((Below.refl (w.heap.size+1) _).alloc (by simp) _) (by omega)
  have kR:Blk w2 (w.heap.size+1) 36 [.int .i64 0,.slice none 0 0]:=by
    rw [<- hw2]
    have h:=Blk.new (w.alloc (.cells #[.int .i64 e,.slice av l.length cv] 36)) 36 [.int .i64 0,.slice none 0 0]
    simp only [World.size_alloc] at h
    exact h
  have HC:=hide (specL6Copy_any e (.slice av l.length cv) l w2 (hr.below hb2 (Nat.le_refl _)) (by omega) hall2)
  simp only [lgV] at HC
  have HS2:=hide hs2
  have Hb2:=hide hb2
  have KR:=hide kR
  have Hrt:=hide (hrt.below hb2 (Nat.le_refl _))
  have Hfew:=hide (fun k=>alA_few (e:=e) (ts.take k) hl hall)
  have Hta:=hide hta
  have c0:=kA.cell 0
  have c1:=kA.cell 1
  simp only [List.getElem?_cons_zero,List.getElem?_cons_succ] at c0 c1
  clear hr hrt hb2 kA kR hall hall2 hta hs2
  go_enter Tryz.func24,Tryz.ntmps24
  go_wp2_with fail
  refine HC.out.mono ?_
  rintro en w3 ⟨v3,rfl,o3,hb3⟩
  obtain ⟨a3,c3,rfl⟩:=o3.rd.shape
  obtain ⟨w4,hw4⟩:∃ w4,w3.alloc (.cells #[.int .i64 e,.slice a3 l.length c3] 36)=w4:=⟨_,rfl⟩
  have b4:Below w3.heap.size w3 w4:=by rw [<- hw4];exact (Below.refl _ w3).alloc (Nat.le_refl _) _
  have K4:Hid (Blk w4 w3.heap.size 36 [.int .i64 e,.slice a3 l.length c3]):=hide (by rw [<- hw4];exact Blk.new w3 _ _)
  have X4:=hide (o3.ox.below b4 (Nat.le_refl _))
  have B4:=hide (hb3.trans (b4.mono hb3.size))
  have hz3:=hb3.size
  clear o3 hb3 b4 c0 c1 hw2
  go_wp2
  go_loopw [7,8] (fun nv iv wr=>∃ (i:Nat) (a:Option Addr) (c base hi:Nat),i<=ts.length/\iv=.int .i64 (i:Int)/\nv=.int .i64 ((alA e l (ts.take i)).2:Int)/\Blk wr w3.heap.size 36 [.int .i64 e,.slice a (alA e l (ts.take i)).1.length c]/\OwnX base hi wr (.slice a (alA e l (ts.take i)).1.length c) (alA e l (ts.take i)).1/\w2.heap.size<=base/\(w3.heap.size < base\/hi<=w3.heap.size)/\Below w2.heap.size w2 wr) (fun _ iv _=>ts.length - (intOf iv).toNat)
  case atStart=>exact ⟨0,a3,c3,w2.heap.size,w3.heap.size,by omega,rfl,rfl,K4.out,X4.out,Nat.le_refl _,.inr (Nat.le_refl _),B4.out⟩
  case round =>
    obtain ⟨i,a,c,base,hi,hi1,rfl,rfl,kO,x,hbase,hdis,hb⟩:=hrel
    clear K4 X4 B4 hw4
    have hwr:=hb.size
    have hO:=kO.lt
    have few:=Hfew.out i
    have hnl:=alA_len e l (ts.take i)
    have htk:(ts.take i).length<=ts.length:=by simp;omega
    by_cases hlt:i < ts.length
    · obtain ⟨b,off,rfl,hc1,hc2,hbw,hT⟩:=Hrt.out.at hlt
      have htx:=Hta.out ts[i] (List.getElem_mem _)
      have Hsn:=hide (alA_snoc e l ts i hlt)
      obtain ⟨s,hs⟩:∃ s,alA e l (ts.take i)=s:=⟨_,rfl⟩
      rw [hs] at kO x few hnl Hsn ⊢
      obtain ⟨P,n⟩:=s
      simp only at kO x few hnl ⊢
      have HA:=hide (fun V v h=>specApply_any e v P ts[i] V h few.1 few.2 htx.1 htx.2)
      have Hgd:=hide (alS_good (e:=e) (s:=(P,n)) (t:=ts[i]))
      have Hbd:=hide (alS_bad (e:=e) (s:=(P,n)) (t:=ts[i]))
      have Hsm:=hide (apA_same (e:=e) (l:=P) (t:=ts[i]))
      simp only at Hgd Hbd
      generalize ts[i]=t at hT HA Hgd Hbd Hsm Hsn
      generalize (apA e P t).1=A at HA Hgd Hsm
      generalize (apA e P t).2=C at HA Hgd Hbd Hsm
      obtain ⟨p0,p1,p2,p3,p4⟩:=hT
      have q0:=(hb.cell (p:=⟨b,off+i * 5,none⟩) hbw).trans p0
      have q1:=(hb.cell (p:=⟨b,off+i * 5+1,none⟩) hbw).trans p1
      have q2:=(hb.cell (p:=⟨b,off+i * 5+2,none⟩) hbw).trans p2
      have q3:=(hb.cell (p:=⟨b,off+i * 5+3,none⟩) hbw).trans p3
      have q4:=(hb.cell (p:=⟨b,off+i * 5+4,none⟩) hbw).trans p4
      obtain ⟨kd,fm,tn,am,nc⟩:=t
      simp only [lgV,txV] at q0 q1 q2 q3 q4 HA
      have hbr:b < wr.heap.size:=by omega
      have HS:Hid (∀ V,Below wr.heap.size wr V->(V.cell? ⟨w3.heap.size,0,none⟩=some (.int .i64 e)/\V.cell? ⟨w3.heap.size,1,none⟩=some (.slice a P.length c)/\V.cell? ⟨b,off+i * 5,none⟩=some (.int .i64 kd)/\V.cell? ⟨b,off+i * 5+1,none⟩=some (.string fm)/\V.cell? ⟨b,off+i * 5+2,none⟩=some (.string tn)/\V.cell? ⟨b,off+i * 5+3,none⟩=some (.int .i64 am)/\V.cell? ⟨b,off+i * 5+4,none⟩=some (.int .i64 nc))):=hide (fun V hv=>⟨(kO.below hv kO.lt).cell 0,(kO.below hv kO.lt).cell 1,(hv.cell (p:=⟨b,off+i * 5,none⟩) hbr).trans q0,(hv.cell (p:=⟨b,off+i * 5+1,none⟩) hbr).trans q1,(hv.cell (p:=⟨b,off+i * 5+2,none⟩) hbr).trans q2,(hv.cell (p:=⟨b,off+i * 5+3,none⟩) hbr).trans q3,(hv.cell (p:=⟨b,off+i * 5+4,none⟩) hbr).trans q4⟩)
      have bD:Below wr.heap.size wr wr.drew:=(Below.refl _ wr).drew
      have bE:Below wr.heap.size wr (wr.alloc (.cells #[.int .i64 0,.slice none 0 0] 36)).drew:=((Below.refl _ wr).alloc (Nat.le_refl _) _).drew
      have nE:Blk (wr.alloc (.cells #[.int .i64 0,.slice none 0 0] 36)).drew wr.heap.size 36 [.int .i64 0,.slice none 0 0]:=Blk.new wr 36 [.int .i64 0,.slice none 0 0]
      have rD:=x.rd.below bD (Nat.le_refl _)
      have rE:=x.rd.below bE (Nat.le_refl _)
      have zD:wr.drew.heap.size=wr.heap.size:=rfl
      have zE:(wr.alloc (.cells #[.int .i64 0,.slice none 0 0] 36)).drew.heap.size=wr.heap.size+1:=by simp
      have HL:Hid (∀ (V:World) (v:Value),RdA V v A->∃ a c,v=.slice a A.length c):=hide (fun V v h=>h.shape)
      have hli:(i:Int) < (ts.length:Int):=by omega
      have KO:=hide kO
      have Xx:=hide x
      have Hb:=hide hb
      have hnb:n<=4000000:=by omega
      clear kO x hb p0 p1 p2 p3 p4 q0 q1 q2 q3 q4 few htx hs
      go_upto_region 6 with fail
      go_cut [9,10] (fun sp sc wc=>∃ (B:Nat) (a':Option Addr) (c' base' hi':Nat),sp=.pointer (some ⟨B,0,none⟩)/\sc=.int .i64 C/\Blk wc B 36 [.int .i64 e,.slice a' A.length c']/\OwnX base' hi' wc (.slice a' A.length c') A/\wr.heap.size<=base'/\hi'<=wc.heap.size/\(B < base'\/hi'<=B)/\wr.heap.size<=B/\Below wr.heap.size wr wc)
      case first =>
        go_region_held_law (fun w'=>w'.cell? ⟨w3.heap.size,0,none⟩=some (.int .i64 e)/\w'.cell? ⟨w3.heap.size,1,none⟩=some (.slice a P.length c)/\w'.cell? ⟨b,off+i * 5,none⟩=some (.int .i64 kd)/\w'.cell? ⟨b,off+i * 5+1,none⟩=some (.string fm)/\w'.cell? ⟨b,off+i * 5+2,none⟩=some (.string tn)/\w'.cell? ⟨b,off+i * 5+3,none⟩=some (.int .i64 am)/\w'.cell? ⟨b,off+i * 5+4,none⟩=some (.int .i64 nc)) ((refine HS.out _ ?_;repeat (first | with_reducible exact bD | with_reducible exact bE | with_reducible exact bA | with_reducible exact Below.refl _ _ | refine Below.drew ?_ | refine Below.alloc ?_ (by first | omega | (simp;done) | (simp;omega) | (dsimp only;omega)) _ | refine Below.setCell ?_ (by first | omega | (simp;done) | (simp;omega) | (dsimp only;omega)) _))) ((first
          | (go_at_call 53;with_reducible refine (HA.out wr.drew _ rD).mono ?_;rintro e' wA ⟨vA,rfl,oA,hbA⟩;have bA:=bD.trans (hbA.mono bD.size);have zA:=hbA.size;have xA:=oA.ox;have hsh:=HL.out _ _ xA.rd;obtain ⟨aA,cA,hvA⟩:=hsh;subst hvA)
          | (go_at_call 53;with_reducible refine (HA.out (wr.alloc (.cells #[.int .i64 0,.slice none 0 0] 36)).drew _ rE).mono ?_;rintro e' wA ⟨vA,rfl,oA,hbA⟩;have bA:=bE.trans (hbA.mono bE.size);have zA:=hbA.size;have xA:=oA.ox;have hsh:=HL.out _ _ xA.rd;obtain ⟨aA,cA,hvA⟩:=hsh;subst hvA;have hBlt:=nE.lt;have nb:=nE.below hbA nE.lt;have y0:=nb.cell 0;have y1:=nb.cell 1;have y0f:=nb.frozen 0;have y1f:=nb.frozen 1;simp only [List.getElem?_cons_zero,List.getElem?_cons_succ] at y0 y1)))
        all_goals
          go_wp2_with fail
          go_meet
          case rel =>
            first
              | exact ⟨wA.heap.size,aA,cA,_,wA.heap.size,rfl,rfl,Blk.new wA _ _,xA.below ((Below.refl _ wA).alloc (Nat.le_refl _) _) (Nat.le_refl _),by first | omega | (simp;omega),by simp,.inr (Nat.le_refl _),by omega,bA.alloc (by omega) _⟩
              | exact ⟨_,aA,cA,_,wA.heap.size,rfl,rfl,(nb.set 0 _).set 1 _,(xA.old (by first | omega | (simp;done) | (simp;omega) | (dsimp only;omega)) _ _).old (by first | omega | (simp;done) | (simp;omega) | (dsimp only;omega)) _ _,by first | omega | (simp;omega),by simp,.inl (by first | omega | (simp;done) | (simp;omega) | (dsimp only;omega)),by omega,(bA.setCell (p:=⟨_,0,none⟩) (by dsimp only;omega) _).setCell (p:=⟨_,1,none⟩) (by dsimp only;omega) _⟩
      obtain ⟨w9,rfl⟩:∃ z,z=wc:=⟨_,rfl⟩
      obtain ⟨B9,a9,c9,base9,hi9,rfl,rfl,b9,x9,h9_1,h9_2,h9_3,h9_4,hb9⟩:=hcut
      clear HS bD bE nE rD rE zD zE
      have hB9:=Hb.out.trans (hb9.mono hwr)
      have k9:=KO.out.below hb9 KO.out.lt
      have hO9:=k9.lt
      by_cases hC:C=0
      · have Hs1:=hide (Hsn.out.trans (Hgd.out hC))
        have d0:=b9.cell 0
        have d1:=b9.cell 1
        have o0:=k9.cell 0
        have o1:=k9.cell 1
        have o0f:=k9.frozen 0
        have o1f:=k9.frozen 1
        simp only [List.getElem?_cons_zero,List.getElem?_cons_succ] at d0 d1 o0 o1
        have K9:=hide k9
        have X9:=hide x9
        have HB9:=hide hB9
        clear k9 x9 hB9 hb9 b9 Hgd Hbd Hsm Hsn Xx KO
        subst hC
        go_wp2
        go_roundw
        case rel =>
          refine ⟨i+1,a9,c9,base9,hi9,by omega,by go_num,by rw [Hs1.out];go_num,?_,?_,by omega,.inl (by omega),?_⟩
          · rw [Hs1.out];exact (K9.out.set 0 _).set 1 _
          · rw [Hs1.out];exact (X9.out.old (by omega) _ _).old (by omega) _ _
          · exact (HB9.out.setCell (p:=⟨w3.heap.size,0,none⟩) (show w2.heap.size<=w3.heap.size by omega) _).setCell (p:=⟨w3.heap.size,1,none⟩) (show w2.heap.size<=w3.heap.size by omega) _
        case measure=>simp [intOf];omega
      · have Hs1:=hide (Hsn.out.trans (Hbd.out hC))
        have K9:=hide k9
        have X9:=hide (Xx.out.below hb9 (Nat.le_refl _))
        have HB9:=hide hB9
        have hCb:(C == 0)=false:=by rw [beq_eq_false_iff_ne];exact hC
        clear k9 x9 hB9 hb9 b9 Hgd Hbd Hsm Hsn Xx KO hC
        go_wp2
        go_roundw
        case rel =>
          refine ⟨i+1,a,c,base,hi,by omega,by go_num,by rw [Hs1.out],?_,?_,hbase,hdis,HB9.out⟩
          · rw [Hs1.out];exact K9.out
          · rw [Hs1.out];exact X9.out
        case measure=>simp [intOf];omega
    · have ei:i=ts.length:=by omega
      subst ei
      rw [List.take_length] at kO x ⊢
      obtain ⟨s,hs⟩:∃ s,alA e l ts=s:=⟨_,rfl⟩
      rw [hs] at kO x ⊢
      have Hs:=hide hs
      clear hs
      obtain ⟨P,n⟩:=s
      simp only at kO x ⊢
      have kR:=KR.out.below hb KR.out.lt
      have d0:=kO.cell 0
      have d1:=kO.cell 1
      have r0:=kR.cell 0
      have r1:=kR.cell 1
      have r0f:=kR.frozen 0
      have r1f:=kR.frozen 1
      simp only [List.getElem?_cons_zero,List.getElem?_cons_succ] at d0 d1 r0 r1
      have hs2:=HS2.out
      have X9:=hide (((x.old (b:=w.heap.size+1) (by omega) 0 (.int .i64 e)).old (b:=w.heap.size+1) (by omega) 1 (.slice a P.length c)).own.mono (show w.heap.size<=base by omega))
      have HB9:=hide (((Hb2.out.trans (hb.mono Hb2.out.size)).setCell (p:=⟨w.heap.size+1,0,none⟩) (show w.heap.size<=w.heap.size+1 by omega) (.int .i64 e)).setCell (p:=⟨w.heap.size+1,1,none⟩) (show w.heap.size<=w.heap.size+1 by omega) (.slice a P.length c))
      clear kO x hb kR hs2
      go_wp2
      refine bodyPost_ret (v:=.tuple #[.agg #[.int .i64 e,.slice a P.length c],.int .i64 (n:Int)]) (by simp [results,Tryz.f24,go_sem,r0,r1]) rfl ?_
      rw [Hs.out]
      exact ⟨_,rfl,X9.out,HB9.out⟩
end Go.Proofs.YthehfkafcdociaaGreatDoor
