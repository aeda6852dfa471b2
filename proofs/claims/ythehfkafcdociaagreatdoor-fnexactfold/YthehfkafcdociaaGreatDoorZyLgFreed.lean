/- The landed code's account in the next epoch. -/
import Derived.Test.YthehfkafcdociaaGreatDoorZyLgAllS
set_option maxRecDepth 20000
set_option maxHeartbeats 4000000
namespace Go.Proofs.YthehfkafcdociaaGreatDoor
open Go.RowKit
set_option linter.unusedVariables false
theorem implAll_any (e:Int) (v vt:Value) (l:List Ac) (ts:List Tx5) (w:World) (hgh:Gh w) (hr:RdA w v l) (hrt:RdT w vt ts) (hl:l.length<=3999999) (hall:∀ a ∈ l,a.1.size<=maxLen/\a.2.2.2.2.length<=3999999) (hts:ts.length<=4000000) (hta:∀ t ∈ ts,t.2.1.size<=maxLen/\t.2.2.1.size<=maxLen) :
    Calls Tryz.prog 61 #[lgV e v,vt] w fun en w'=>∃ v',en=.returned (.tuple #[lgV e v',.int .i64 ((alA e l ts).2:Int)])/\OwnA w.heap.size w' v' (alA e l ts).1/\Below w.heap.size w w':=by
  obtain ⟨av,cv,rfl⟩:=hr.shape
  obtain ⟨at_,ct,rfl⟩:=hrt.shape
  have hall2:∀ a ∈ l,a.2.2.2.2.length<=4000000:=fun a ha=>by have:=hall a ha;omega
  simp only [lgV] at *
  obtain ⟨w2,hw2⟩:∃ w2,(w.alloc (.cells #[.int .i64 e,.slice av l.length cv] 36)).alloc (.cells #[.int .i64 0,.slice none 0 0] 36)=w2:=⟨_,rfl⟩
  have hs2:w2.heap.size=w.heap.size+2:=by rw [<- hw2];simp
  have hb2:Below w.heap.size w w2:=by rw [<- hw2];exact ((Below.refl _ w).alloc (Nat.le_refl _) _).alloc (by simp) _
  have kA:Blk w2 w.heap.size 36 [.int .i64 e,.slice av l.length cv]:=by
    rw [<- hw2]
    exact (Blk.new w 36 [.int .i64 e,.slice av l.length cv]).below ((Below.refl (w.heap.size+1) _).alloc (by simp) _) (by omega)
  have kR:Blk w2 (w.heap.size+1) 36 [.int .i64 0,.slice none 0 0]:=by
    rw [<- hw2]
    have h:=Blk.new (w.alloc (.cells #[.int .i64 e,.slice av l.length cv] 36)) 36 [.int .i64 0,.slice none 0 0]
    simp only [World.size_alloc] at h
    exact h
  have HC:=hide (implCopiedLg_any e (.slice av l.length cv) l w2 (hr.below hb2 (Nat.le_refl _)) (by omega) hall2)
  simp only [lgV] at HC
  have HS2:=hide hs2
  have Hgh:=hide hgh
  clear hgh
  have Hb2:=hide hb2
  have KR:=hide kR
  have Hrt:=hide (hrt.below hb2 (Nat.le_refl _))
  have Hfew:=hide (fun k=>alA_few (e:=e) (ts.take k) hl hall)
  have Hta:=hide hta
  have c0:=kA.cell 0
  have c1:=kA.cell 1
  simp only [List.getElem?_cons_zero,List.getElem?_cons_succ] at c0 c1
  clear hr hrt hb2 kA kR hall hall2 hta hs2
  go_enter Tryz.func61,Tryz.ntmps61
  go_wp2_with fail
  refine HC.out.mono ?_
  rintro en w3 ⟨v3,rfl,o3,hb3⟩
  obtain ⟨a3,c3,rfl⟩:=o3.rd.shape
  obtain ⟨w4,hw4⟩:∃ w4,w3.alloc (.cells #[.int .i64 e,.slice a3 l.length c3] 36)=w4:=⟨_,rfl⟩
  have b4:Below w3.heap.size w3 w4:=by rw [<- hw4];exact (Below.refl _ w3).alloc (Nat.le_refl _) _
  have K4:Hid (Blk w4 w3.heap.size 36 [.int .i64 e,.slice a3 l.length c3]):=hide (by rw [<- hw4];exact Blk.new w3 _ _)
  have X4:=hide (o3.ox.below b4 (Nat.le_refl _))
  have B4:=hide (hb3.trans (b4.mono hb3.size))
  have hz3:=hb3.size
  clear o3 hb3 b4 c0 c1 hw2
  go_wp2
  go_loopw [7,16] (fun nv iv wr=>∃ (i:Nat) (a:Option Addr) (c base hi:Nat),i<=ts.length/\iv=.int .i64 (i:Int)/\nv=.int .i64 ((alA e l (ts.take i)).2:Int)/\Blk wr w3.heap.size 36 [.int .i64 e,.slice a (alA e l (ts.take i)).1.length c]/\OwnX base hi wr (.slice a (alA e l (ts.take i)).1.length c) (alA e l (ts.take i)).1/\w2.heap.size<=base/\(w3.heap.size < base\/hi<=w3.heap.size)/\Below w2.heap.size w2 wr) (fun _ iv _=>ts.length - (intOf iv).toNat)
  case atStart=>exact ⟨0,a3,c3,w2.heap.size,w3.heap.size,by omega,rfl,rfl,K4.out,X4.out,Nat.le_refl _,.inr (Nat.le_refl _),B4.out⟩
  case round =>
    obtain ⟨i,a,c,base,hi,hi1,rfl,rfl,kO,x,hbase,hdis,hb⟩:=hrel
    clear K4 X4 B4 hw4
    have hwr:=hb.size
    have hO:=kO.lt
    have few:=Hfew.out i
    have hnl:=alA_len e l (ts.take i)
    have htk:(ts.take i).length<=ts.length:=by simp;omega
    by_cases hlt:i < ts.length
    · obtain ⟨b,off,rfl,hc1,hc2,hbw,hT⟩:=Hrt.out.at hlt
      have htx:=Hta.out ts[i] (List.getElem_mem _)
      have Hsn:=hide (alA_snoc e l ts i hlt)
      obtain ⟨s,hs⟩:∃ s,alA e l (ts.take i)=s:=⟨_,rfl⟩
      rw [hs] at kO x few hnl Hsn ⊢
      obtain ⟨P,n⟩:=s
      simp only at kO x few hnl ⊢
      have HA:=hide (fun V v hg h=>implApply_any e v P ts[i] V hg h few.1 few.2 htx.1 htx.2)
      simp only [ApPost] at HA
      have Hgd:=hide (alS_good (e:=e) (s:=(P,n)) (t:=ts[i]))
      have Hbd:=hide (alS_bad (e:=e) (s:=(P,n)) (t:=ts[i]))
      have Hsm:=hide (apA_same (e:=e) (l:=P) (t:=ts[i]))
      simp only at Hgd Hbd
      generalize ts[i]=t at hT HA Hgd Hbd Hsm Hsn
      generalize (apA e P t).1=A at HA Hgd Hsm
      generalize (apA e P t).2=C at HA Hgd Hbd Hsm
      obtain ⟨p0,p1,p2,p3,p4⟩:=hT
      have q0:=(hb.cell (p:=⟨b,off+i * 5,none⟩) hbw).trans p0
      have q1:=(hb.cell (p:=⟨b,off+i * 5+1,none⟩) hbw).trans p1
      have q2:=(hb.cell (p:=⟨b,off+i * 5+2,none⟩) hbw).trans p2
      have q3:=(hb.cell (p:=⟨b,off+i * 5+3,none⟩) hbw).trans p3
      have q4:=(hb.cell (p:=⟨b,off+i * 5+4,none⟩) hbw).trans p4
      obtain ⟨kd,fm,tn,am,nc⟩:=t
      simp only [lgV,txV] at q0 q1 q2 q3 q4 HA
      obtain ⟨w5,hw5⟩:∃ w5,wr.alloc (.cells #[.int .i64 kd,.string fm,.string tn,.int .i64 am,.int .i64 nc] 117)=w5:=⟨_,rfl⟩
      have hb5:Below wr.heap.size wr w5:=by rw [<- hw5];exact (Below.refl _ wr).alloc (Nat.le_refl _) _
      have kT:Blk w5 wr.heap.size 117 [.int .i64 kd,.string fm,.string tn,.int .i64 am,.int .i64 nc]:=by rw [<- hw5];exact Blk.new wr _ _
      replace kO:=kO.below hb5 kO.lt
      replace x:=x.below hb5 (Nat.le_refl _)
      replace hb:=hb.trans (hb5.mono hwr)
      have hwr5:=hb5.size
      have hBw:=Hb2.out.trans (hb.mono Hb2.out.size)
      have hli:(i:Int) < (ts.length:Int):=by omega
      have hnb:n<=4000000:=by omega
      have HA5:=hide (HA.out w5 _ (Hgh.out.below hBw) x.rd)
      have t0:=kT.cell 0
      have t1:=kT.cell 1
      have t2:=kT.cell 2
      have t3:=kT.cell 3
      have t4:=kT.cell 4
      have u0:=kO.cell 0
      have u1:=kO.cell 1
      simp only [List.getElem?_cons_zero,List.getElem?_cons_succ] at t0 t1 t2 t3 t4 u0 u1
      have KO:=hide kO
      have Hb:=hide hb
      have hO5:=kO.lt
      clear kO x hb hb5 kT hBw p0 p1 p2 p3 p4 few htx hs HA
      go_wp2_with fail
      refine HA5.out.mono ?_
      rintro e' wA ⟨vA,rfl,oA,hbA⟩
      obtain ⟨a9,c9,rfl⟩:=oA.rd.shape
      obtain ⟨w9,hw9⟩:∃ w9,wA.alloc (.cells #[.int .i64 e,.slice a9 A.length c9] 36)=w9:=⟨_,rfl⟩
      have bz:Below wA.heap.size wA w9:=by rw [<- hw9];exact (Below.refl _ wA).alloc (Nat.le_refl _) _
      have b9:Blk w9 wA.heap.size 36 [.int .i64 e,.slice a9 A.length c9]:=by rw [<- hw9];exact Blk.new wA _ _
      have x9:=oA.ox.below bz (Nat.le_refl _)
      have hb9:=hbA.trans (bz.mono hbA.size)
      clear t0 t1 t2 t3 t4 u0 u1 oA bz hw5 HA5
      clear q0 q1 q2 q3 q4
      have hB9:=Hb.out.trans (hb9.mono (by omega))
      have k9:=KO.out.below hb9 KO.out.lt
      have hO9:=k9.lt
      have d0:=b9.cell 0
      have d1:=b9.cell 1
      have o0:=k9.cell 0
      have o1:=k9.cell 1
      have o0f:=k9.frozen 0
      have o1f:=k9.frozen 1
      simp only [List.getElem?_cons_zero,List.getElem?_cons_succ] at d0 d1 o0 o1
      have K9:=hide k9
      have X9:=hide x9
      have HB9:=hide hB9
      clear k9 x9 hB9 hb9 b9 KO hbA
      by_cases hC:C=0
      · have Hs1:=hide (Hsn.out.trans (Hgd.out hC))
        clear Hgd Hbd Hsm Hsn
        subst hC
        go_wp2
        go_roundw
        case rel =>
          refine ⟨i+1,a9,c9,w5.heap.size,wA.heap.size,by omega,by go_num,by rw [Hs1.out];go_num,?_,?_,by omega,.inl (by omega),?_⟩
          · rw [Hs1.out];exact (K9.out.set 0 _).set 1 _
          · rw [Hs1.out];exact (X9.out.old (by omega) _ _).old (by omega) _ _
          · exact (HB9.out.setCell (p:=⟨w3.heap.size,0,none⟩) (show w2.heap.size<=w3.heap.size by omega) _).setCell (p:=⟨w3.heap.size,1,none⟩) (show w2.heap.size<=w3.heap.size by omega) _
        case measure=>simp [intOf];omega
      · have hAP:A=P:=Hsm.out hC
        have Hs1:=hide (Hsn.out.trans (Hbd.out hC))
        have hCb:(C == 0)=false:=by rw [beq_eq_false_iff_ne];exact hC
        clear Hgd Hbd Hsm Hsn hC
        subst hAP
        go_wp2
        go_roundw
        case rel =>
          refine ⟨i+1,a9,c9,w5.heap.size,wA.heap.size,by omega,by go_num,by rw [Hs1.out],?_,?_,by omega,.inl (by omega),?_⟩
          · rw [Hs1.out];exact (K9.out.set 0 _).set 1 _
          · rw [Hs1.out];exact (X9.out.old (by omega) _ _).old (by omega) _ _
          · exact (HB9.out.setCell (p:=⟨w3.heap.size,0,none⟩) (show w2.heap.size<=w3.heap.size by omega) _).setCell (p:=⟨w3.heap.size,1,none⟩) (show w2.heap.size<=w3.heap.size by omega) _
        case measure=>simp [intOf];omega
    · have ei:i=ts.length:=by omega
      subst ei
      rw [List.take_length] at kO x ⊢
      obtain ⟨s,hs⟩:∃ s,alA e l ts=s:=⟨_,rfl⟩
      rw [hs] at kO x ⊢
      have Hs:=hide hs
      clear hs
      obtain ⟨P,n⟩:=s
      simp only at kO x ⊢
      have kR:=KR.out.below hb KR.out.lt
      have d0:=kO.cell 0
      have d1:=kO.cell 1
      have r0:=kR.cell 0
      have r1:=kR.cell 1
      have r0f:=kR.frozen 0
      have r1f:=kR.frozen 1
      simp only [List.getElem?_cons_zero,List.getElem?_cons_succ] at d0 d1 r0 r1
      have hs2:=HS2.out
      have X9:=hide (((x.old (b:=w.heap.size+1) (by omega) 0 (.int .i64 e)).old (b:=w.heap.size+1) (by omega) 1 (.slice a P.length c)).own.mono (show w.heap.size<=base by omega))
      have HB9:=hide (((Hb2.out.trans (hb.mono Hb2.out.size)).setCell (p:=⟨w.heap.size+1,0,none⟩) (show w.heap.size<=w.heap.size+1 by omega) (.int .i64 e)).setCell (p:=⟨w.heap.size+1,1,none⟩) (show w.heap.size<=w.heap.size+1 by omega) (.slice a P.length c))
      clear kO x hb kR hs2
      go_wp2
      refine bodyPost_ret (v:=.tuple #[.agg #[.int .i64 e,.slice a P.length c],.int .i64 (n:Int)]) (by simp [results,Tryz.f61,go_sem,r0,r1]) rfl ?_
      rw [Hs.out]
      exact ⟨_,rfl,X9.out,HB9.out⟩
theorem implFreed_any (a:Ac) (lv:Value) (e:Int) (w:World) (hr:RdL w lv a.2.2.2.2) (hl:a.2.2.2.2.length<=4000000) :
    Calls Tryz.prog 132 #[acV a lv,.int .i64 e] w fun en w'=>∃ lv',en=.returned (acV (frA e a) lv')/\OwnL w.heap.size w' lv' (stL e a.2.2.2.2)/\Below w.heap.size w w':=by
  obtain ⟨nm,fr,no,st,ls⟩:=a
  obtain ⟨av,cv,rfl⟩:=hr.shape
  simp only [acV,frA] at *
  obtain ⟨w2,hw2⟩:∃ w2,(w.alloc (.cells #[.string nm,.int .i64 fr,.int .i64 no,.int .i64 st,.slice av ls.length cv] 122)).alloc (.cells #[.string { data:=#[] },.int .i64 0,.int .i64 0,.int .i64 0,.slice none 0 0] 122)=w2:=⟨_,rfl⟩
  have hs2:w2.heap.size=w.heap.size+2:=by rw [<- hw2];simp
  have hb2:Below w.heap.size w w2:=by rw [<- hw2];exact ((Below.refl _ w).alloc (Nat.le_refl _) _).alloc (by simp) _
  have k1:Blk w2 w.heap.size 122 [.string nm,.int .i64 fr,.int .i64 no,.int .i64 st,.slice av ls.length cv]:=by
    rw [<- hw2]
    exact (Blk.new w _ _).below ((Below.refl (w.heap.size+1) _).alloc (by simp) _) (by omega)
  have k2:Blk w2 (w.heap.size+1) 122 acZ:=by
    rw [<- hw2]
    have h:=Blk.new (w.alloc (.cells #[.string nm,.int .i64 fr,.int .i64 no,.int .i64 st,.slice av ls.length cv] 122)) 122 acZ
    simp only [World.size_alloc] at h
    exact h
  have Hr:=hide hr
  have Hb2:=hide hb2
  have K1:=hide k1
  have K2:=hide k2
  have c4:=k1.cell 4
  simp only [List.getElem?_cons_zero,List.getElem?_cons_succ] at c4
  clear hr hb2 k1 k2
  go_enter Tryz.func132,Tryz.ntmps132
  go_wp2
  go_loopw [5,11] (fun sv iv wr=>∃ (k:Nat),k<=ls.length/\iv=.int .i64 (k:Int)/\OwnL (w.heap.size+2) wr sv (stL e (ls.take k))/\Below w.heap.size w wr/\Blk wr w.heap.size 122 [.string nm,.int .i64 (frF e fr (ls.take k)),.int .i64 no,.int .i64 st,.slice av ls.length cv]/\Blk wr (w.heap.size+1) 122 acZ) (fun _ iv _=>ls.length - (intOf iv).toNat)
  case atStart=>exact ⟨0,by omega,rfl,own_noneL w2 _,Hb2.out,K1.out,K2.out⟩
  case round =>
    obtain ⟨k,hk,rfl,ho,hb,j1,j2⟩:=hrel
    clear K1 K2 c4 hw2
    have hbs:=hb.size
    have hs:=j2.lt
    by_cases hlt:k < ls.length
    · obtain ⟨b,off,rfl,hc1,hc2,hbw,e0,e1⟩:=Hr.out.at hlt
      have f0:=(hb.cell (p:=⟨b,off+k * 2,none⟩) hbw).trans e0
      have f1:=(hb.cell (p:=⟨b,off+k * 2+1,none⟩) hbw).trans e1
      have HF:=hide (frF_snoc e fr ls k hlt)
      have HS:=hide (stL_snoc e ls k hlt)
      have hsl:=stL_len e (ls.take k)
      have htl:(ls.take k).length<=k:=by simp;omega
      generalize ls[k]=x at f0 f1 e0 e1 HF HS
      obtain ⟨xa,xt⟩:=x
      simp only at f0 f1 HF HS
      have hli:(k:Int) < (ls.length:Int):=by omega
      obtain ⟨w3,hw3⟩:∃ w3,wr.alloc (.cells #[.int .i64 xa,.int .i64 xt] 124)=w3:=⟨_,rfl⟩
      have hb3:Below w.heap.size w w3:=by rw [<- hw3];exact hb.alloc hbs _
      have ho3:OwnL (w.heap.size+2) w3 u5 (stL e (ls.take k)):=by rw [<- hw3];exact ho.alloc _
      have m1:Blk w3 w.heap.size 122 [.string nm,.int .i64 (frF e fr (ls.take k)),.int .i64 no,.int .i64 st,.slice (some ⟨b,off,none⟩) ls.length cv]:=by rw [<- hw3];exact j1.alloc _
      have m2:Blk w3 (w.heap.size+1) 122 acZ:=by rw [<- hw3];exact j2.alloc _
      have m3:Blk w3 wr.heap.size 124 [.int .i64 xa,.int .i64 xt]:=by rw [<- hw3];exact Blk.new wr _ _
      have hs3:w3.heap.size=wr.heap.size+1:=by rw [<- hw3];simp
      have d1:=m1.cell 1
      have q1:=m1.frozen 1
      have x0:=m3.cell 0
      have x1:=m3.cell 1
      simp only [List.getElem?_cons_zero,List.getElem?_cons_succ] at d1 x0 x1
      have Ho:=hide ho3
      have Hb:=hide hb3
      have J1:=hide m1
      have J2:=hide m2
      clear e0 e1 ho hb j1 j2 m1 m2 m3 ho3 hb3
      by_cases h1:xt<=e
      · rw [if_pos h1] at HF HS
        generalize frF e fr (ls.take k)=F at HF d1 J1
        go_wp2
        go_roundw
        case rel =>
          refine ⟨k+1,by omega,by go_num,?_,?_,?_,?_⟩
          · rw [HS.out];exact row_set Ho.out _ _ _ (fun j hj=>by have:=Ho.out.ge j hj;omega)
          · exact Hb.out.setCell (p:=⟨w.heap.size,1,none⟩) (Nat.le_refl _) _
          · rw [HF.out];exact J1.out.set 1 _
          · exact J2.out.other _ _ _ (by omega)
        case measure=>simp [intOf];omega
      · rw [if_neg h1] at HF HS
        go_wp2_with (at_builtin;refine app_ownLg _ rfl _ _ rfl (w.heap.size+2) _ _ (stL e (ls.take k)) [(xa,xt)] rfl rfl (Ho.out.alloc _) (rd_one_lv _ _ xa xt (by first | rfl | omega)) (by simp;omega) (by first | omega | (simp;omega)) ?_;intro v1 w1 ho1 hg1)
        have HB:=hide ((Hb.out.alloc (by omega) (.cells #[.int .i64 xa,.int .i64 xt] 124)).grown hg1 (by simp;omega) (fun k hk=>by have:=Ho.out.ge k hk;omega))
        go_roundw
        case rel =>
          refine ⟨k+1,by omega,by go_num,?_,HB.out,?_,?_⟩
          · rw [HS.out];exact ho1
          · rw [HF.out];exact (J1.out.alloc _).kept' hg1 (fun e=>by have:=Ho.out.ge _ e.symm;omega)
          · exact (J2.out.alloc _).kept' hg1 (fun e=>by have:=Ho.out.ge _ e.symm;omega)
        case measure=>simp [intOf];omega
    · have ek:k=ls.length:=by omega
      subst ek
      rw [List.take_length] at ho j1
      obtain ⟨a4,cv4,rfl⟩:=ho.rd.shape
      have d0:=j1.cell 0
      have d1:=j1.cell 1
      have d2:=j1.cell 2
      have d3:=j1.cell 3
      have d4:=j1.cell 4
      have q4:=j1.frozen 4
      have r0:=j2.cell 0
      have r1:=j2.cell 1
      have r2:=j2.cell 2
      have r3:=j2.cell 3
      have r4:=j2.cell 4
      have g0:=j2.frozen 0
      have g1:=j2.frozen 1
      have g2:=j2.frozen 2
      have g3:=j2.frozen 3
      have g4:=j2.frozen 4
      simp only [acZ,List.getElem?_cons_zero,List.getElem?_cons_succ] at d0 d1 d2 d3 d4 r0 r1 r2 r3 r4
      have Ho:=hide ho
      have Hb:=hide hb
      have hge:=ho.ge
      clear ho hb j1 j2
      go_wp2
      refine bodyPost_ret (v:=.agg #[.string nm,.int .i64 (frF e fr ls),.int .i64 no,.int .i64 st,.slice a4 (stL e ls).length cv4]) (by simp [results,Tryz.f132,go_sem,r0,r1,r2,r3,r4]) rfl ?_
      have n1:∀ k,(Value.slice a4 (stL e ls).length cv4).ownBlock=some k->k ≠ w.heap.size:=fun k hk=>by have:=hge k hk;omega
      have n2:∀ k,(Value.slice a4 (stL e ls).length cv4).ownBlock=some k->k ≠ w.heap.size+1:=fun k hk=>by have:=hge k hk;omega
      refine ⟨_,rfl,row_set (row_set (row_set (row_set (row_set (row_set (Ho.out.mono (by omega)) _ _ _ n1) _ _ _ n2) _ _ _ n2) _ _ _ n2) _ _ _ n2) _ _ _ n2,?_⟩
      exact (((((Hb.out.setCell (p:=⟨w.heap.size,4,none⟩) (by show w.heap.size<=w.heap.size;omega) _).setCell (p:=⟨w.heap.size+1,0,none⟩) (by show w.heap.size<=w.heap.size+1;omega) _).setCell (p:=⟨w.heap.size+1,1,none⟩) (by show w.heap.size<=w.heap.size+1;omega) _).setCell (p:=⟨w.heap.size+1,2,none⟩) (by show w.heap.size<=w.heap.size+1;omega) _).setCell (p:=⟨w.heap.size+1,3,none⟩) (by show w.heap.size<=w.heap.size+1;omega) _).setCell (p:=⟨w.heap.size+1,4,none⟩) (by show w.heap.size<=w.heap.size+1;omega) _
end Go.Proofs.YthehfkafcdociaaGreatDoor
