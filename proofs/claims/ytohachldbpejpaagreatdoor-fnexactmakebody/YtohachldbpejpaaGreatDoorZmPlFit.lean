/- Orders of a pool that fit, one behind the other, on both sides. -/
import Derived.Test.YtohachldbpejpaaGreatDoorZmVsSet
set_option maxRecDepth 20000
set_option maxHeartbeats 4000000
namespace Go.Proofs.YtohachldbpejpaaGreatDoor
open Go.RowKit
set_option linter.unusedVariables false
theorem neA_few {e:Int} {l:List Ac} (hl:l.length<=3999999) (hall:∀ a ∈ l,a.1.size<=maxLen/\a.2.2.2.2.length<=3999999) :
    (neA e l).2.length<=3999999/\∀ a ∈ (neA e l).2,a.1.size<=maxLen/\a.2.2.2.2.length<=3999999:=by
  rcases neA_is e l with h | h
  · rw [h]
    exact ⟨hl,hall⟩
  · refine ⟨by have:=(acs_parts h).1;omega,fun a ha=>?_⟩
    have hp:=ac_parts (acs_all h a ha)
    have hn:=hp.1
    unfold nmB inB at hn
    simp only [Bool.and_eq_true,decide_eq_true_eq] at hn
    exact ⟨by unfold maxLen;omega,by omega⟩
structure Bd where
  ts:List Tx5
  en:Bool
  nx:List Vl
  rt:ByteArray
def bdC (e:Int) (z:List Ac) (l:List Bk) (C:List Nat) (ts:List Tx5) (most:Nat):Bd :=
  if C.any (enAt l)=true then ⟨[],false,[],{ data:=#[] }⟩
  else if C.length=1 then ⟨(gdA e (foL e z l C) ts most).2,true,setA (neA e (gdA e (foL e z l C) ts most).1).1 (neA e (gdA e (foL e z l C) ts most).1).2,srB (neA e (gdA e (foL e z l C) ts most).1).1 (neA e (gdA e (foL e z l C) ts most).1).2⟩
  else ⟨(gdA e (foL e z l C) ts most).2,false,[],{ data:=#[] }⟩
theorem bdC_x {e:Int} {z:List Ac} {l:List Bk} {C:List Nat} {ts:List Tx5} {most:Nat} (h:¬ C.any (enAt l)=true) :
    (C.length=1->bdC e z l C ts most=⟨(gdA e (foL e z l C) ts most).2,true,setA (neA e (gdA e (foL e z l C) ts most).1).1 (neA e (gdA e (foL e z l C) ts most).1).2,srB (neA e (gdA e (foL e z l C) ts most).1).1 (neA e (gdA e (foL e z l C) ts most).1).2⟩) /\
    (¬ C.length=1->bdC e z l C ts most=⟨(gdA e (foL e z l C) ts most).2,false,[],{ data:=#[] }⟩) :=
  ⟨fun h1=>by unfold bdC;rw [if_neg h,if_pos h1],fun h1=>by unfold bdC;rw [if_neg h,if_neg h1]⟩
def bdA (e:Int) (z:List Ac) (l:List Bk) (id:Int) (ts:List Tx5) (most:Nat):Bd × Bool :=
  if treeB l=true/\(chT l id=[]->id=-1) then (bdC e z l (chT l id) ts most,true) else (⟨[],false,[],{ data:=#[] }⟩,false)
theorem implAll_any (e:Int) (v vt:Value) (l:List Ac) (ts:List Tx5) (w:World) (hgh:Gh w) (hr:RdA w v l) (hrt:RdT w vt ts) (hl:l.length<=3999999) (hall:∀ a ∈ l,a.1.size<=maxLen/\a.2.2.2.2.length<=3999999) (hts:ts.length<=4000000) (hta:∀ t ∈ ts,t.2.1.size<=maxLen/\t.2.2.1.size<=maxLen) :
    Calls Tryz.prog 10 #[lgV e v,vt] w fun en w'=>∃ v',en=.returned (.tuple #[lgV e v',.int .i64 ((alA e l ts).2:Int)])/\OwnA w.heap.size w' v' (alA e l ts).1/\Below w.heap.size w w':=by
  obtain ⟨av,cv,rfl⟩:=hr.shape
  obtain ⟨at_,ct,rfl⟩:=hrt.shape
  have hall2:∀ a ∈ l,a.2.2.2.2.length<=4000000:=fun a ha=>by have:=hall a ha;omega
  simp only [lgV] at *
  obtain ⟨w2,hw2⟩:∃ w2,(w.alloc (.cells #[.int .i64 e,.slice av l.length cv] 26)).alloc (.cells #[.int .i64 0,.slice none 0 0] 26)=w2:=⟨_,rfl⟩
  have hs2:w2.heap.size=w.heap.size+2:=by rw [<- hw2];simp
  have hb2:Below w.heap.size w w2:=by rw [<- hw2];exact ((Below.refl _ w).alloc (Nat.le_refl _) _).alloc (by simp) _
  have kA:Blk w2 w.heap.size 26 [.int .i64 e,.slice av l.length cv]:=by
    rw [<- hw2]
    exact (Blk.new w 26 [.int .i64 e,.slice av l.length cv]).below ((Below.refl (w.heap.size+1) _).alloc (by simp) _) (by omega)
  have kR:Blk w2 (w.heap.size+1) 26 [.int .i64 0,.slice none 0 0]:=by
    rw [<- hw2]
    have h:=Blk.new (w.alloc (.cells #[.int .i64 e,.slice av l.length cv] 26)) 26 [.int .i64 0,.slice none 0 0]
    simp only [World.size_alloc] at h
    exact h
  have HC:=hide (implCopiedLg_any e (.slice av l.length cv) l w2 (hr.below hb2 (Nat.le_refl _)) (by omega) hall2)
  simp only [lgV] at HC
  have HS2:=hide hs2
  have Hgh:=hide hgh
  clear hgh
  have Hb2:=hide hb2
  have KR:=hide kR
  have Hrt:=hide (hrt.below hb2 (Nat.le_refl _))
  have Hfew:=hide (fun k=>alA_few (e:=e) (ts.take k) hl hall)
  have Hta:=hide hta
  have c0:=kA.cell 0
  have c1:=kA.cell 1
  simp only [List.getElem?_cons_zero,List.getElem?_cons_succ] at c0 c1
  clear hr hrt hb2 kA kR hall hall2 hta hs2
  go_enter Tryz.func10,Tryz.ntmps10
  go_wp2_with fail
  refine HC.out.mono ?_
  rintro en w3 ⟨v3,rfl,o3,hb3⟩
  obtain ⟨a3,c3,rfl⟩:=o3.rd.shape
  obtain ⟨w4,hw4⟩:∃ w4,w3.alloc (.cells #[.int .i64 e,.slice a3 l.length c3] 26)=w4:=⟨_,rfl⟩
  have b4:Below w3.heap.size w3 w4:=by rw [<- hw4];exact (Below.refl _ w3).alloc (Nat.le_refl _) _
  have K4:Hid (Blk w4 w3.heap.size 26 [.int .i64 e,.slice a3 l.length c3]):=hide (by rw [<- hw4];exact Blk.new w3 _ _)
  have X4:=hide (o3.ox.below b4 (Nat.le_refl _))
  have B4:=hide (hb3.trans (b4.mono hb3.size))
  have hz3:=hb3.size
  clear o3 hb3 b4 c0 c1 hw2
  go_wp2
  go_loopw [7,16] (fun nv iv wr=>∃ (i:Nat) (a:Option Addr) (c base hi:Nat),i<=ts.length/\iv=.int .i64 (i:Int)/\nv=.int .i64 ((alA e l (ts.take i)).2:Int)/\Blk wr w3.heap.size 26 [.int .i64 e,.slice a (alA e l (ts.take i)).1.length c]/\OwnX base hi wr (.slice a (alA e l (ts.take i)).1.length c) (alA e l (ts.take i)).1/\w2.heap.size<=base/\(w3.heap.size < base\/hi<=w3.heap.size)/\Below w2.heap.size w2 wr) (fun _ iv _=>ts.length - (intOf iv).toNat)
  case atStart=>exact ⟨0,a3,c3,w2.heap.size,w3.heap.size,by omega,rfl,rfl,K4.out,X4.out,Nat.le_refl _,.inr (Nat.le_refl _),B4.out⟩
  case round =>
    obtain ⟨i,a,c,base,hi,hi1,rfl,rfl,kO,x,hbase,hdis,hb⟩:=hrel
    clear K4 X4 B4 hw4
    have hwr:=hb.size
    have hO:=kO.lt
    have few:=Hfew.out i
    have hnl:=alA_len e l (ts.take i)
    have htk:(ts.take i).length<=ts.length:=by simp;omega
    by_cases hlt:i < ts.length
    · obtain ⟨b,off,rfl,hc1,hc2,hbw,hT⟩:=Hrt.out.at hlt
      have htx:=Hta.out ts[i] (List.getElem_mem _)
      have Hsn:=hide (alA_snoc e l ts i hlt)
      obtain ⟨s,hs⟩:∃ s,alA e l (ts.take i)=s:=⟨_,rfl⟩
      rw [hs] at kO x few hnl Hsn ⊢
      obtain ⟨P,n⟩:=s
      simp only at kO x few hnl ⊢
      have HA:=hide (fun V v hg h=>implApply_any e v P ts[i] V hg h few.1 few.2 htx.1 htx.2)
      simp only [ApPost] at HA
      have Hgd:=hide (alS_good (e:=e) (s:=(P,n)) (t:=ts[i]))
      have Hbd:=hide (alS_bad (e:=e) (s:=(P,n)) (t:=ts[i]))
      have Hsm:=hide (apA_same (e:=e) (l:=P) (t:=ts[i]))
      simp only at Hgd Hbd
      generalize ts[i]=t at hT HA Hgd Hbd Hsm Hsn
      generalize (apA e P t).1=A at HA Hgd Hsm
      generalize (apA e P t).2=C at HA Hgd Hbd Hsm
      obtain ⟨p0,p1,p2,p3,p4⟩:=hT
      have q0:=(hb.cell (p:=⟨b,off+i * 5,none⟩) hbw).trans p0
      have q1:=(hb.cell (p:=⟨b,off+i * 5+1,none⟩) hbw).trans p1
      have q2:=(hb.cell (p:=⟨b,off+i * 5+2,none⟩) hbw).trans p2
      have q3:=(hb.cell (p:=⟨b,off+i * 5+3,none⟩) hbw).trans p3
      have q4:=(hb.cell (p:=⟨b,off+i * 5+4,none⟩) hbw).trans p4
      obtain ⟨kd,fm,tn,am,nc⟩:=t
      simp only [lgV,txV] at q0 q1 q2 q3 q4 HA
      obtain ⟨w5,hw5⟩:∃ w5,wr.alloc (.cells #[.int .i64 kd,.string fm,.string tn,.int .i64 am,.int .i64 nc] 35)=w5:=⟨_,rfl⟩
      have hb5:Below wr.heap.size wr w5:=by rw [<- hw5];exact (Below.refl _ wr).alloc (Nat.le_refl _) _
      have kT:Blk w5 wr.heap.size 35 [.int .i64 kd,.string fm,.string tn,.int .i64 am,.int .i64 nc]:=by rw [<- hw5];exact Blk.new wr _ _
      replace kO:=kO.below hb5 kO.lt
      replace x:=x.below hb5 (Nat.le_refl _)
      replace hb:=hb.trans (hb5.mono hwr)
      have hwr5:=hb5.size
      have hBw:=Hb2.out.trans (hb.mono Hb2.out.size)
      have hli:(i:Int) < (ts.length:Int):=by omega
      have hnb:n<=4000000:=by omega
      have HA5:=hide (HA.out w5 _ (Hgh.out.below hBw) x.rd)
      have t0:=kT.cell 0
      have t1:=kT.cell 1
      have t2:=kT.cell 2
      have t3:=kT.cell 3
      have t4:=kT.cell 4
      have u0:=kO.cell 0
      have u1:=kO.cell 1
      simp only [List.getElem?_cons_zero,List.getElem?_cons_succ] at t0 t1 t2 t3 t4 u0 u1
      have KO:=hide kO
      have Hb:=hide hb
      have hO5:=kO.lt
      clear kO x hb hb5 kT hBw p0 p1 p2 p3 p4 few htx hs HA
      go_wp2_with fail
      refine HA5.out.mono ?_
      rintro e' wA ⟨vA,rfl,oA,hbA⟩
      obtain ⟨a9,c9,rfl⟩:=oA.rd.shape
      obtain ⟨w9,hw9⟩:∃ w9,wA.alloc (.cells #[.int .i64 e,.slice a9 A.length c9] 26)=w9:=⟨_,rfl⟩
      have bz:Below wA.heap.size wA w9:=by rw [<- hw9];exact (Below.refl _ wA).alloc (Nat.le_refl _) _
      have b9:Blk w9 wA.heap.size 26 [.int .i64 e,.slice a9 A.length c9]:=by rw [<- hw9];exact Blk.new wA _ _
      have x9:=oA.ox.below bz (Nat.le_refl _)
      have hb9:=hbA.trans (bz.mono hbA.size)
      clear t0 t1 t2 t3 t4 u0 u1 oA bz hw5 HA5
      clear q0 q1 q2 q3 q4
      have hB9:=Hb.out.trans (hb9.mono (by omega))
      have k9:=KO.out.below hb9 KO.out.lt
      have hO9:=k9.lt
      have d0:=b9.cell 0
      have d1:=b9.cell 1
      have o0:=k9.cell 0
      have o1:=k9.cell 1
      have o0f:=k9.frozen 0
      have o1f:=k9.frozen 1
      simp only [List.getElem?_cons_zero,List.getElem?_cons_succ] at d0 d1 o0 o1
      have K9:=hide k9
      have X9:=hide x9
      have HB9:=hide hB9
      clear k9 x9 hB9 hb9 b9 KO hbA
      by_cases hC:C=0
      · have Hs1:=hide (Hsn.out.trans (Hgd.out hC))
        clear Hgd Hbd Hsm Hsn
        subst hC
        go_wp2
        go_roundw
        case rel =>
          refine ⟨i+1,a9,c9,w5.heap.size,wA.heap.size,by omega,by go_num,by rw [Hs1.out];go_num,?_,?_,by omega,.inl (by omega),?_⟩
          · rw [Hs1.out];exact (K9.out.set 0 _).set 1 _
          · rw [Hs1.out];exact (X9.out.old (by omega) _ _).old (by omega) _ _
          · exact (HB9.out.setCell (p:=⟨w3.heap.size,0,none⟩) (show w2.heap.size<=w3.heap.size by omega) _).setCell (p:=⟨w3.heap.size,1,none⟩) (show w2.heap.size<=w3.heap.size by omega) _
        case measure=>simp [intOf];omega
      · have hAP:A=P:=Hsm.out hC
        have Hs1:=hide (Hsn.out.trans (Hbd.out hC))
        have hCb:(C == 0)=false:=by rw [beq_eq_false_iff_ne];exact hC
        clear Hgd Hbd Hsm Hsn hC
        subst hAP
        go_wp2
        go_roundw
        case rel =>
          refine ⟨i+1,a9,c9,w5.heap.size,wA.heap.size,by omega,by go_num,by rw [Hs1.out],?_,?_,by omega,.inl (by omega),?_⟩
          · rw [Hs1.out];exact (K9.out.set 0 _).set 1 _
          · rw [Hs1.out];exact (X9.out.old (by omega) _ _).old (by omega) _ _
          · exact (HB9.out.setCell (p:=⟨w3.heap.size,0,none⟩) (show w2.heap.size<=w3.heap.size by omega) _).setCell (p:=⟨w3.heap.size,1,none⟩) (show w2.heap.size<=w3.heap.size by omega) _
        case measure=>simp [intOf];omega
    · have ei:i=ts.length:=by omega
      subst ei
      rw [List.take_length] at kO x ⊢
      obtain ⟨s,hs⟩:∃ s,alA e l ts=s:=⟨_,rfl⟩
      rw [hs] at kO x ⊢
      have Hs:=hide hs
      clear hs
      obtain ⟨P,n⟩:=s
      simp only at kO x ⊢
      have kR:=KR.out.below hb KR.out.lt
      have d0:=kO.cell 0
      have d1:=kO.cell 1
      have r0:=kR.cell 0
      have r1:=kR.cell 1
      have r0f:=kR.frozen 0
      have r1f:=kR.frozen 1
      simp only [List.getElem?_cons_zero,List.getElem?_cons_succ] at d0 d1 r0 r1
      have hs2:=HS2.out
      have X9:=hide (((x.old (b:=w.heap.size+1) (by omega) 0 (.int .i64 e)).old (b:=w.heap.size+1) (by omega) 1 (.slice a P.length c)).own.mono (show w.heap.size<=base by omega))
      have HB9:=hide (((Hb2.out.trans (hb.mono Hb2.out.size)).setCell (p:=⟨w.heap.size+1,0,none⟩) (show w.heap.size<=w.heap.size+1 by omega) (.int .i64 e)).setCell (p:=⟨w.heap.size+1,1,none⟩) (show w.heap.size<=w.heap.size+1 by omega) (.slice a P.length c))
      clear kO x hb kR hs2
      go_wp2
      refine bodyPost_ret (v:=.tuple #[.agg #[.int .i64 e,.slice a P.length c],.int .i64 (n:Int)]) (by simp [results,Tryz.f10,go_sem,r0,r1]) rfl ?_
      rw [Hs.out]
      exact ⟨_,rfl,X9.out,HB9.out⟩
structure Agr (N base hi:Nat) (w w':World):Prop where
  os:w'.os=w.os
  tape:w'.tape=w.tape
  output:w'.output=w.output
  size:w.heap.size<=w'.heap.size
  block:∀ g,g < N\/base<=g/\g < hi->w'.heap[g]?=w.heap[g]?
theorem Agr.refl (N base hi:Nat) (w:World):Agr N base hi w w:=⟨rfl,rfl,rfl,Nat.le_refl _,fun _ _=>rfl⟩
theorem Agr.trans {N base hi:Nat} {a b c:World} (h:Agr N base hi a b) (k:Agr N base hi b c):Agr N base hi a c :=
  ⟨k.os.trans h.os,k.tape.trans h.tape,k.output.trans h.output,Nat.le_trans h.size k.size,fun g hg=>(k.block g hg).trans (h.block g hg)⟩
def KpA (N base hi:Nat) (w:World) (v:Value) (P:List Ac):Prop:=N<=w.heap.size/\hi<=w.heap.size/\∀ W,Agr N base hi w W->RdA W v P
theorem KpA.rd {N base hi:Nat} {w:World} {v:Value} {P:List Ac} (h:KpA N base hi w v P):RdA w v P:=h.2.2 w (Agr.refl _ _ _ w)
theorem KpA.agr {N base hi:Nat} {w w':World} {v:Value} {P:List Ac} (h:KpA N base hi w v P) (ha:Agr N base hi w w'):KpA N base hi w' v P :=
  ⟨Nat.le_trans h.1 ha.size,Nat.le_trans h.2.1 ha.size,fun W hW=>h.2.2 W (ha.trans hW)⟩
theorem KpA.below {N base hi:Nat} {w w':World} {v:Value} {P:List Ac} (h:KpA N base hi w v P) (hb:Below w.heap.size w w'):KpA N base hi w' v P :=
  h.agr ⟨hb.os,hb.tape,hb.output,hb.size,fun g hg=>hb.block g (by have:=h.1;have:=h.2.1;omega)⟩
theorem KpA.grown {N base hi:Nat} {w w':World} {v:Value} {P:List Ac} {row:Option Nat} (h:KpA N base hi w v P) (hg:w.grownBy w' row) (hr:∀ k,row=some k->N<=k/\(k < base\/hi<=k)):KpA N base hi w' v P :=
  h.agr ⟨hg.os,hg.tape,hg.output,hg.size,fun g h1=>hg.block g (by have:=h.1;have:=h.2.1;omega) (fun e=>by have:=hr g e.symm;omega)⟩
theorem KpA.set {N base hi:Nat} {w:World} {v:Value} {P:List Ac} (h:KpA N base hi w v P) {b:Nat} (h1:N<=b) (h2:b < base\/hi<=b) (j:Nat) (u:Value):KpA N base hi (w.setCell ⟨b,j,none⟩ u) v P :=
  h.grown (grown_set w b j u) (fun k hk=>by cases hk;exact ⟨h1,h2⟩)
theorem kpA_old {w w':World} {v:Value} {P:List Ac} (h:RdA w v P) (hb:Below w.heap.size w w'):KpA w.heap.size 0 0 w' v P :=
  ⟨hb.size,Nat.zero_le _,fun W hW=>h.below (B:=w.heap.size) ⟨hW.os.trans hb.os,hW.tape.trans hb.tape,hW.output.trans hb.output,Nat.le_trans hb.size hW.size,fun k hk=>(hW.block k (.inl hk)).trans (hb.block k hk)⟩ (Nat.le_refl _)⟩
theorem kpA_own {N base:Nat} {w:World} {v:Value} {P:List Ac} (h:OwnA base w v P) (hN:N<=w.heap.size):KpA N base w.heap.size w v P :=
  ⟨hN,Nat.le_refl _,fun W hW=>(h.ox.btw (lo:=0) (hi':=base) ⟨hW.os,hW.tape,hW.output,hW.size,fun k hk ho=>hW.block k (.inr ⟨by omega,hk⟩)⟩ (.inr (Nat.le_refl _))).rd⟩
theorem gd_len {e:Int} {most:Nat}:∀ (ts:List Tx5) (s:List Ac × List Tx5),(ts.foldl (gdS e most) s).2.length<=s.2.length+ts.length
  | [],s=>by simp
  | t :: ts,s=>by
    rw [List.foldl_cons]
    have h:=gd_len (e:=e) (most:=most) ts (gdS e most s t)
    have h2:(gdS e most s t).2.length<=s.2.length+1:=by
      unfold gdS
      split
      · omega
      · split
        · simp
        · omega
    rw [List.length_cons]
    omega
theorem gdA_len (e:Int) (l:List Ac) (ts:List Tx5) (most:Nat):(gdA e l ts most).2.length<=ts.length:=by
  have h:(gdA e l ts most).2.length<=([]:List Tx5).length+ts.length:=gd_len ts (l,[])
  simpa using h
theorem gdA_full {e:Int} {l:List Ac} {ts:List Tx5} {most k:Nat} (h:(gdA e l (ts.take k) most).2.length=most):gdA e l ts most=gdA e l (ts.take k) most:=by
  have h2:gdA e l ts most=(ts.drop k).foldl (gdS e most) (gdA e l (ts.take k) most):=by
    unfold gdA
    rw [<- List.foldl_append,List.take_append_drop]
  rw [h2]
  exact gd_stop _ _ h
theorem OwnT.monoG {base base':Nat} {w:World} {v:Value} {l:List Tx5} (h:OwnT base w v l) (hB:base'<=base):OwnT base' w v l:=by
  refine ⟨h.1,?_⟩
  rcases h.2 with h2 | ⟨g,cap,cur,rfl,hb,hg,hrest⟩
  · exact .inl h2
  · exact .inr ⟨g,cap,cur,rfl,Nat.le_trans hB hb,hg,hrest⟩
theorem own_noneT (base:Nat) (w:World):OwnT base w (.slice none 0 0) []:=⟨by simp,.inl ⟨rfl,rfl⟩⟩
theorem Blk.grownN {W V:World} {B:Nat} {t:TypeId} {cs:List Value} {row:Option Nat} (h:Blk W B t cs) (hg:W.grownBy V row) (hn:row=some B->False):Blk V B t cs:=(hg.block B h.lt (fun e=>hn e.symm)).trans h
theorem step_appTg {ops:Array Oper} {o:Oper} {a:Act} {w:World} {K:Act->World->Prop} {Q:Exit->Act->World->Prop} {E:Prop} (hgd:o.guard=none) (s x:Operand)
    (ho:o.op=.call { callee:=.builtin .append,args:=#[s,x],argTypes:=#[27,27] })
    (base:Nat) (v:Value) (B:Nat) (l:List Tx5) (t:Tx5) (hs:a.eval s=v) (hx:a.eval x=.slice (some ⟨B,0,none⟩) 1 1) (hown:OwnT base w v l) (hblk:Blk w B 35 (txC t))
    (hlen:l.length<=100000000) (hbase:base<=w.heap.size)
    (h:∀ v' w',OwnT base w' v' (l ++ [t])->w.grownBy w' v.ownBlock->(v'.ownBlock=v.ownBlock\/v'.ownBlock=some w.heap.size)->K (a.put o.dst v') w'):if Region.wanted o (yielded ops a.tmps)=true then Oper.wp Tryz.prog o a w K Q else E:=by
  have hw:Region.wanted o (yielded ops a.tmps)=true:=by simp [Region.wanted,hgd]
  rw [if_pos hw]
  obtain ⟨i0,hi,hz0,hz1,hz2⟩:=info_parts Tryz.infoTx
  obtain ⟨v',w',hr,h2,h3,h4,h5⟩:=run_append_own_at (P:=Tryz.prog) w base 27 o.type 35 i0 _ 5 56 Tryz.underlying27 hi hz0 hz1 hz2 rfl (by decide) v l.length (l.map txC).flatten hown ⟨B,0,none⟩ 1 1 (txC t) rfl (fun j u hj=>by rw [add_flatR,Nat.zero_add,hblk.cell j];exact hj) (fun u hu=>by
    simp only [txC,List.mem_cons,List.not_mem_nil,or_false] at hu
    rcases hu with rfl | rfl | rfl | rfl | rfl <;> rfl) (by unfold maxLen;omega) (by omega) hbase
  unfold Oper.wp execOp
  simp only [ho,resolve,invoke,builtin,Sem.run_bind,Sem.run_pure,Result.andThen_ok,List.map_toArray,List.map_cons,List.map_nil,hs,hx,hr]
  exact h v' w' (by unfold OwnT;rw [List.length_append,List.map_append,List.flatten_append];simpa using h2) h3 h5
theorem goodOnes_any (e:Int) (v vt:Value) (l:List Ac) (ts:List Tx5) (most:Nat) (w:World) (hgh:Gh w) (hr:RdA w v l) (hrt:RdT w vt ts) (hl:l.length<=3999999) (hall:∀ a ∈ l,a.1.size<=maxLen/\a.2.2.2.2.length<=3999999) (hts:ts.length<=4000000) (hta:∀ t ∈ ts,t.2.1.size<=maxLen/\t.2.2.1.size<=maxLen) :
    Calls Tryz.prog 124 #[lgV e v,vt,.int .i64 (most:Int)] w fun en w'=>∃ vg v',en=.returned (.tuple #[vg,lgV e v'])/\OwnT w.heap.size w' vg (gdA e l ts most).2/\RdA w' v' (gdA e l ts most).1/\Below w.heap.size w w':=by
  obtain ⟨av,cv,rfl⟩:=hr.shape
  obtain ⟨at_,ct,rfl⟩:=hrt.shape
  simp only [lgV] at *
  obtain ⟨w2,hw2⟩:∃ w2,(w.alloc (.cells #[.int .i64 e,.slice av l.length cv] 26)).alloc (.cells #[.int .i64 0,.slice none 0 0] 26)=w2:=⟨_,rfl⟩
  have hs2:w2.heap.size=w.heap.size+2:=by rw [<- hw2];simp
  have hb2:Below w.heap.size w w2:=by rw [<- hw2];exact ((Below.refl _ w).alloc (Nat.le_refl _) _).alloc (by simp) _
  have kA:Blk w2 w.heap.size 26 [.int .i64 e,.slice av l.length cv]:=by
    rw [<- hw2]
    exact (Blk.new w 26 [.int .i64 e,.slice av l.length cv]).below ((Below.refl (w.heap.size+1) _).alloc (by simp) _) (by omega)
  have kR:Blk w2 (w.heap.size+1) 26 [.int .i64 0,.slice none 0 0]:=by
    rw [<- hw2]
    have h:=Blk.new (w.alloc (.cells #[.int .i64 e,.slice av l.length cv] 26)) 26 [.int .i64 0,.slice none 0 0]
    simp only [World.size_alloc] at h
    exact h
  have KA:=hide kA
  have KR:=hide kR
  have XA:=hide (kpA_old hr hb2)
  have Hb2:=hide hb2
  have Hgh:=hide hgh
  have Hrt:=hide (fun V (hV:Below w.heap.size w V)=>hrt.below hV (Nat.le_refl _))
  have Hfew:=hide (fun k=>gdA_few (e:=e) (ts.take k) most hl hall)
  have Hta:=hide hta
  clear hgh hr hrt hb2 kA kR hall hta
  go_enter Tryz.func124,Tryz.ntmps124
  go_wp2_with fail
  go_loopw [8,15] (fun gv iv wr=>∃ (i:Nat) (a ga:Option Addr) (c gc base hi:Nat),i<=ts.length/\iv=.int .i64 (i:Int)/\gv=.slice ga (gdA e l (ts.take i) most).2.length gc/\Blk wr w.heap.size 26 [.int .i64 e,.slice a (gdA e l (ts.take i) most).1.length c]/\KpA w.heap.size base hi wr (.slice a (gdA e l (ts.take i) most).1.length c) (gdA e l (ts.take i) most).1/\OwnT w2.heap.size wr (.slice ga (gdA e l (ts.take i) most).2.length gc) (gdA e l (ts.take i) most).2/\(∀ k,(Value.slice ga (gdA e l (ts.take i) most).2.length gc).ownBlock=some k->k < base\/hi<=k)/\(w2.heap.size<=base\/hi=0)/\Blk wr (w.heap.size+1) 26 [.int .i64 0,.slice none 0 0]/\Below w.heap.size w wr) (fun _ iv _=>ts.length - (intOf iv).toNat)
  case atStart=>exact ⟨0,av,none,cv,0,0,0,by omega,rfl,rfl,by (try rw [hw2]);exact KA.out,by (try rw [hw2]);exact XA.out,own_noneT _ _,(fun k hk=>by cases hk),.inr rfl,by (try rw [hw2]);exact KR.out,by (try rw [hw2]);exact Hb2.out⟩
  case round =>
    obtain ⟨i,a,ga,c,gc,base,hi,hi1,rfl,rfl,kO,x,hG,hap,hdis,hR,hb⟩:=hrel
    clear KA KR XA hw2
    have hwr:=hb.size
    have hO:=hR.lt
    have few:=Hfew.out i
    have hnl:=gdA_len e l (ts.take i) most
    have htk:(ts.take i).length<=ts.length:=by simp;omega
    by_cases hlt:i < ts.length
    · by_cases hfull:(gdA e l (ts.take i) most).2.length=most
      · obtain ⟨b,off,rfl,hc1,hc2,hbw,hT⟩:=(Hrt.out wr hb).at hlt
        have Hs:=hide (gdA_full hfull)
        obtain ⟨s,hs⟩:∃ s,gdA e l (ts.take i) most=s:=⟨_,rfl⟩
        rw [hs] at kO x hG hap hnl hfull Hs ⊢
        clear hs few
        obtain ⟨P,G⟩:=s
        simp only at kO x hG hap hnl hfull ⊢
        generalize ts[i]=t at hT
        obtain ⟨q0,q1,q2,q3,q4⟩:=hT
        obtain ⟨kd,fm,tn,am,nc⟩:=t
        simp only at q0 q1 q2 q3 q4
        obtain ⟨w5,hw5⟩:∃ w5,wr.alloc (.cells #[.int .i64 kd,.string fm,.string tn,.int .i64 am,.int .i64 nc] 35)=w5:=⟨_,rfl⟩
        have hb5:Below wr.heap.size wr w5:=by rw [<- hw5];exact (Below.refl _ wr).alloc (Nat.le_refl _) _
        replace kO:=kO.below hb5 kO.lt
        replace hR:=hR.below hb5 hR.lt
        replace x:=x.below hb5
        replace hG:=hG.below hb5 (Nat.le_refl _)
        replace hb:=hb.trans (hb5.mono hwr)
        clear hb5
        have hli:(i:Int) < (ts.length:Int):=by omega
        subst hfull
        have kR:=hR
        have d0:=kO.cell 0
        have d1:=kO.cell 1
        have r0:=kR.cell 0
        have r1:=kR.cell 1
        have r0f:=kR.frozen 0
        have r1f:=kR.frozen 1
        simp only [List.getElem?_cons_zero,List.getElem?_cons_succ] at d0 d1 r0 r1
        have XE:=hide (((x.set (b:=w.heap.size+1) (by omega) (by omega) 0 (.int .i64 e)).set (b:=w.heap.size+1) (by omega) (by omega) 1 (.slice a P.length c)).rd.below ((Below.refl _ _).drew) (Nat.le_refl _))
        have GE:=hide ((show OwnT w.heap.size _ _ G from OwnT.monoG (row_set (row_set hG (w.heap.size+1) 0 (.int .i64 e) (fun k hk=>by have:=(World.ownsRow.lt hG k hk).1;omega)) (w.heap.size+1) 1 (.slice a P.length c) (fun k hk=>by have:=(World.ownsRow.lt hG k hk).1;omega)) (by omega)).below ((Below.refl _ _).drew) (Nat.le_refl _))
        have BE:=hide (((hb.setCell (p:=⟨w.heap.size+1,0,none⟩) (show w.heap.size<=w.heap.size+1 by omega) (.int .i64 e)).setCell (p:=⟨w.heap.size+1,1,none⟩) (show w.heap.size<=w.heap.size+1 by omega) (.slice a P.length c)).drew)
        clear kO x hb kR hR hG
        go_wp2
        go_region_law fail
        go_wp2
        refine bodyPost_ret (v:=.tuple #[.slice ga G.length gc,.agg #[.int .i64 e,.slice a P.length c]]) (by simp [results,Tryz.f124,go_sem,r0,r1]) rfl ?_
        rw [Hs.out]
        exact ⟨_,_,rfl,GE.out,XE.out,BE.out⟩
      · obtain ⟨b,off,rfl,hc1,hc2,hbw,hT⟩:=(Hrt.out wr hb).at hlt
        have htx:=Hta.out ts[i] (List.getElem_mem _)
        have Hsn:=hide (gdA_snoc e l ts most i hlt)
        obtain ⟨s,hs⟩:∃ s,gdA e l (ts.take i) most=s:=⟨_,rfl⟩
        rw [hs] at kO x hG hap few hnl hfull Hsn ⊢
        clear hs
        obtain ⟨P,G⟩:=s
        simp only at kO x hG hap few hnl hfull ⊢
        have HA:=hide (fun V v hg h=>implApply_any e v P ts[i] V hg h few.1 few.2 htx.1 htx.2)
        simp only [ApPost] at HA
        have Hgd:=hide (gdS_good (e:=e) (most:=most) (s:=(P,G)) (t:=ts[i]) hfull)
        have Hbd:=hide (gdS_bad (e:=e) (most:=most) (s:=(P,G)) (t:=ts[i]) hfull)
        simp only at Hgd Hbd
        generalize ts[i]=t at hT HA Hgd Hbd Hsn
        generalize (apA e P t).1=A at HA Hgd
        generalize (apA e P t).2=C at HA Hgd Hbd
        obtain ⟨q0,q1,q2,q3,q4⟩:=hT
        obtain ⟨kd,fm,tn,am,nc⟩:=t
        simp only [lgV,txV] at q0 q1 q2 q3 q4 HA
        obtain ⟨w5,hw5⟩:∃ w5,wr.alloc (.cells #[.int .i64 kd,.string fm,.string tn,.int .i64 am,.int .i64 nc] 35)=w5:=⟨_,rfl⟩
        have hb5:Below wr.heap.size wr w5:=by rw [<- hw5];exact (Below.refl _ wr).alloc (Nat.le_refl _) _
        have hs5:w5.heap.size=wr.heap.size+1:=by rw [<- hw5];simp
        have kT:Blk w5 wr.heap.size 35 [.int .i64 kd,.string fm,.string tn,.int .i64 am,.int .i64 nc]:=by rw [<- hw5];exact Blk.new wr _ _
        have hGlt:∀ k,(Value.slice ga G.length gc).ownBlock=some k->w2.heap.size<=k/\k < wr.heap.size:=fun k hk=>World.ownsRow.lt hG k hk
        replace kO:=kO.below hb5 kO.lt
        replace hR:=hR.below hb5 hR.lt
        replace x:=x.below hb5
        replace hG:=hG.below hb5 (Nat.le_refl _)
        replace hb:=hb.trans (hb5.mono hwr)
        have hli:(i:Int) < (ts.length:Int):=by omega
        have hfb:(((G.length:Nat):Int) == (most:Int))=false:=by rw [beq_eq_false_iff_ne];omega
        have HA5:=hide (HA.out w5 _ (Hgh.out.below hb) x.rd)
        have t0:=kT.cell 0
        have t1:=kT.cell 1
        have t2:=kT.cell 2
        have t3:=kT.cell 3
        have t4:=kT.cell 4
        have u0:=kO.cell 0
        have u1:=kO.cell 1
        simp only [List.getElem?_cons_zero,List.getElem?_cons_succ] at t0 t1 t2 t3 t4 u0 u1
        have KO:=hide kO
        have Hb:=hide hb
        have KT:=hide kT
        have HR:=hide hR
        have X:=hide x
        have HG:=hide hG
        have Hap:=hide hap
        have HGlt:=hide hGlt
        clear kO x hb hb5 kT few htx HA hR hG hap hfull hGlt
        go_wp2_with fail
        refine HA5.out.mono ?_
        rintro e' wA ⟨vA,rfl,oA,hbA⟩
        have hzA:=hbA.size
        obtain ⟨a9,c9,rfl⟩:=oA.rd.shape
        obtain ⟨w9,hw9⟩:∃ w9,wA.alloc (.cells #[.int .i64 e,.slice a9 A.length c9] 26)=w9:=⟨_,rfl⟩
        have hs9:w9.heap.size=wA.heap.size+1:=by rw [<- hw9];simp
        have bz:Below wA.heap.size wA w9:=by rw [<- hw9];exact (Below.refl _ wA).alloc (Nat.le_refl _) _
        have b9:Blk w9 wA.heap.size 26 [.int .i64 e,.slice a9 A.length c9]:=by rw [<- hw9];exact Blk.new wA _ _
        have hb9:=hbA.trans (bz.mono hbA.size)
        have XA9:=hide ((kpA_own (N:=w.heap.size) oA (by omega)).below bz)
        have XP9:=hide (X.out.below hb9)
        have G9:=hide (HG.out.below hb9 (Nat.le_refl _))
        have k9:=KO.out.below hb9 KO.out.lt
        have kT9:=KT.out.below hb9 KT.out.lt
        have KR9:=hide (HR.out.below hb9 HR.out.lt)
        have HB9:=hide (Hb.out.trans (hb9.mono (by omega)))
        clear t0 t1 t2 t3 t4 u0 u1 oA bz hw5 HA5 hb9 hbA
        clear q0 q1 q2 q3 q4
        clear KO Hb KT HR X HG
        by_cases hC:C=0
        · have Hs1:=hide (Hsn.out.trans (Hgd.out hC))
          clear Hgd Hbd Hsn XP9
          subst hC
          have bV:Below w9.heap.size w9 (w9.drew.alloc (.cells #[.int .i64 kd,.string fm,.string tn,.int .i64 am,.int .i64 nc] 35)):=((Below.refl _ w9).drew).alloc (Nat.le_refl _) _
          have KV:=hide (k9.below bV k9.lt)
          have BV:=hide (b9.below bV b9.lt)
          have RV:=hide (KR9.out.below bV KR9.out.lt)
          have XV:=hide (XA9.out.below bV)
          have GV:=hide (G9.out.below bV (Nat.le_refl _))
          have HBV:=hide (HB9.out.trans (bV.mono (by omega)))
          have t0:w9.drew.cell? ⟨wr.heap.size,0,none⟩=_:=kT9.cell 0
          have t1:w9.drew.cell? ⟨wr.heap.size,1,none⟩=_:=kT9.cell 1
          have t2:w9.drew.cell? ⟨wr.heap.size,2,none⟩=_:=kT9.cell 2
          have t3:w9.drew.cell? ⟨wr.heap.size,3,none⟩=_:=kT9.cell 3
          have t4:w9.drew.cell? ⟨wr.heap.size,4,none⟩=_:=kT9.cell 4
          have d0:w9.drew.cell? ⟨wA.heap.size,0,none⟩=_:=b9.cell 0
          have d1:w9.drew.cell? ⟨wA.heap.size,1,none⟩=_:=b9.cell 1
          have e0:=b9.cell 0
          have e1:=b9.cell 1
          simp only [List.getElem?_cons_zero,List.getElem?_cons_succ] at t0 t1 t2 t3 t4 d0 d1 e0 e1
          clear bV k9 b9 kT9 KR9 XA9 G9 HB9
          go_upto_region 8 with fail
          go_region_law (refine step_appTg rfl _ _ rfl w2.heap.size (.slice ga G.length gc) (wA.heap.size+1) G (kd,fm,tn,am,nc) (by rfl) (by rfl) GV.out (Blk.newR w9.drew _ [.int .i64 kd,.string fm,.string tn,.int .i64 am,.int .i64 nc] _ hs9.symm) (by omega) (by simp;omega) ?_;intro v7 w7 o7 hg7 hl7;have k7:=KV.out.grownN hg7 (fun h=>by have:=HGlt.out _ h;omega);have b7:=BV.out.grownN hg7 (fun h=>by have:=HGlt.out _ h;omega);have x0:=b7.cell 0;have x1:=b7.cell 1;have y0:=k7.cell 0;have y1:=k7.cell 1;have z0:=k7.frozen 0;have z1:=k7.frozen 1;simp only [List.getElem?_cons_zero,List.getElem?_cons_succ] at x0 x1 y0 y1;have hsh:=o7.rd.shape;rw [List.length_append,List.length_cons,List.length_nil,Nat.zero_add] at hsh;obtain ⟨a7,c7,hv7⟩:=hsh;subst hv7)
          all_goals
            have R7:=hide (RV.out.grownN hg7 (fun h=>by have:=HGlt.out _ h;omega))
            have X7:=hide (((XV.out.grown hg7 (fun k hk=>by have:=HGlt.out k hk;exact ⟨by omega,.inl (by omega)⟩)).set (b:=w.heap.size) (Nat.le_refl _) (.inl (by omega)) 0 (.int .i64 e)).set (b:=w.heap.size) (Nat.le_refl _) (.inl (by omega)) 1 (.slice a9 A.length c9))
            have K7:=hide ((k7.set 0 (.int .i64 e)).set 1 (.slice a9 A.length c9))
            have RS:=hide ((R7.out.other w.heap.size 0 (.int .i64 e) (by omega)).other w.heap.size 1 (.slice a9 A.length c9) (by omega))
            have G7:=hide (row_set (row_set o7 w.heap.size 0 (.int .i64 e) (fun k hk=>by have:=(World.ownsRow.lt o7 k hk).1;omega)) w.heap.size 1 (.slice a9 A.length c9) (fun k hk=>by have:=(World.ownsRow.lt o7 k hk).1;omega))
            have B7:=hide (((HBV.out.grown hg7 (by simp;omega) (fun k hk=>by have:=HGlt.out k hk;omega)).setCell (p:=⟨w.heap.size,0,none⟩) (Nat.le_refl _) (.int .i64 e)).setCell (p:=⟨w.heap.size,1,none⟩) (Nat.le_refl _) (.slice a9 A.length c9))
            have A7:Hid (∀ k,(Value.slice a7 (G.length+1) c7).ownBlock=some k->k < w5.heap.size\/wA.heap.size<=k):=hide (fun k hk=>by
              rcases hl7 with h | h
              · rw [h] at hk;have:=HGlt.out k hk;exact .inl (by omega)
              · rw [h] at hk;cases hk;exact .inr (by simp;omega))
            clear k7 b7 o7 hg7 hl7 KV BV RV XV GV HBV R7
            go_wp2
            go_roundw
            case rel =>
              refine ⟨i+1,a9,a7,c9,c7,w5.heap.size,wA.heap.size,by omega,by go_num,?_,?_,?_,?_,?_,.inl (by omega),RS.out,B7.out⟩
              · rw [Hs1.out];simp
              · rw [Hs1.out];exact K7.out
              · rw [Hs1.out];exact X7.out
              · rw [Hs1.out,List.length_append];exact G7.out
              · rw [Hs1.out,List.length_append];exact A7.out
            case measure=>simp [intOf];omega
        · have Hs1:=hide (Hsn.out.trans (Hbd.out hC))
          have hCb:(C == 0)=false:=by rw [beq_eq_false_iff_ne];exact hC
          have K9:=hide k9
          have d0:=b9.cell 0
          have d1:=b9.cell 1
          simp only [List.getElem?_cons_zero,List.getElem?_cons_succ] at d0 d1
          clear Hgd Hbd Hsn hC XA9 k9 b9 kT9
          go_wp2
          go_roundw
          case rel =>
            refine ⟨i+1,a,ga,c,gc,base,hi,by omega,by go_num,?_,?_,?_,?_,?_,hdis,KR9.out,HB9.out⟩
            · rw [Hs1.out]
            · rw [Hs1.out];exact K9.out
            · rw [Hs1.out];exact XP9.out
            · rw [Hs1.out];exact G9.out
            · rw [Hs1.out];exact Hap.out
          case measure=>simp [intOf];omega
    · have ei:i=ts.length:=by omega
      subst ei
      rw [List.take_length] at kO x hG hap ⊢
      obtain ⟨s,hs⟩:∃ s,gdA e l ts most=s:=⟨_,rfl⟩
      rw [hs] at kO x hG hap ⊢
      have Hs:=hide hs
      clear hs few hnl
      obtain ⟨P,G⟩:=s
      simp only at kO x hG hap ⊢
      have kR:=hR
      have d0:=kO.cell 0
      have d1:=kO.cell 1
      have r0:=kR.cell 0
      have r1:=kR.cell 1
      have r0f:=kR.frozen 0
      have r1f:=kR.frozen 1
      simp only [List.getElem?_cons_zero,List.getElem?_cons_succ] at d0 d1 r0 r1
      have XE:=hide (((x.set (b:=w.heap.size+1) (by omega) (by omega) 0 (.int .i64 e)).set (b:=w.heap.size+1) (by omega) (by omega) 1 (.slice a P.length c)).rd.below ((Below.refl _ _).drew) (Nat.le_refl _))
      have GE:=hide ((show OwnT w.heap.size _ _ G from OwnT.monoG (row_set (row_set hG (w.heap.size+1) 0 (.int .i64 e) (fun k hk=>by have:=(World.ownsRow.lt hG k hk).1;omega)) (w.heap.size+1) 1 (.slice a P.length c) (fun k hk=>by have:=(World.ownsRow.lt hG k hk).1;omega)) (by omega)).below ((Below.refl _ _).drew) (Nat.le_refl _))
      have BE:=hide (((hb.setCell (p:=⟨w.heap.size+1,0,none⟩) (show w.heap.size<=w.heap.size+1 by omega) (.int .i64 e)).setCell (p:=⟨w.heap.size+1,1,none⟩) (show w.heap.size<=w.heap.size+1 by omega) (.slice a P.length c)).drew)
      clear kO x hb kR hR hG
      go_wp2
      go_region_law fail
      go_wp2
      refine bodyPost_ret (v:=.tuple #[.slice ga G.length gc,.agg #[.int .i64 e,.slice a P.length c]]) (by simp [results,Tryz.f124,go_sem,r0,r1]) rfl ?_
      rw [Hs.out]
      exact ⟨_,_,rfl,GE.out,XE.out,BE.out⟩
theorem add_flatT (b off i:Nat):(⟨b,off,none⟩:Addr).add i=⟨b,off+i,none⟩:=by
  simp [Addr.add]
theorem own_nilT (w:World) (base:Nat) (h:base<=w.heap.size):OwnT base (w.alloc (.cells #[] 35)) (.slice (some ⟨w.heap.size,0,none⟩) 0 0) [] :=
  World.ownsRow_lit w #[] 0 h (by unfold maxLen;omega) (by simp)
theorem app_ownT1 {ops:Array Oper} {rest:List Oper} {o:Oper} {a:Act} {Q:Exit->Act->World->Prop} (w:World) (hgd:o.guard=none) (s x:Operand)
    (ho:o.op=.call { callee:=.builtin .append,args:=#[s,x],argTypes:=#[27,27] })
    (base:Nat) (v:Value) (B:Nat) (l:List Tx5) (t:Tx5) (hs:a.eval s=v) (hx:a.eval x=.slice (some ⟨B,0,none⟩) 1 1) (hown:OwnT base w v l) (hblk:Blk w B 35 (txC t))
    (hlen:l.length<=100000000) (hbase:base<=w.heap.size)
    (h:∀ v' w',OwnT base w' v' (l ++ [t])->w.grownBy w' v.ownBlock->(v'.ownBlock=v.ownBlock\/v'.ownBlock=some w.heap.size)->wpList Tryz.prog ops Q rest (a.put o.dst v') w'):wpList Tryz.prog ops Q (o :: rest) a w:=by
  obtain ⟨i0,hi,hz0,hz1,hz2⟩:=info_parts Tryz.infoTx
  refine wpList_append_own_at w hgd s x 27 ho base 35 i0 _ 5 56 Tryz.underlying27 hi hz0 hz1 hz2 rfl (by decide) v l.length (l.map txC).flatten hs hown ⟨B,0,none⟩ 1 1 (txC t) hx rfl ?_ ?_ (by unfold maxLen;omega) (by omega) hbase ?_
  · intro j u hj
    rw [add_flatT,Nat.zero_add,hblk.cell j]
    exact hj
  · intro u hu
    simp only [txC,List.mem_cons,List.not_mem_nil,or_false] at hu
    rcases hu with rfl | rfl | rfl | rfl | rfl <;> rfl
  · intro v' w' ho' hg _ hl
    exact h v' w' (by unfold OwnT;rw [List.length_append,List.map_append,List.flatten_append];simpa using ho') hg hl
def fiA (e:Int) (l:List Ac) (ts:List Tx5):List Tx5:=(gdA e l ts ts.length).2
theorem row_agr {base:Nat} {w W:World} {e:TypeId} {size:Nat} {v:Value} {n:Nat} {xs:List Value} (h:w.ownsRow base e size v n xs) (hb:∀ k,v.ownBlock=some k->W.heap[k]?=w.heap[k]?):W.ownsRow base e size v n xs:=by
  refine ⟨h.1,?_⟩
  rcases h.2 with h' | ⟨g,cap,cur,hv,hbb,hg,r⟩
  · exact .inl h'
  · exact .inr ⟨g,cap,cur,hv,hbb,(hb g (by rw [hv];rfl)).trans hg,r⟩
theorem OwnX.agr {base hi:Nat} {w W:World} {v:Value} {l:List Ac} (h:OwnX base hi w v l) (hb:∀ k,base<=k->k < hi->W.heap[k]?=w.heap[k]?):OwnX base hi W v l:=by
  obtain ⟨g,cap,Z,h1,rfl,h3,h4,h5,h6⟩:=h
  have hg:=(World.ownsRow.lt h3 g rfl).1
  refine ⟨g, cap, Z, h1, rfl, row_agr h3 (fun k hk => by have:g=k:=by simpa [Value.ownBlock] using hk
                                                         subst this;exact hb g hg h5),⟨fun i hi'=>row_agr (h4.own i hi') (fun k hk=>hb k ((h4.own i hi').ge k hk) (h6 _ (List.getElem_mem hi') k hk)),h4.far,h4.apart⟩,h5,h6⟩
theorem kpA_ox {N base hi:Nat} {w:World} {v:Value} {P:List Ac} (h:OwnX base hi w v P) (hN:N<=w.heap.size) (hh:hi<=w.heap.size):KpA N base hi w v P :=
  ⟨hN,hh,fun W hW=>(h.agr (fun k h1 h2=>hW.block k (.inr ⟨h1,h2⟩))).rd⟩
end Go.Proofs.YtohachldbpejpaaGreatDoor
