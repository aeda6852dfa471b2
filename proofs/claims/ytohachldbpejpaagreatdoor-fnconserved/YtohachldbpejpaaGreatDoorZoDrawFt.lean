/- Drawn orders of a ledger; a drawn pool and a ledger at which it is to fit. -/
import Derived.Test.YtohachldbpejpaaGreatDoorZoLgAllS
import Derived.Test.YtohachldbpejpaaGreatDoorZoDrawAp
set_option maxRecDepth 20000
set_option maxHeartbeats 4000000
namespace Go.Proofs.YtohachldbpejpaaGreatDoor
open Go.RowKit
set_option linter.unusedVariables false
theorem implAll_any (e:Int) (v vt:Value) (l:List Ac) (ts:List Tx5) (w:World) (hgh:Gh w) (hr:RdA w v l) (hrt:RdT w vt ts) (hl:l.length<=3999999) (hall:∀ a ∈ l,a.1.size<=maxLen/\a.2.2.2.2.length<=3999999) (hts:ts.length<=4000000) (hta:∀ t ∈ ts,t.2.1.size<=maxLen/\t.2.2.1.size<=maxLen) :
    Calls Tryz.prog 10 #[lgV e v,vt] w fun en w'=>∃ v',en=.returned (.tuple #[lgV e v',.int .i64 ((alA e l ts).2:Int)])/\OwnA w.heap.size w' v' (alA e l ts).1/\Below w.heap.size w w':=by
  obtain ⟨av,cv,rfl⟩:=hr.shape
  obtain ⟨at_,ct,rfl⟩:=hrt.shape
  have hall2:∀ a ∈ l,a.2.2.2.2.length<=4000000:=fun a ha=>by have:=hall a ha;omega
  simp only [lgV] at *
  obtain ⟨w2,hw2⟩:∃ w2,(w.alloc (.cells #[.int .i64 e,.slice av l.length cv] 26)).alloc (.cells #[.int .i64 0,.slice none 0 0] 26)=w2:=⟨_,rfl⟩
  have hs2:w2.heap.size=w.heap.size+2:=by rw [<- hw2];simp
  have hb2:Below w.heap.size w w2:=by rw [<- hw2];exact ((Below.refl _ w).alloc (Nat.le_refl _) _).alloc (by simp) _
  have kA:Blk w2 w.heap.size 26 [.int .i64 e,.slice av l.length cv]:=by
    rw [<- hw2]
    exact (Blk.new w 26 [.int .i64 e,.slice av l.length cv]).below ((Below.refl (w.heap.size+1) _).alloc (by simp) _) (by omega)
  have kR:Blk w2 (w.heap.size+1) 26 [.int .i64 0,.slice none 0 0]:=by
    rw [<- hw2]
    have h:=Blk.new (w.alloc (.cells #[.int .i64 e,.slice av l.length cv] 26)) 26 [.int .i64 0,.slice none 0 0]
    simp only [World.size_alloc] at h
    exact h
  have HC:=hide (implCopiedLg_any e (.slice av l.length cv) l w2 (hr.below hb2 (Nat.le_refl _)) (by omega) hall2)
  simp only [lgV] at HC
  have HS2:=hide hs2
  have Hgh:=hide hgh
  clear hgh
  have Hb2:=hide hb2
  have KR:=hide kR
  have Hrt:=hide (hrt.below hb2 (Nat.le_refl _))
  have Hfew:=hide (fun k=>alA_few (e:=e) (ts.take k) hl hall)
  have Hta:=hide hta
  have c0:=kA.cell 0
  have c1:=kA.cell 1
  simp only [List.getElem?_cons_zero,List.getElem?_cons_succ] at c0 c1
  clear hr hrt hb2 kA kR hall hall2 hta hs2
  go_enter Tryz.func10,Tryz.ntmps10
  go_wp2_with fail
  refine HC.out.mono ?_
  rintro en w3 ⟨v3,rfl,o3,hb3⟩
  obtain ⟨a3,c3,rfl⟩:=o3.rd.shape
  obtain ⟨w4,hw4⟩:∃ w4,w3.alloc (.cells #[.int .i64 e,.slice a3 l.length c3] 26)=w4:=⟨_,rfl⟩
  have b4:Below w3.heap.size w3 w4:=by rw [<- hw4];exact (Below.refl _ w3).alloc (Nat.le_refl _) _
  have K4:Hid (Blk w4 w3.heap.size 26 [.int .i64 e,.slice a3 l.length c3]):=hide (by rw [<- hw4];exact Blk.new w3 _ _)
  have X4:=hide (o3.ox.below b4 (Nat.le_refl _))
  have B4:=hide (hb3.trans (b4.mono hb3.size))
  have hz3:=hb3.size
  clear o3 hb3 b4 c0 c1 hw2
  go_wp2
  go_loopw [7,16] (fun nv iv wr=>∃ (i:Nat) (a:Option Addr) (c base hi:Nat),i<=ts.length/\iv=.int .i64 (i:Int)/\nv=.int .i64 ((alA e l (ts.take i)).2:Int)/\Blk wr w3.heap.size 26 [.int .i64 e,.slice a (alA e l (ts.take i)).1.length c]/\OwnX base hi wr (.slice a (alA e l (ts.take i)).1.length c) (alA e l (ts.take i)).1/\w2.heap.size<=base/\(w3.heap.size < base\/hi<=w3.heap.size)/\Below w2.heap.size w2 wr) (fun _ iv _=>ts.length - (intOf iv).toNat)
  case atStart=>exact ⟨0,a3,c3,w2.heap.size,w3.heap.size,by omega,rfl,rfl,K4.out,X4.out,Nat.le_refl _,.inr (Nat.le_refl _),B4.out⟩
  case round =>
    obtain ⟨i,a,c,base,hi,hi1,rfl,rfl,kO,x,hbase,hdis,hb⟩:=hrel
    clear K4 X4 B4 hw4
    have hwr:=hb.size
    have hO:=kO.lt
    have few:=Hfew.out i
    have hnl:=alA_len e l (ts.take i)
    have htk:(ts.take i).length<=ts.length:=by simp;omega
    by_cases hlt:i < ts.length
    · obtain ⟨b,off,rfl,hc1,hc2,hbw,hT⟩:=Hrt.out.at hlt
      have htx:=Hta.out ts[i] (List.getElem_mem _)
      have Hsn:=hide (alA_snoc e l ts i hlt)
      obtain ⟨s,hs⟩:∃ s,alA e l (ts.take i)=s:=⟨_,rfl⟩
      rw [hs] at kO x few hnl Hsn ⊢
      obtain ⟨P,n⟩:=s
      simp only at kO x few hnl ⊢
      have HA:=hide (fun V v hg h=>implApply_any e v P ts[i] V hg h few.1 few.2 htx.1 htx.2)
      simp only [ApPost] at HA
      have Hgd:=hide (alS_good (e:=e) (s:=(P,n)) (t:=ts[i]))
      have Hbd:=hide (alS_bad (e:=e) (s:=(P,n)) (t:=ts[i]))
      have Hsm:=hide (apA_same (e:=e) (l:=P) (t:=ts[i]))
      simp only at Hgd Hbd
      generalize ts[i]=t at hT HA Hgd Hbd Hsm Hsn
      generalize (apA e P t).1=A at HA Hgd Hsm
      generalize (apA e P t).2=C at HA Hgd Hbd Hsm
      obtain ⟨p0,p1,p2,p3,p4⟩:=hT
      have q0:=(hb.cell (p:=⟨b,off+i * 5,none⟩) hbw).trans p0
      have q1:=(hb.cell (p:=⟨b,off+i * 5+1,none⟩) hbw).trans p1
      have q2:=(hb.cell (p:=⟨b,off+i * 5+2,none⟩) hbw).trans p2
      have q3:=(hb.cell (p:=⟨b,off+i * 5+3,none⟩) hbw).trans p3
      have q4:=(hb.cell (p:=⟨b,off+i * 5+4,none⟩) hbw).trans p4
      obtain ⟨kd,fm,tn,am,nc⟩:=t
      simp only [lgV,txV] at q0 q1 q2 q3 q4 HA
      obtain ⟨w5,hw5⟩:∃ w5,wr.alloc (.cells #[.int .i64 kd,.string fm,.string tn,.int .i64 am,.int .i64 nc] 35)=w5:=⟨_,rfl⟩
      have hb5:Below wr.heap.size wr w5:=by rw [<- hw5];exact (Below.refl _ wr).alloc (Nat.le_refl _) _
      have kT:Blk w5 wr.heap.size 35 [.int .i64 kd,.string fm,.string tn,.int .i64 am,.int .i64 nc]:=by rw [<- hw5];exact Blk.new wr _ _
      replace kO:=kO.below hb5 kO.lt
      replace x:=x.below hb5 (Nat.le_refl _)
      replace hb:=hb.trans (hb5.mono hwr)
      have hwr5:=hb5.size
      have hBw:=Hb2.out.trans (hb.mono Hb2.out.size)
      have hli:(i:Int) < (ts.length:Int):=by omega
      have hnb:n<=4000000:=by omega
      have HA5:=hide (HA.out w5 _ (Hgh.out.below hBw) x.rd)
      have t0:=kT.cell 0
      have t1:=kT.cell 1
      have t2:=kT.cell 2
      have t3:=kT.cell 3
      have t4:=kT.cell 4
      have u0:=kO.cell 0
      have u1:=kO.cell 1
      simp only [List.getElem?_cons_zero,List.getElem?_cons_succ] at t0 t1 t2 t3 t4 u0 u1
      have KO:=hide kO
      have Hb:=hide hb
      have hO5:=kO.lt
      clear kO x hb hb5 kT hBw p0 p1 p2 p3 p4 few htx hs HA
      go_wp2_with fail
      refine HA5.out.mono ?_
      rintro e' wA ⟨vA,rfl,oA,hbA⟩
      obtain ⟨a9,c9,rfl⟩:=oA.rd.shape
      obtain ⟨w9,hw9⟩:∃ w9,wA.alloc (.cells #[.int .i64 e,.slice a9 A.length c9] 26)=w9:=⟨_,rfl⟩
      have bz:Below wA.heap.size wA w9:=by rw [<- hw9];exact (Below.refl _ wA).alloc (Nat.le_refl _) _
      have b9:Blk w9 wA.heap.size 26 [.int .i64 e,.slice a9 A.length c9]:=by rw [<- hw9];exact Blk.new wA _ _
      have x9:=oA.ox.below bz (Nat.le_refl _)
      have hb9:=hbA.trans (bz.mono hbA.size)
      clear t0 t1 t2 t3 t4 u0 u1 oA bz hw5 HA5
      clear q0 q1 q2 q3 q4
      have hB9:=Hb.out.trans (hb9.mono (by omega))
      have k9:=KO.out.below hb9 KO.out.lt
      have hO9:=k9.lt
      have d0:=b9.cell 0
      have d1:=b9.cell 1
      have o0:=k9.cell 0
      have o1:=k9.cell 1
      have o0f:=k9.frozen 0
      have o1f:=k9.frozen 1
      simp only [List.getElem?_cons_zero,List.getElem?_cons_succ] at d0 d1 o0 o1
      have K9:=hide k9
      have X9:=hide x9
      have HB9:=hide hB9
      clear k9 x9 hB9 hb9 b9 KO hbA
      by_cases hC:C=0
      · have Hs1:=hide (Hsn.out.trans (Hgd.out hC))
        clear Hgd Hbd Hsm Hsn
        subst hC
        go_wp2
        go_roundw
        case rel =>
          refine ⟨i+1,a9,c9,w5.heap.size,wA.heap.size,by omega,by go_num,by rw [Hs1.out];go_num,?_,?_,by omega,.inl (by omega),?_⟩
          · rw [Hs1.out];exact (K9.out.set 0 _).set 1 _
          · rw [Hs1.out];exact (X9.out.old (by omega) _ _).old (by omega) _ _
          · exact (HB9.out.setCell (p:=⟨w3.heap.size,0,none⟩) (show w2.heap.size<=w3.heap.size by omega) _).setCell (p:=⟨w3.heap.size,1,none⟩) (show w2.heap.size<=w3.heap.size by omega) _
        case measure=>simp [intOf];omega
      · have hAP:A=P:=Hsm.out hC
        have Hs1:=hide (Hsn.out.trans (Hbd.out hC))
        have hCb:(C == 0)=false:=by rw [beq_eq_false_iff_ne];exact hC
        clear Hgd Hbd Hsm Hsn hC
        subst hAP
        go_wp2
        go_roundw
        case rel =>
          refine ⟨i+1,a9,c9,w5.heap.size,wA.heap.size,by omega,by go_num,by rw [Hs1.out],?_,?_,by omega,.inl (by omega),?_⟩
          · rw [Hs1.out];exact (K9.out.set 0 _).set 1 _
          · rw [Hs1.out];exact (X9.out.old (by omega) _ _).old (by omega) _ _
          · exact (HB9.out.setCell (p:=⟨w3.heap.size,0,none⟩) (show w2.heap.size<=w3.heap.size by omega) _).setCell (p:=⟨w3.heap.size,1,none⟩) (show w2.heap.size<=w3.heap.size by omega) _
        case measure=>simp [intOf];omega
    · have ei:i=ts.length:=by omega
      subst ei
      rw [List.take_length] at kO x ⊢
      obtain ⟨s,hs⟩:∃ s,alA e l ts=s:=⟨_,rfl⟩
      rw [hs] at kO x ⊢
      have Hs:=hide hs
      clear hs
      obtain ⟨P,n⟩:=s
      simp only at kO x ⊢
      have kR:=KR.out.below hb KR.out.lt
      have d0:=kO.cell 0
      have d1:=kO.cell 1
      have r0:=kR.cell 0
      have r1:=kR.cell 1
      have r0f:=kR.frozen 0
      have r1f:=kR.frozen 1
      simp only [List.getElem?_cons_zero,List.getElem?_cons_succ] at d0 d1 r0 r1
      have hs2:=HS2.out
      have X9:=hide (((x.old (b:=w.heap.size+1) (by omega) 0 (.int .i64 e)).old (b:=w.heap.size+1) (by omega) 1 (.slice a P.length c)).own.mono (show w.heap.size<=base by omega))
      have HB9:=hide (((Hb2.out.trans (hb.mono Hb2.out.size)).setCell (p:=⟨w.heap.size+1,0,none⟩) (show w.heap.size<=w.heap.size+1 by omega) (.int .i64 e)).setCell (p:=⟨w.heap.size+1,1,none⟩) (show w.heap.size<=w.heap.size+1 by omega) (.slice a P.length c))
      clear kO x hb kR hs2
      go_wp2
      refine bodyPost_ret (v:=.tuple #[.agg #[.int .i64 e,.slice a P.length c],.int .i64 (n:Int)]) (by simp [results,Tryz.f10,go_sem,r0,r1]) rfl ?_
      rw [Hs.out]
      exact ⟨_,rfl,X9.out,HB9.out⟩
def gdS (e:Int) (most:Nat) (s:List Ac × List Tx5) (t:Tx5):List Ac × List Tx5 :=
  if s.2.length=most then s else if (apA e s.1 t).2=0 then ((apA e s.1 t).1,s.2 ++ [t]) else s
def gdA (e:Int) (l:List Ac) (ts:List Tx5) (most:Nat):List Ac × List Tx5:=ts.foldl (gdS e most) (l,[])
abbrev Tr:=Int × Int × ByteArray
def trV (p:Tr):Value:=.agg #[.int .i64 p.1,.int .i64 p.2.1,.string p.2.2]
def trC (p:Tr):List Value:=[.int .i64 p.1,.int .i64 p.2.1,.string p.2.2]
structure TrAt (w:World) (b o:Nat) (p:Tr):Prop where
  c0:w.cell? ⟨b,o,none⟩=some (.int .i64 p.1)
  c1:w.cell? ⟨b,o+1,none⟩=some (.int .i64 p.2.1)
  c2:w.cell? ⟨b,o+2,none⟩=some (.string p.2.2)
def RdR (w:World) (v:Value) (l:List Tr):Prop :=
  (∃ a cap,v=.slice a 0 cap/\l=[]/\(a=none->cap=0)) \/
  ∃ b off cap,l ≠ []/\v=.slice (some ⟨b,off,none⟩) l.length cap/\l.length<=cap/\cap<=maxLen/\b < w.heap.size/\∀ i (h:i < l.length),TrAt w b (off+i * 3) l[i]
def OwnR (t:TypeId) (base:Nat) (w:World) (v:Value) (l:List Tr):Prop:=w.ownsRow base t 3 v l.length (l.map trC).flatten
structure Agr (N base hi:Nat) (w w':World):Prop where
  os:w'.os=w.os
  tape:w'.tape=w.tape
  output:w'.output=w.output
  size:w.heap.size<=w'.heap.size
  block:∀ g,g < N\/base<=g/\g < hi->w'.heap[g]?=w.heap[g]?
def KpA (N base hi:Nat) (w:World) (v:Value) (P:List Ac):Prop:=N<=w.heap.size/\hi<=w.heap.size/\∀ W,Agr N base hi w W->RdA W v P
theorem Blk.grownN {W V:World} {B:Nat} {t:TypeId} {cs:List Value} {row:Option Nat} (h:Blk W B t cs) (hg:W.grownBy V row) (hn:row=some B->False):Blk V B t cs:=(hg.block B h.lt (fun e=>hn e.symm)).trans h
def fiA (e:Int) (l:List Ac) (ts:List Tx5):List Tx5:=(gdA e l ts ts.length).2
theorem row_agr {base:Nat} {w W:World} {e:TypeId} {size:Nat} {v:Value} {n:Nat} {xs:List Value} (h:w.ownsRow base e size v n xs) (hb:∀ k,v.ownBlock=some k->W.heap[k]?=w.heap[k]?):W.ownsRow base e size v n xs:=by
  refine ⟨h.1,?_⟩
  rcases h.2 with h' | ⟨g,cap,cur,hv,hbb,hg,r⟩
  · exact .inl h'
  · exact .inr ⟨g,cap,cur,hv,hbb,(hb g (by rw [hv];rfl)).trans hg,r⟩
theorem OwnX.agr {base hi:Nat} {w W:World} {v:Value} {l:List Ac} (h:OwnX base hi w v l) (hb:∀ k,base<=k->k < hi->W.heap[k]?=w.heap[k]?):OwnX base hi W v l:=by
  obtain ⟨g,cap,Z,h1,rfl,h3,h4,h5,h6⟩:=h
  have hg:=(World.ownsRow.lt h3 g rfl).1
  refine ⟨g, cap, Z, h1, rfl, row_agr h3 (fun k hk => by have:g=k:=by simpa [Value.ownBlock] using hk
                                                         subst this;exact hb g hg h5),⟨fun i hi'=>row_agr (h4.own i hi') (fun k hk=>hb k ((h4.own i hi').ge k hk) (h6 _ (List.getElem_mem hi') k hk)),h4.far,h4.apart⟩,h5,h6⟩
def KpG (w:World) (g base hi:Nat) (W:World) (v:Value) (P:List Ac):Prop:=hi<=W.heap.size/\∀ V,w.grownBy V (some g)->(∀ k,base<=k->k < hi->V.heap[k]?=W.heap[k]?)->RdA V v P
theorem KpG.next {w:World} {g base hi:Nat} {W W':World} {v:Value} {P:List Ac} (h:KpG w g base hi W v P) (hz:W.heap.size<=W'.heap.size) (ha:∀ k,base<=k->k < hi->W'.heap[k]?=W.heap[k]?):KpG w g base hi W' v P :=
  ⟨Nat.le_trans h.1 hz,fun V hV h2=>h.2 V hV (fun k h3 h4=>(h2 k h3 h4).trans (ha k h3 h4))⟩
theorem KpG.below {w:World} {g base hi:Nat} {W W':World} {v:Value} {P:List Ac} (h:KpG w g base hi W v P) (hb:Below W.heap.size W W'):KpG w g base hi W' v P :=
  h.next hb.size (fun k _ h2=>hb.block k (Nat.lt_of_lt_of_le h2 h.1))
theorem KpG.grown {w:World} {g base hi:Nat} {W W':World} {v:Value} {P:List Ac} {row:Option Nat} (h:KpG w g base hi W v P) (hg:W.grownBy W' row) (hr:∀ k,row=some k->k < base\/hi<=k):KpG w g base hi W' v P :=
  h.next hg.size (fun k h1 h2=>hg.block k (Nat.lt_of_lt_of_le h2 h.1) (fun e=>by have:=hr k e.symm;omega))
theorem KpG.rd {w:World} {g base hi:Nat} {W:World} {v:Value} {P:List Ac} (h:KpG w g base hi W v P) (hg:w.grownBy W (some g)):RdA W v P:=h.2 W hg (fun _ _ _=>rfl)
theorem KpG.sty {w:World} {g base hi:Nat} {W:World} {v:Value} {P:List Ac} (h:KpG w g base hi W v P) (hg:w.grownBy W (some g)) (hn:g < base\/hi<=g):Sty g W v P :=
  ⟨h.rd hg,fun V hV=>(h.grown hV (fun k hk=>by cases hk;exact hn)).rd (grw_trans hg hV)⟩
theorem kpG_old {w:World} {g:Nat} {v:Value} {P:List Ac} (h:Sty g w v P):KpG w g 0 0 w v P:=⟨Nat.zero_le _,fun V hV _=>h.2 V hV⟩
theorem kpG_ox {w:World} {g base hi:Nat} {W:World} {v:Value} {P:List Ac} (h:OwnX base hi W v P) (hh:hi<=W.heap.size):KpG w g base hi W v P:=⟨hh,fun V _ ha=>(h.agr ha).rd⟩
def FwA (P:List Ac):Prop:=P.length<=1000/\∀ a ∈ P,a.1.size<=9/\a.2.2.2.2.length<=1000
theorem acs_nine {l:List Ac} (h:acsB l=true):∀ a ∈ l,a.1.size<=9:=by
  intro a ha
  obtain ⟨j,hj,rfl⟩:=List.mem_iff_getElem.1 ha
  unfold acsB at h
  rw [Bool.and_eq_true,List.all_eq_true] at h
  have:=h.1 j (List.mem_range.2 hj)
  rw [acAt_eq l j l[j] hj rfl,Bool.and_eq_true] at this
  have h2:=this.1
  unfold acB nmB inB at h2
  simp only [Bool.and_eq_true,decide_eq_true_eq] at h2
  have h3:=h2.1.2.2
  omega
theorem FwA.apply {e:Int} {P:List Ac} {t:Tx5} (h:FwA P):FwA (apA e P t).1:=by
  rcases apA_is e P t with h1 | h1
  · rw [h1];exact h
  · have h2:=acs_len' h1
    have h3:=acs_four h1
    exact ⟨by omega,fun a ha=>⟨acs_nine h1 a ha,by have:=h3 a ha;omega⟩⟩
def DrO (w0 w:World) (g:Nat) (cv:Value) (code:List UInt8) (most:Nat) (e:Ending) (w':World):Prop:=∃ (v:Value) (l:List Tx5),e=.returned v/\OwnT w.heap.size w' v l/\l.length<=most/\(∀ x ∈ l,x.2.1.size<=9/\x.2.2.1.size<=9)/\Cur w0 w' g cv code/\w.grownBy w' (some g)
theorem few_fit {P:List Ac} (h:FwA P):P.length<=3999999/\∀ a ∈ P,a.1.size<=maxLen/\a.2.2.2.2.length<=3999999 :=
  ⟨by have:=h.1;omega,fun a ha=>by have:=h.2 a ha;unfold maxLen;omega⟩
theorem l6Txs_any (w0 w:World) (g:Nat) (cv:Value) (code:List UInt8) (e:Int) (v:Value) (l:List Ac) (most:Nat) (hc:Cur w0 w g cv code) (hl:code.length<=1048576) (hs:Sty g w v l) (hfw:FwA l) (hm:most<=1000) :
    Calls Tryz.prog 48 #[.pointer (some ⟨g,0,none⟩),lgV e v,.int .i64 (most:Int)] w fun en w'=>DrO w0 w g cv code most en w':=by
  have hgl:=hc.lt
  obtain ⟨av,cvv,rfl⟩:=hs.1.shape
  simp only [lgV]
  obtain ⟨w1,hw1⟩:∃ x,w.alloc (.cells #[.int .i64 e,.slice av l.length cvv] 26)=x:=⟨_,rfl⟩
  have hs1:w1.heap.size=w.heap.size+1:=by rw [<- hw1];simp
  have hb1:Below w.heap.size w w1:=by rw [<- hw1];exact (Below.refl _ w).alloc (Nat.le_refl _) _
  have k1:Blk w1 w.heap.size 26 [.int .i64 e,.slice av l.length cvv]:=by rw [<- hw1];exact Blk.new w _ _
  have hb2:Below w1.heap.size w1 (w1.alloc (.cells #[] 35)):=(Below.refl _ w1).alloc (Nat.le_refl _) _
  have hbb:Below w.heap.size w (w1.alloc (.cells #[] 35)):=hb1.trans (hb2.mono hb1.size)
  have HC1:=hide (hc.below hbb hgl)
  have Ho:=hide (own_nilT w1 w1.heap.size (Nat.le_refl _))
  have HG1:=hide (grw_of_below (some g) hbb (Nat.le_refl _))
  have HK1:=hide (k1.below hb2 k1.lt)
  have HP1:=hide ((kpG_old hs).below hbb)
  have S1:=hide hs1
  have Hfw:=hide hfw
  clear hc hs hb1 k1 hb2 hbb hs1 hfw
  go_enter Tryz.func48,Tryz.ntmps48
  go_wp2_with fail
  refine (l1Below_any w0 _ g cv code (most:Int) HC1.out hl (by omega) (by omega)).mono ?_
  rintro en w2 ⟨n,rfl,hn1,hn2,hc2,hg2⟩
  have hn:n<=most:=by
    by_cases h:(0:Int) < (most:Int)
    · have:=hn1 h;omega
    · have:=hn2 (by omega);omega
  have HC2:=hide hc2
  have HG2:=hide (grw_trans HG1.out hg2)
  have HO2:=hide (Ho.out.notg hg2 (by have:=S1.out;omega))
  have HK2:=hide (blk_notg5 HK1.out hg2 (by omega))
  have HP2:=hide (HP1.out.grown hg2 (fun k hk=>.inr (Nat.zero_le _)))
  have hz2:=hg2.size
  have Hz2:Hid (w1.heap.size<=w2.heap.size):=hide (by simp at hz2;omega)
  clear hn1 hn2 hc2 hg2 Ho HG1 HC1 HK1 HP1 hz2
  go_wp2
  go_loopw [7,8] (fun ov iv wr=>∃ (i:Nat) (L:List Tx5) (P:List Ac) (a ao:Option Addr) (c co base hi:Nat),L.length+i<=most/\iv=.int .i64 (i:Int)/\ov=.slice ao L.length co/\OwnT w1.heap.size wr (.slice ao L.length co) L/\(∀ x ∈ L,x.2.1.size<=9/\x.2.2.1.size<=9)/\Blk wr w.heap.size 26 [.int .i64 e,.slice a P.length c]/\KpG w g base hi wr (.slice a P.length c) P/\FwA P/\(∀ k,(Value.slice ao L.length co).ownBlock=some k->k < base\/hi<=k)/\(w1.heap.size<=base\/hi=0)/\w1.heap.size<=wr.heap.size/\Cur w0 wr g cv code/\w.grownBy wr (some g)) (fun _ iv _=>(intOf iv).toNat)
  case atStart=>exact ⟨n,[],l,av,some ⟨w1.heap.size,0,none⟩,cvv,0,0,0,by simp;omega,rfl,rfl,HO2.out,(fun x hx=>by cases hx),HK2.out,HP2.out,Hfw.out,(fun k hk=>.inr (Nat.zero_le _)),.inr rfl,Hz2.out,HC2.out,HG2.out⟩
  case round =>
    obtain ⟨i,L,P,a,ao,c,co,base,hi,hil,rfl,rfl,ho,hsm,kO,x,hfw,hap,hdis,hsz,hc,hg⟩:=hrel
    clear HO2 HC2 HG2 HK2 HP2 Hz2 hw1
    have s1:=S1.out
    have HO:=hide ho
    have HS:=hide hsm
    have HC:=hide hc
    have HG:=hide hg
    have KO:=hide kO
    have X:=hide x
    have FW:=hide hfw
    have HOl:Hid (∀ k,(Value.slice ao L.length co).ownBlock=some k->w1.heap.size<=k/\k < wr.heap.size):=hide (fun k hk=>ho.lt k hk)
    have Hap:=hide hap
    have Hst:=hide (x.sty hg (by omega))
    have d0:=kO.cell 0
    have d1:=kO.cell 1
    simp only [List.getElem?_cons_zero,List.getElem?_cons_succ] at d0 d1
    have hbx:=kO.lt
    clear ho hsm hc hg kO x hfw hap s1
    by_cases h0:0 < i
    · have hpos:(0:Int) < (i:Int):=by omega
      go_wp2_with fail
      refine (l6Tx_any w0 wr g cv code e _ P HC.out hl Hst.out FW.out.1 (fun a ha=>(FW.out.2 a ha).1)).mono ?_
      rintro en w3 ⟨t,rfl,ht1,ht2,hc3,hg3⟩
      have hz3:=hg3.size
      have few:=few_fit (FW.out)
      have HA:=hide (fun V v h=>specApply_any e v P t V h few.1 few.2 (by unfold maxLen;omega) (by unfold maxLen;omega))
      have FWA:=hide (FW.out.apply (e:=e) (t:=t))
      generalize apA e P t=R at HA FWA
      obtain ⟨A,C⟩:=R
      obtain ⟨kd,fm,tn,am,nc⟩:=t
      simp only [txV,lgV] at HA FWA ht1 ht2 ⊢
      obtain ⟨w4,hw4⟩:∃ z,w3.alloc (.cells #[.int .i64 kd,.string fm,.string tn,.int .i64 am,.int .i64 nc] 35)=z:=⟨_,rfl⟩
      have hs4:w4.heap.size=w3.heap.size+1:=by rw [<- hw4];simp
      have hb4:Below w3.heap.size w3 w4:=by rw [<- hw4];exact (Below.refl _ w3).alloc (Nat.le_refl _) _
      have k4:Blk w4 w3.heap.size 35 [.int .i64 kd,.string fm,.string tn,.int .i64 am,.int .i64 nc]:=by rw [<- hw4];exact Blk.new w3 _ _
      have hb5:Below w4.heap.size w4 (w4.alloc (.cells #[.int .i64 kd,.string fm,.string tn,.int .i64 am,.int .i64 nc] 35)):=(Below.refl _ w4).alloc (Nat.le_refl _) _
      have H5:=hide (Blk.new w4 35 [.int .i64 kd,.string fm,.string tn,.int .i64 am,.int .i64 nc])
      have b35:Below w3.heap.size w3 (w4.alloc (.cells #[.int .i64 kd,.string fm,.string tn,.int .i64 am,.int .i64 nc] 35)):=hb4.trans (hb5.mono (by omega))
      have s1:=S1.out
      have O5:=hide ((HO.out.notg hg3 (by omega)).below b35 (Nat.le_refl _))
      have K5:=hide ((blk_notg5 KO.out hg3 (by omega)).below b35 (by omega))
      have KT5:=hide (k4.below hb5 k4.lt)
      have X5:=hide ((X.out.grown hg3 (fun k hk=>by cases hk;omega)).below b35)
      have C5:=hide (hc3.below b35 hc3.lt)
      have G5:=hide (grw_below (grw_trans HG.out hg3) b35 (by have:=HG.out.size;omega))
      have t0:=k4.cell 0
      have t1:=k4.cell 1
      have t2:=k4.cell 2
      have t3:=k4.cell 3
      have t4:=k4.cell 4
      simp only [List.getElem?_cons_zero,List.getElem?_cons_succ] at t0 t1 t2 t3 t4
      have HS4:=hide hs4
      have hz34:w1.heap.size<=w4.heap.size:=by omega
      have Hz34:Hid (wr.heap.size<=w3.heap.size):=hide hz3
      clear hs4 hb4 k4 hb5 b35 s1 d0 d1 HO KO X HG HC Hst hc3 hg3 hz3
      go_wp2_with (at_builtin;(try rw [hw4]);refine app_ownT1 _ rfl _ _ rfl w1.heap.size _ _ L (kd,fm,tn,am,nc) rfl rfl O5.out H5.out (by omega) (by simp;omega) ?_;intro v6 w6 o6 hg6 hl6;obtain ⟨a6,c6,hv6⟩:=o6.rd.shape;rw [List.length_append,List.length_singleton] at hv6;subst hv6;have k6:=K5.out.grownN hg6 (fun h=>by have:=HOl.out _ h;have:=S1.out;omega);have kt6:=KT5.out.grownN hg6 (fun h=>by have:=HOl.out _ h;have:=Hz34.out;omega);have u0:=k6.cell 0;have u1:=k6.cell 1;have y0:=kt6.cell 0;have y1:=kt6.cell 1;have y2:=kt6.cell 2;have y3:=kt6.cell 3;have y4:=kt6.cell 4;simp only [List.getElem?_cons_zero,List.getElem?_cons_succ] at u0 u1 y0 y1 y2 y3 y4)
      have hB6:Below w1.heap.size (w4.alloc (.cells #[.int .i64 kd,.string fm,.string tn,.int .i64 am,.int .i64 nc] 35)) w6:=(Below.refl _ _).grown hg6 (by simp;omega) (fun k hk=>(HOl.out k hk).1)
      have s1:=S1.out
      have G6:w.grownBy w6 (some g):=⟨hB6.os.trans G5.out.os,hB6.tape.trans G5.out.tape,hB6.output.trans G5.out.output,Nat.le_trans G5.out.size hB6.size,fun k hk hn=>(hB6.block k (by omega)).trans (G5.out.block k hk hn)⟩
      have X6:=X5.out.grown hg6 (fun k hk=>Hap.out k hk)
      have HA6:=hide (HA.out w6 _ (X6.rd G6))
      have C6:=hide (C5.out.below hB6 (by omega))
      have hz6:=hB6.size
      have hz6':w1.heap.size<=w6.heap.size:=by simp at hz6;omega
      have O6:=hide o6
      have K6:=hide k6
      have HG6:=hide G6
      clear hB6 s1 G6 X6 o6 k6 kt6 hg6 hl6 hz6 C5 G5 K5 O5 H5 KT5 X5 t0 t1 t2 t3 t4 HA Hap
      go_wp2_with fail
      refine HA6.out.mono ?_
      rintro en w7 ⟨v7,rfl,o7,hb7⟩
      obtain ⟨a7,c7,rfl⟩:=o7.rd.shape
      have k7:=K6.out.below hb7 K6.out.lt
      have hz7:=hb7.size
      have s1:=S1.out
      have r0:=k7.cell 0
      have r1:=k7.cell 1
      have r0f:=k7.frozen 0
      have r1f:=k7.frozen 1
      simp only [List.getElem?_cons_zero,List.getElem?_cons_succ] at r0 r1
      have hb8:Below w.heap.size w7 ((w7.setCell ⟨w.heap.size,0,none⟩ (.int .i64 e)).setCell ⟨w.heap.size,1,none⟩ (.slice a7 A.length c7)):=((Below.refl _ w7).setCell (p:=⟨w.heap.size,0,none⟩) (Nat.le_refl _) _).setCell (p:=⟨w.heap.size,1,none⟩) (Nat.le_refl _) _
      have O8:Hid (OwnT w1.heap.size ((w7.setCell ⟨w.heap.size,0,none⟩ (.int .i64 e)).setCell ⟨w.heap.size,1,none⟩ (.slice a7 A.length c7)) (.slice a6 (L.length+1) c6) (L ++ [(kd,fm,tn,am,nc)])):=hide (((O6.out.below hb7 (Nat.le_refl _)).notg (grown_set _ w.heap.size 0 _) (by omega)).notg (grown_set _ w.heap.size 1 _) (by omega))
      have K8:Hid (Blk ((w7.setCell ⟨w.heap.size,0,none⟩ (.int .i64 e)).setCell ⟨w.heap.size,1,none⟩ (.slice a7 A.length c7)) w.heap.size 26 [.int .i64 e,.slice a7 A.length c7]):=hide ((k7.set 0 _).set 1 _)
      have X8:Hid (KpG w g w6.heap.size w7.heap.size ((w7.setCell ⟨w.heap.size,0,none⟩ (.int .i64 e)).setCell ⟨w.heap.size,1,none⟩ (.slice a7 A.length c7)) (.slice a7 A.length c7) A):=hide (((kpG_ox o7.ox (Nat.le_refl _)).grown (grown_set _ w.heap.size 0 (.int .i64 e)) (fun k hk=>by cases hk;exact .inl (by omega))).grown (grown_set _ w.heap.size 1 (.slice a7 A.length c7)) (fun k hk=>by cases hk;exact .inl (by omega)))
      have C8:Hid (Cur w0 ((w7.setCell ⟨w.heap.size,0,none⟩ (.int .i64 e)).setCell ⟨w.heap.size,1,none⟩ (.slice a7 A.length c7)) g cv code):=hide ((C6.out.below hb7 C6.out.lt).below hb8 hgl)
      have G8:Hid (w.grownBy ((w7.setCell ⟨w.heap.size,0,none⟩ (.int .i64 e)).setCell ⟨w.heap.size,1,none⟩ (.slice a7 A.length c7)) (some g)):=hide ⟨hb8.os.trans (hb7.os.trans HG6.out.os),hb8.tape.trans (hb7.tape.trans HG6.out.tape),hb8.output.trans (hb7.output.trans HG6.out.output),Nat.le_trans HG6.out.size (Nat.le_trans hb7.size hb8.size),fun k hk hn=>(hb8.block k hk).trans ((hb7.block k (by have:=HG6.out.size;omega)).trans (HG6.out.block k hk hn))⟩
      have HL8:Hid (∀ k,(Value.slice a6 (L.length+1) c6).ownBlock=some k->k < w6.heap.size\/w7.heap.size<=k):=hide (fun k hk=>.inl (O6.out.lt k hk).2)
      have Z8:Hid (w1.heap.size<=((w7.setCell ⟨w.heap.size,0,none⟩ (.int .i64 e)).setCell ⟨w.heap.size,1,none⟩ (.slice a7 A.length c7)).heap.size):=hide (by have:=hb8.size;omega)
      have hsm8:Hid (∀ x ∈ L ++ [(kd,fm,tn,am,nc)],x.2.1.size<=9/\x.2.2.1.size<=9):=hide (fun y hy=>by
        rcases List.mem_append.1 hy with h | h
        · exact HS.out y h
        · rw [List.mem_singleton.1 h];exact ⟨ht1,ht2⟩)
      clear hb8 k7 o7 hb7 O6 K6 C6 HG6 s1 u0 u1 y0 y1 y2 y3 y4
      go_wp2
      go_roundw
      case rel=>exact ⟨i - 1,L ++ [(kd,fm,tn,am,nc)],A,a7,a6,c7,c6,w6.heap.size,w7.heap.size,by simp;omega,by first | go_num | (congr 1;omega),by simp,by rw [List.length_append,List.length_singleton];exact O8.out,hsm8.out,K8.out,X8.out,FWA.out,by rw [List.length_append,List.length_singleton];exact HL8.out,.inl hz6',Z8.out,C8.out,G8.out⟩
      case measure=>simp [intOf];omega
    · have hpos:¬ ((0:Int) < (i:Int)):=by omega
      go_wp2
      go_ret
      exact ⟨_,L,rfl,own_to HO.out (by have:=S1.out;omega),by omega,HS.out,HC.out,HG.out⟩
end Go.Proofs.YtohachldbpejpaaGreatDoor
