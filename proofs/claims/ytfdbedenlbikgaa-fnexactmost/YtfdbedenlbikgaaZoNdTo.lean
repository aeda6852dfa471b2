/- A node. -/
import Derived.Test.YtfdbedenlbikgaaZoAcEqS
import Derived.Test.YtfdbedenlbikgaaZoAcHeld
set_option maxRecDepth 20000
set_option maxHeartbeats 8000000
namespace Go.Proofs.Ytfdbedenlbikgaa
open Go.RowKit
set_option linter.unusedVariables false
def lgV (e:Int) (v:Value):Value:=.agg #[.int .i64 e,v]
theorem OwnA.older {base:Nat} {w:World} {v:Value} {l:List Ac} (h:OwnA base w v l) {g:Nat} (hg:g < base) (j:Nat) (u:Value):OwnA base (w.setCell ⟨g,j,none⟩ u) v l :=
  (h.ox.btw (Btw.of_grown (lo:=0) (hi:=base) (grown_set w g j u) (fun k hk=>⟨Nat.zero_le _,by cases hk;exact hg⟩)) (.inr (Nat.le_refl _))).own
theorem toLedger_any (e:Int) (v:Value) (l:List Ac) (w:World) (hr:RdA w v l) (hl:l.length<=4000000) (hall:∀ a ∈ l,a.2.2.2.2.length<=4000000) :
    Calls Try.prog 18 #[lgV e v] w fun en w'=>∃ v',en=.returned (lgV e v')/\OwnA w.heap.size w' v' l/\Below w.heap.size w w':=by
  obtain ⟨av,cv,rfl⟩:=hr.shape
  have Hr:=hide hr
  clear hr
  simp only [lgV] at *
  go_enter Try.func18,Try.ntmps18
  go_wp2_with fail
  obtain ⟨w3,hw3⟩:∃ w3,((w.alloc (.cells #[.int .i64 e,.slice av l.length cv] 24)).alloc (.cells #[.int .i64 0,.slice none 0 0] 36)).alloc (.cells #[.int .i64 e,.slice none 0 0] 36)=w3:=⟨_,rfl⟩
  rw [hw3]
  have hb3:Below w.heap.size w w3:=by rw [<- hw3];exact (((Below.refl _ w).alloc (Nat.le_refl _) _).alloc (by simp) _).alloc (by simp;omega) _
  have hs3:w3.heap.size=w.heap.size+3:=by rw [<- hw3];simp
  have kO:Blk w3 (w.heap.size+1+1) 36 [.int .i64 e,.slice none 0 0]:=by
    rw [<- hw3]
    have h:=Blk.new ((w.alloc (.cells #[.int .i64 e,.slice av l.length cv] 24)).alloc (.cells #[.int .i64 0,.slice none 0 0] 36)) 36 [.int .i64 e,.slice none 0 0]
    simp only [World.size_alloc] at h
    exact h
  have kR:Blk w3 (w.heap.size+1) 36 [.int .i64 0,.slice none 0 0]:=by
    rw [<- hw3]
    have h:=Blk.new (w.alloc (.cells #[.int .i64 e,.slice av l.length cv] 24)) 36 [.int .i64 0,.slice none 0 0]
    simp only [World.size_alloc] at h
    exact h.below ((Below.refl (w.heap.size+2) _).alloc (by simp) _) (by omega)
  refine (toAcctS_any _ l _ (Hr.out.below hb3 (Nat.le_refl _)) hl hall).mono ?_
  rintro en w4 ⟨v4,rfl,ho4,hb4⟩
  have kO4:=kO.below hb4 (by omega)
  have kR4:=kR.below hb4 (by omega)
  have c0:=kO4.cell 0
  have c1:=kO4.cell 1
  have g1:=kO4.frozen 1
  have r0:=kR4.cell 0
  have r1:=kR4.cell 1
  have q0:=kR4.frozen 0
  have q1:=kR4.frozen 1
  simp only [List.getElem?_cons_zero,List.getElem?_cons_succ] at c0 c1 r0 r1
  obtain ⟨a4,cv4,rfl⟩:=ho4.rd.shape
  have Ho:=hide ho4
  have Hb:=hide (hb3.trans (hb4.mono hb3.size))
  clear ho4 hb4 kO kR kO4 kR4 hw3 hb3
  go_wp2
  refine bodyPost_ret (v:=.agg #[.int .i64 e,.slice a4 l.length cv4]) (by simp [results,Try.f18,go_sem,r0,r1]) rfl ?_
  refine ⟨_,rfl,?_,?_⟩
  · exact (((Ho.out.older (by omega) _ _).older (by omega) _ _).older (by omega) _ _).mono (by omega)
  · exact ((Hb.out.setCell (p:=⟨w.heap.size+1+1,1,none⟩) (show w.heap.size<=w.heap.size+1+1 by omega) _).setCell (p:=⟨w.heap.size+1,0,none⟩) (show w.heap.size<=w.heap.size+1 by omega) _).setCell (p:=⟨w.heap.size+1,1,none⟩) (show w.heap.size<=w.heap.size+1 by omega) _
open Classical in
theorem eqLedger_any (e1 e2:Int) (v1 v2:Value) (l1 l2:List Ac) (w:World) (hr1:RdA w v1 l1) (hr2:RdA w v2 l2) (hl1:l1.length<=4000000) (hl2:l2.length<=4000000) (ha1:∀ a ∈ l1,a.2.2.2.2.length<=4000000) (ha2:∀ a ∈ l2,a.2.2.2.2.length<=4000000) :
    Calls Try.prog 26 #[lgV e1 v1,lgV e2 v2] w fun e w'=>e=.returned (.bool (decide (e1=e2) && decide (l1=l2)))/\Below w.heap.size w w':=by
  obtain ⟨a1,cv1,rfl⟩:=hr1.shape
  obtain ⟨a2,cv2,rfl⟩:=hr2.shape
  simp only [lgV] at *
  have hb3:Below w.heap.size w ((w.alloc (.cells #[.int .i64 e1,.slice a1 l1.length cv1] 36)).alloc (.cells #[.int .i64 e2,.slice a2 l2.length cv2] 36)):=((Below.refl _ w).alloc (Nat.le_refl _) _).alloc (by simp) _
  have HE:=hide (eqAcctS_any _ _ l1 l2 _ (hr1.below hb3 (Nat.le_refl _)) (hr2.below hb3 (Nat.le_refl _)) hl1 hl2 ha1 ha2)
  have Hb3:=hide hb3
  clear hb3 hr1 hr2
  generalize decide (l1=l2)=D at HE ⊢
  by_cases h1:e1=e2
  · rw [decide_eq_true h1,Bool.true_and]
    subst h1
    go_enter Try.func26,Try.ntmps26
    go_wp2_with fail
    refine HE.out.mono ?_
    rintro e w3 ⟨rfl,hb3⟩
    have HB:=hide (Hb3.out.trans (hb3.mono Hb3.out.size))
    clear hb3 Hb3 HE
    cases D
    · go_wp2
      go_ret
      exact ⟨rfl,HB.out⟩
    · go_wp2
      go_ret
      exact ⟨rfl,HB.out⟩
  · rw [decide_eq_false h1,Bool.false_and]
    have hq:(e1 != e2)=true:=by rw [bne_iff_ne];exact h1
    clear h1 HE
    go_enter Try.func26,Try.ntmps26
    go_wp2
    go_ret
    exact ⟨rfl,Hb3.out⟩
theorem szLedger_any (e:Int) (v:Value) (l:List Ac) (m:Nat) (w:World) (hr:RdA w v l) (hm:m<=100000000) (hl:l.length<=9223372036854775807) (hs:∀ a ∈ l,a.1.size<=9223372036854775807/\a.2.2.2.2.length<=9223372036854775807) :
    Calls Try.prog 12 #[lgV e v,.int .i64 (m:Int)] w fun en w'=>∃ r:Int,en=.returned (.int .i64 r)/\(0<=r->l.length+totA l<=m/\r<=(m:Int))/\Below w.heap.size w w':=by
  obtain ⟨a1,cv1,rfl⟩:=hr.shape
  simp only [lgV] at *
  have hb3:Below w.heap.size w (w.alloc (.cells #[.int .i64 e,.slice a1 l.length cv1] 24)):=(Below.refl _ w).alloc (Nat.le_refl _) _
  have HE:=hide (szAcctS_any _ l m _ (hr.below hb3 (Nat.le_refl _)) hm hl hs)
  have Hb3:=hide hb3
  clear hb3 hr
  go_enter Try.func12,Try.ntmps12
  go_wp2_with fail
  refine HE.out.mono ?_
  rintro en w3 ⟨r,rfl,hr3,hb3⟩
  have HB:=hide (Hb3.out.trans (hb3.mono Hb3.out.size))
  have HR:=hide hr3
  clear hb3 Hb3 HE hr3
  by_cases h:r < 0
  · go_wp2
    go_ret
    exact ⟨-1,rfl,by omega,HB.out⟩
  · go_wp2
    go_ret
    exact ⟨r,rfl,HR.out,HB.out⟩
structure FewNd (p:Nd):Prop where
  na:p.la.length<=4000000
  fa:∀ a ∈ p.la,a.2.2.2.2.length<=4000000
  ns:p.st.length<=4000000
  nt:p.tt.length<=4000000
  ft:∀ b ∈ p.tt,FewK b
  nw:p.hw.length<=4000000
  nx:p.tw.length<=4000000
  nh:p.th.length<=4000000
  nv:p.vo.length<=4000000
  ng:p.go.length<=4000000
  nd:p.dn.length<=4000000
  np:p.pl.length<=4000000
  nq:p.ps.length<=4000000
  fq:∀ q ∈ p.ps,FewPf q
theorem Try.infoNd:(Try.prog.info? 63).map (·.size)=some 20:=by kernel_rfl
theorem res_toNode {X:World} {a:Act} {R:Ending->World->Prop} {F:List Value} (g:Nat) (h:X.rangeAt g 0 F) (h2:a.tmps[2]?.getD undef=.pointer (some ⟨g,0,none⟩)) (hs:(Try.prog.info? 63).map (·.size)=some F.length) (hd:a.defers=[]) (hR:R (.returned (.agg F.toArray)) X):bodyPost Try.prog Try.f39 R .ret a X:=by
  have hl:=run_loadVar_mid (P:=Try.prog) X g 0 63 F _ h Try.underlying63 rfl hs
  refine bodyPost_ret (v:=.agg F.toArray) ?_ hd hR
  simp [results,Try.f39,h2,asAddr,hl]
theorem toNode_any (p:Nd) (u:Nv) (w:World) (hr:RdNd w p u) (hf:FewNd p) :
    Calls Try.prog 39 #[noV p u] w fun e w'=>∃ u',e=.returned (noV p u')/\OwnNd w.heap.size w'.heap.size w' p u'/\Below w.heap.size w w':=by
  have hna:=hf.na
  have hfa:=hf.fa
  have hns:=hf.ns
  have hnt:=hf.nt
  have hft:=hf.ft
  have hnw:=hf.nw
  have hnx:=hf.nx
  have hnh:=hf.nh
  have hnv:=hf.nv
  have hng:=hf.ng
  have hnd:=hf.nd
  have hnp:=hf.np
  have hnq:=hf.nq
  have hfq:=hf.fq
  clear hf
  obtain ⟨nm,ep,be,la,st,tt,rd,vd,hr,hb,hw,tr,tw,th,ld,vo,go,dn,pl,ps⟩:=p
  obtain ⟨ya,ys,yt,yw,yx,yh,yv,yg,yd,yp,yq⟩:=u
  obtain ⟨hya,hys,hyt,hyw,hyx,hyh,hyv,hyg,hyd,hyp,hyq⟩:=hr
  simp only at *
  obtain ⟨ada,cpa,rfl⟩:=hya.shape
  obtain ⟨ads,cps,rfl⟩:=hys.shape
  obtain ⟨adt,cpt,rfl⟩:=hyt.shape
  obtain ⟨adw,cpw,rfl⟩:=hyw.shape
  obtain ⟨adx,cpx,rfl⟩:=hyx.shape
  obtain ⟨adh,cph,rfl⟩:=hyh.shape
  obtain ⟨adv,cpv,rfl⟩:=hyv.shape
  obtain ⟨adg,cpg,rfl⟩:=hyg.shape
  obtain ⟨add,cpd,rfl⟩:=hyd.shape
  obtain ⟨adp,cpp,rfl⟩:=hyp.shape
  obtain ⟨adq,cpq,rfl⟩:=hyq.shape
  have E1:=hide (fun V (hV:Below w.heap.size w V)=>toLedger_any be (.slice ada la.length cpa) la V (hya.below hV (Nat.le_refl _)) hna hfa)
  have E2:=hide (fun V (hV:Below w.heap.size w V)=>toValS_any (.slice ads st.length cps) st V (hys.below hV (Nat.le_refl _)) hns)
  have E3:=hide (fun V (hV:Below w.heap.size w V)=>toBlockS_any (.slice adt tt.length cpt) tt V (hyt.below hV (Nat.le_refl _)) hnt hft)
  have E4:=hide (fun V (hV:Below w.heap.size w V)=>toQc_any hr hb (.slice adw hw.length cpw) hw V (hyw.below hV (Nat.le_refl _)) hnw)
  have E5:=hide (fun V (hV:Below w.heap.size w V)=>toTc_any tr (.slice adx tw.length cpx) (.slice adh th.length cph) tw th V (hyx.below hV (Nat.le_refl _)) (hyh.below hV (Nat.le_refl _)) hnx hnh)
  have E6:=hide (fun V (hV:Below w.heap.size w V)=>toVoteS_any (.slice adv vo.length cpv) vo V (hyv.below hV (Nat.le_refl _)) hnv)
  have E7:=hide (fun V (hV:Below w.heap.size w V)=>toGoneS_any (.slice adg go.length cpg) go V (hyg.below hV (Nat.le_refl _)) hng)
  have E8:=hide (fun V (hV:Below w.heap.size w V)=>toIntS_any (.slice add dn.length cpd) dn V (hyd.below hV (Nat.le_refl _)) hnd)
  have E9:=hide (fun V (hV:Below w.heap.size w V)=>toTxS_any (.slice adp pl.length cpp) pl V (hyp.below hV (Nat.le_refl _)) hnp)
  have E10:=hide (fun V (hV:Below w.heap.size w V)=>toProofS_any (.slice adq ps.length cpq) ps V (hyq.below hV (Nat.le_refl _)) hnq hfq)
  clear hya hys hyt hyw hyx hyh hyv hyg hyd hyp hyq
  clear hfa
  clear hft
  clear hfq
  simp only [noV,qcV,tcV,lgV] at *
  go_enter Try.func39,Try.ntmps39
  go_wp2_with fail
  obtain ⟨S0,hS0⟩:∃ x,((w.alloc (.cells #[.string nm,.int .i64 ep,.int .i64 be,.slice ada la.length cpa,.slice ads st.length cps,.slice adt tt.length cpt,.int .i64 rd,.int .i64 vd,.int .i64 hr,.int .i64 hb,.slice adw hw.length cpw,.int .i64 tr,.slice adx tw.length cpx,.slice adh th.length cph,.int .i64 ld,.slice adv vo.length cpv,.slice adg go.length cpg,.slice add dn.length cpd,.slice adp pl.length cpp,.slice adq ps.length cpq] 88)).alloc (.cells #[.string { data:=#[] },.int .i64 0,.int .i64 0,.slice none 0 0,.slice none 0 0,.slice none 0 0,.int .i64 0,.int .i64 0,.int .i64 0,.int .i64 0,.slice none 0 0,.int .i64 0,.slice none 0 0,.slice none 0 0,.int .i64 0,.slice none 0 0,.slice none 0 0,.slice none 0 0,.slice none 0 0,.slice none 0 0] 63)).alloc (.cells #[.string nm,.int .i64 ep,.int .i64 0,.slice none 0 0,.slice none 0 0,.slice none 0 0,.int .i64 0,.int .i64 0,.int .i64 0,.int .i64 0,.slice none 0 0,.int .i64 0,.slice none 0 0,.slice none 0 0,.int .i64 0,.slice none 0 0,.slice none 0 0,.slice none 0 0,.slice none 0 0,.slice none 0 0] 63)=x:=⟨_,rfl⟩
  rw [hS0]
  have C0:=hide (show Tg 88 63 [.string { data:=#[] },.int .i64 0,.int .i64 0,.slice none 0 0,.slice none 0 0,.slice none 0 0,.int .i64 0,.int .i64 0,.int .i64 0,.int .i64 0,.slice none 0 0,.int .i64 0,.slice none 0 0,.slice none 0 0,.int .i64 0,.slice none 0 0,.slice none 0 0,.slice none 0 0,.slice none 0 0,.slice none 0 0] [.string nm,.int .i64 ep,.int .i64 be,.slice ada la.length cpa,.slice ads st.length cps,.slice adt tt.length cpt,.int .i64 rd,.int .i64 vd,.int .i64 hr,.int .i64 hb,.slice adw hw.length cpw,.int .i64 tr,.slice adx tw.length cpx,.slice adh th.length cph,.int .i64 ld,.slice adv vo.length cpv,.slice adg go.length cpg,.slice add dn.length cpd,.slice adp pl.length cpp,.slice adq ps.length cpq] w S0 [.string nm,.int .i64 ep,.int .i64 0,.slice none 0 0,.slice none 0 0,.slice none 0 0,.int .i64 0,.int .i64 0,.int .i64 0,.int .i64 0,.slice none 0 0,.int .i64 0,.slice none 0 0,.slice none 0 0,.int .i64 0,.slice none 0 0,.slice none 0 0,.slice none 0 0,.slice none 0 0,.slice none 0 0] from by
    rw [<- hS0]
    exact ⟨(Blk.new w _ _).below (((Below.refl (w.heap.size+1) _).alloc (by simp) _).alloc (by simp) _) (by omega),(Blk.newR _ _ [.string { data:=#[] },.int .i64 0,.int .i64 0,.slice none 0 0,.slice none 0 0,.slice none 0 0,.int .i64 0,.int .i64 0,.int .i64 0,.int .i64 0,.slice none 0 0,.int .i64 0,.slice none 0 0,.slice none 0 0,.int .i64 0,.slice none 0 0,.slice none 0 0,.slice none 0 0,.slice none 0 0,.slice none 0 0] _ (by simp)).below ((Below.refl (w.heap.size+2) _).alloc (by simp) _) (by omega),Blk.newR _ _ [.string nm,.int .i64 ep,.int .i64 0,.slice none 0 0,.slice none 0 0,.slice none 0 0,.int .i64 0,.int .i64 0,.int .i64 0,.int .i64 0,.slice none 0 0,.int .i64 0,.slice none 0 0,.slice none 0 0,.int .i64 0,.slice none 0 0,.slice none 0 0,.slice none 0 0,.slice none 0 0,.slice none 0 0] _ (by simp),(((Below.refl _ w).alloc (Nat.le_refl _) _).alloc (by simp) _).alloc (by simp;omega) _⟩)
  clear hS0
  refine (E1.out S0 C0.out.b).mono ?_
  rintro e w1 ⟨v1,rfl,o1,hb1⟩
  obtain ⟨bda,bpa,rfl⟩:=o1.rd.shape
  have G1:=C0.out.call hb1
  have q2:=G1.o.cell 2
  have g2:=G1.o.frozen 2
  have q3:=G1.o.cell 3
  have g3:=G1.o.frozen 3
  simp only [List.getElem?_cons_zero,List.getElem?_cons_succ] at q2 q3
  obtain ⟨S1,hS1⟩:∃ x,((w1).setCell ⟨w.heap.size+2,2,none⟩ (.int .i64 be)).setCell ⟨w.heap.size+2,3,none⟩ (.slice bda la.length bpa)=x:=⟨_,rfl⟩
  have C1:=hide (show Tg 88 63 [.string { data:=#[] },.int .i64 0,.int .i64 0,.slice none 0 0,.slice none 0 0,.slice none 0 0,.int .i64 0,.int .i64 0,.int .i64 0,.int .i64 0,.slice none 0 0,.int .i64 0,.slice none 0 0,.slice none 0 0,.int .i64 0,.slice none 0 0,.slice none 0 0,.slice none 0 0,.slice none 0 0,.slice none 0 0] [.string nm,.int .i64 ep,.int .i64 be,.slice ada la.length cpa,.slice ads st.length cps,.slice adt tt.length cpt,.int .i64 rd,.int .i64 vd,.int .i64 hr,.int .i64 hb,.slice adw hw.length cpw,.int .i64 tr,.slice adx tw.length cpx,.slice adh th.length cph,.int .i64 ld,.slice adv vo.length cpv,.slice adg go.length cpg,.slice add dn.length cpd,.slice adp pl.length cpp,.slice adq ps.length cpq] w S1 [.string nm,.int .i64 ep,.int .i64 be,.slice bda la.length bpa,.slice none 0 0,.slice none 0 0,.int .i64 0,.int .i64 0,.int .i64 0,.int .i64 0,.slice none 0 0,.int .i64 0,.slice none 0 0,.slice none 0 0,.int .i64 0,.slice none 0 0,.slice none 0 0,.slice none 0 0,.slice none 0 0,.slice none 0 0] from by rw [<- hS1];exact ((G1.put 2 _).put 3 _))
  have P1:=hide (show Oth (fun g=>g=w.heap.size+2) S0 S1 from by rw [<- hS1];exact ((tg_oth hb1 2 _).set (S:=fun g=>g=w.heap.size+2) rfl 3 _))
  have N1:=hide (show w1.heap.size=S1.heap.size from by rw [<- hS1];simp)
  have Ra:=hide (show OwnX S0.heap.size S1.heap.size S1 (.slice bda la.length bpa) la from by rw [<- N1.out,<- hS1];exact ((OwnA.ox o1)).kept ((Kept.set _ 2 _ (.inl (by have:=C0.out.lt;omega))).trans (Kept.set _ 3 _ (.inl (by have:=C0.out.lt;omega)))))
  clear G1 hb1 o1
  have p4:=C1.out.p.cell 4
  simp only [List.getElem?_cons_zero,List.getElem?_cons_succ] at p4
  go_wp2_with fail
  (try rw [hS1])
  clear p4 q2 q3 g2 g3  hS1
  refine (E2.out S1 C1.out.b).mono ?_
  rintro e w2 ⟨v2,rfl,o2,hb2⟩
  obtain ⟨bds,bps,rfl⟩:=o2.rd.shape
  have G2:=C1.out.call hb2
  have q4:=G2.o.cell 4
  have g4:=G2.o.frozen 4
  simp only [List.getElem?_cons_zero,List.getElem?_cons_succ] at q4
  obtain ⟨S2,hS2⟩:∃ x,(w2).setCell ⟨w.heap.size+2,4,none⟩ (.slice bds st.length bps)=x:=⟨_,rfl⟩
  have C2:=hide (show Tg 88 63 [.string { data:=#[] },.int .i64 0,.int .i64 0,.slice none 0 0,.slice none 0 0,.slice none 0 0,.int .i64 0,.int .i64 0,.int .i64 0,.int .i64 0,.slice none 0 0,.int .i64 0,.slice none 0 0,.slice none 0 0,.int .i64 0,.slice none 0 0,.slice none 0 0,.slice none 0 0,.slice none 0 0,.slice none 0 0] [.string nm,.int .i64 ep,.int .i64 be,.slice ada la.length cpa,.slice ads st.length cps,.slice adt tt.length cpt,.int .i64 rd,.int .i64 vd,.int .i64 hr,.int .i64 hb,.slice adw hw.length cpw,.int .i64 tr,.slice adx tw.length cpx,.slice adh th.length cph,.int .i64 ld,.slice adv vo.length cpv,.slice adg go.length cpg,.slice add dn.length cpd,.slice adp pl.length cpp,.slice adq ps.length cpq] w S2 [.string nm,.int .i64 ep,.int .i64 be,.slice bda la.length bpa,.slice bds st.length bps,.slice none 0 0,.int .i64 0,.int .i64 0,.int .i64 0,.int .i64 0,.slice none 0 0,.int .i64 0,.slice none 0 0,.slice none 0 0,.int .i64 0,.slice none 0 0,.slice none 0 0,.slice none 0 0,.slice none 0 0,.slice none 0 0] from by rw [<- hS2];exact (G2.put 4 _))
  have P2:=hide (show Oth (fun g=>g=w.heap.size+2) S1 S2 from by rw [<- hS2];exact (tg_oth hb2 4 _))
  have N2:=hide (show w2.heap.size=S2.heap.size from by rw [<- hS2];simp)
  have Rs:=hide (show InV S1.heap.size S2.heap.size S2 (.slice bds st.length bps) st from by rw [<- N2.out,<- hS2];exact ((InV.of o2)).kept (Kept.set _ 4 _ (.inl (by have:=C1.out.lt;omega))))
  clear G2 hb2 o2
  have p5:=C2.out.p.cell 5
  simp only [List.getElem?_cons_zero,List.getElem?_cons_succ] at p5
  go_wp2_with fail
  (try rw [hS2])
  clear p5 q4 g4  hS2
  refine (E3.out S2 C2.out.b).mono ?_
  rintro e w3 ⟨v3,rfl,o3,hb3⟩
  obtain ⟨bdt,bpt,rfl⟩:=o3.rd.shape
  have G3:=C2.out.call hb3
  have q5:=G3.o.cell 5
  have g5:=G3.o.frozen 5
  have q6:=G3.o.cell 6
  have g6:=G3.o.frozen 6
  have q7:=G3.o.cell 7
  have g7:=G3.o.frozen 7
  simp only [List.getElem?_cons_zero,List.getElem?_cons_succ] at q5 q6 q7
  have m6:=G3.p.cell 6
  have m7:=G3.p.cell 7
  simp only [List.getElem?_cons_zero,List.getElem?_cons_succ] at m6 m7
  obtain ⟨S3,hS3⟩:∃ x,(((w3).setCell ⟨w.heap.size+2,5,none⟩ (.slice bdt tt.length bpt)).setCell ⟨w.heap.size+2,6,none⟩ (.int .i64 rd)).setCell ⟨w.heap.size+2,7,none⟩ (.int .i64 vd)=x:=⟨_,rfl⟩
  have C3:=hide (show Tg 88 63 [.string { data:=#[] },.int .i64 0,.int .i64 0,.slice none 0 0,.slice none 0 0,.slice none 0 0,.int .i64 0,.int .i64 0,.int .i64 0,.int .i64 0,.slice none 0 0,.int .i64 0,.slice none 0 0,.slice none 0 0,.int .i64 0,.slice none 0 0,.slice none 0 0,.slice none 0 0,.slice none 0 0,.slice none 0 0] [.string nm,.int .i64 ep,.int .i64 be,.slice ada la.length cpa,.slice ads st.length cps,.slice adt tt.length cpt,.int .i64 rd,.int .i64 vd,.int .i64 hr,.int .i64 hb,.slice adw hw.length cpw,.int .i64 tr,.slice adx tw.length cpx,.slice adh th.length cph,.int .i64 ld,.slice adv vo.length cpv,.slice adg go.length cpg,.slice add dn.length cpd,.slice adp pl.length cpp,.slice adq ps.length cpq] w S3 [.string nm,.int .i64 ep,.int .i64 be,.slice bda la.length bpa,.slice bds st.length bps,.slice bdt tt.length bpt,.int .i64 rd,.int .i64 vd,.int .i64 0,.int .i64 0,.slice none 0 0,.int .i64 0,.slice none 0 0,.slice none 0 0,.int .i64 0,.slice none 0 0,.slice none 0 0,.slice none 0 0,.slice none 0 0,.slice none 0 0] from by rw [<- hS3];exact (((G3.put 5 _).put 6 _).put 7 _))
  have P3:=hide (show Oth (fun g=>g=w.heap.size+2) S2 S3 from by rw [<- hS3];exact (((tg_oth hb3 5 _).set (S:=fun g=>g=w.heap.size+2) rfl 6 _).set (S:=fun g=>g=w.heap.size+2) rfl 7 _))
  have N3:=hide (show w3.heap.size=S3.heap.size from by rw [<- hS3];simp)
  have Rt:=hide (show OwnKx S2.heap.size S3.heap.size S3 (.slice bdt tt.length bpt) tt from by rw [<- N3.out,<- hS3];exact ((OwnKs.kx o3)).kept (((Kept.set _ 5 _ (.inl (by have:=C2.out.lt;omega))).trans (Kept.set _ 6 _ (.inl (by have:=C2.out.lt;omega)))).trans (Kept.set _ 7 _ (.inl (by have:=C2.out.lt;omega)))))
  clear G3 hb3 o3
  have p8:=C3.out.p.cell 8
  have p9:=C3.out.p.cell 9
  have p10:=C3.out.p.cell 10
  simp only [List.getElem?_cons_zero,List.getElem?_cons_succ] at p8 p9 p10
  go_wp2_with fail
  (try rw [hS3])
  clear p8 p9 p10 q5 q6 q7 g5 g6 g7 m6 m7 hS3
  refine (E4.out S3 C3.out.b).mono ?_
  rintro e w4 ⟨v4,rfl,o4,hb4⟩
  obtain ⟨bdw,bpw,rfl⟩:=o4.rd.shape
  have G4:=C3.out.call hb4
  have q8:=G4.o.cell 8
  have g8:=G4.o.frozen 8
  have q9:=G4.o.cell 9
  have g9:=G4.o.frozen 9
  have q10:=G4.o.cell 10
  have g10:=G4.o.frozen 10
  simp only [List.getElem?_cons_zero,List.getElem?_cons_succ] at q8 q9 q10
  obtain ⟨S4,hS4⟩:∃ x,(((w4).setCell ⟨w.heap.size+2,8,none⟩ (.int .i64 hr)).setCell ⟨w.heap.size+2,9,none⟩ (.int .i64 hb)).setCell ⟨w.heap.size+2,10,none⟩ (.slice bdw hw.length bpw)=x:=⟨_,rfl⟩
  have C4:=hide (show Tg 88 63 [.string { data:=#[] },.int .i64 0,.int .i64 0,.slice none 0 0,.slice none 0 0,.slice none 0 0,.int .i64 0,.int .i64 0,.int .i64 0,.int .i64 0,.slice none 0 0,.int .i64 0,.slice none 0 0,.slice none 0 0,.int .i64 0,.slice none 0 0,.slice none 0 0,.slice none 0 0,.slice none 0 0,.slice none 0 0] [.string nm,.int .i64 ep,.int .i64 be,.slice ada la.length cpa,.slice ads st.length cps,.slice adt tt.length cpt,.int .i64 rd,.int .i64 vd,.int .i64 hr,.int .i64 hb,.slice adw hw.length cpw,.int .i64 tr,.slice adx tw.length cpx,.slice adh th.length cph,.int .i64 ld,.slice adv vo.length cpv,.slice adg go.length cpg,.slice add dn.length cpd,.slice adp pl.length cpp,.slice adq ps.length cpq] w S4 [.string nm,.int .i64 ep,.int .i64 be,.slice bda la.length bpa,.slice bds st.length bps,.slice bdt tt.length bpt,.int .i64 rd,.int .i64 vd,.int .i64 hr,.int .i64 hb,.slice bdw hw.length bpw,.int .i64 0,.slice none 0 0,.slice none 0 0,.int .i64 0,.slice none 0 0,.slice none 0 0,.slice none 0 0,.slice none 0 0,.slice none 0 0] from by rw [<- hS4];exact (((G4.put 8 _).put 9 _).put 10 _))
  have P4:=hide (show Oth (fun g=>g=w.heap.size+2) S3 S4 from by rw [<- hS4];exact (((tg_oth hb4 8 _).set (S:=fun g=>g=w.heap.size+2) rfl 9 _).set (S:=fun g=>g=w.heap.size+2) rfl 10 _))
  have N4:=hide (show w4.heap.size=S4.heap.size from by rw [<- hS4];simp)
  have Rw:=hide (show InS S3.heap.size S4.heap.size S4 (.slice bdw hw.length bpw) hw from by rw [<- N4.out,<- hS4];exact ((InS.of o4)).kept (((Kept.set _ 8 _ (.inl (by have:=C3.out.lt;omega))).trans (Kept.set _ 9 _ (.inl (by have:=C3.out.lt;omega)))).trans (Kept.set _ 10 _ (.inl (by have:=C3.out.lt;omega)))))
  clear G4 hb4 o4
  have p11:=C4.out.p.cell 11
  have p12:=C4.out.p.cell 12
  have p13:=C4.out.p.cell 13
  simp only [List.getElem?_cons_zero,List.getElem?_cons_succ] at p11 p12 p13
  go_wp2_with fail
  (try rw [hS4])
  clear p11 p12 p13 q8 q9 q10 g8 g9 g10  hS4
  refine (E5.out S4 C4.out.b).mono ?_
  rintro e w5 ⟨v5,z5,rfl,o5,i5,hb5⟩
  obtain ⟨bdx,bpx,rfl⟩:=o5.rd.shape
  obtain ⟨bdh,bph,rfl⟩:=i5.rd.shape
  have G5:=C4.out.call hb5
  have q11:=G5.o.cell 11
  have g11:=G5.o.frozen 11
  have q12:=G5.o.cell 12
  have g12:=G5.o.frozen 12
  have q13:=G5.o.cell 13
  have g13:=G5.o.frozen 13
  have q14:=G5.o.cell 14
  have g14:=G5.o.frozen 14
  simp only [List.getElem?_cons_zero,List.getElem?_cons_succ] at q11 q12 q13 q14
  have m14:=G5.p.cell 14
  simp only [List.getElem?_cons_zero,List.getElem?_cons_succ] at m14
  obtain ⟨S5,hS5⟩:∃ x,((((w5).setCell ⟨w.heap.size+2,11,none⟩ (.int .i64 tr)).setCell ⟨w.heap.size+2,12,none⟩ (.slice bdx tw.length bpx)).setCell ⟨w.heap.size+2,13,none⟩ (.slice bdh th.length bph)).setCell ⟨w.heap.size+2,14,none⟩ (.int .i64 ld)=x:=⟨_,rfl⟩
  have C5:=hide (show Tg 88 63 [.string { data:=#[] },.int .i64 0,.int .i64 0,.slice none 0 0,.slice none 0 0,.slice none 0 0,.int .i64 0,.int .i64 0,.int .i64 0,.int .i64 0,.slice none 0 0,.int .i64 0,.slice none 0 0,.slice none 0 0,.int .i64 0,.slice none 0 0,.slice none 0 0,.slice none 0 0,.slice none 0 0,.slice none 0 0] [.string nm,.int .i64 ep,.int .i64 be,.slice ada la.length cpa,.slice ads st.length cps,.slice adt tt.length cpt,.int .i64 rd,.int .i64 vd,.int .i64 hr,.int .i64 hb,.slice adw hw.length cpw,.int .i64 tr,.slice adx tw.length cpx,.slice adh th.length cph,.int .i64 ld,.slice adv vo.length cpv,.slice adg go.length cpg,.slice add dn.length cpd,.slice adp pl.length cpp,.slice adq ps.length cpq] w S5 [.string nm,.int .i64 ep,.int .i64 be,.slice bda la.length bpa,.slice bds st.length bps,.slice bdt tt.length bpt,.int .i64 rd,.int .i64 vd,.int .i64 hr,.int .i64 hb,.slice bdw hw.length bpw,.int .i64 tr,.slice bdx tw.length bpx,.slice bdh th.length bph,.int .i64 ld,.slice none 0 0,.slice none 0 0,.slice none 0 0,.slice none 0 0,.slice none 0 0] from by rw [<- hS5];exact ((((G5.put 11 _).put 12 _).put 13 _).put 14 _))
  have P5:=hide (show Oth (fun g=>g=w.heap.size+2) S4 S5 from by rw [<- hS5];exact ((((tg_oth hb5 11 _).set (S:=fun g=>g=w.heap.size+2) rfl 12 _).set (S:=fun g=>g=w.heap.size+2) rfl 13 _).set (S:=fun g=>g=w.heap.size+2) rfl 14 _))
  have N5:=hide (show w5.heap.size=S5.heap.size from by rw [<- hS5];simp)
  have Rx:=hide (show InS S4.heap.size S5.heap.size S5 (.slice bdx tw.length bpx) tw from by rw [<- N5.out,<- hS5];exact ((InS.of o5)).kept ((((Kept.set _ 11 _ (.inl (by have:=C4.out.lt;omega))).trans (Kept.set _ 12 _ (.inl (by have:=C4.out.lt;omega)))).trans (Kept.set _ 13 _ (.inl (by have:=C4.out.lt;omega)))).trans (Kept.set _ 14 _ (.inl (by have:=C4.out.lt;omega)))))
  have Rh:=hide (show InI S4.heap.size S5.heap.size S5 (.slice bdh th.length bph) th from by rw [<- N5.out,<- hS5];exact ((InI.of i5)).kept ((((Kept.set _ 11 _ (.inl (by have:=C4.out.lt;omega))).trans (Kept.set _ 12 _ (.inl (by have:=C4.out.lt;omega)))).trans (Kept.set _ 13 _ (.inl (by have:=C4.out.lt;omega)))).trans (Kept.set _ 14 _ (.inl (by have:=C4.out.lt;omega)))))
  clear G5 hb5 o5 i5
  have p15:=C5.out.p.cell 15
  simp only [List.getElem?_cons_zero,List.getElem?_cons_succ] at p15
  go_wp2_with fail
  (try rw [hS5])
  clear p15 q11 q12 q13 q14 g11 g12 g13 g14 m14 hS5
  refine (E6.out S5 C5.out.b).mono ?_
  rintro e w6 ⟨v6,rfl,o6,hb6⟩
  obtain ⟨bdv,bpv,rfl⟩:=o6.rd.shape
  have G6:=C5.out.call hb6
  have q15:=G6.o.cell 15
  have g15:=G6.o.frozen 15
  simp only [List.getElem?_cons_zero,List.getElem?_cons_succ] at q15
  obtain ⟨S6,hS6⟩:∃ x,(w6).setCell ⟨w.heap.size+2,15,none⟩ (.slice bdv vo.length bpv)=x:=⟨_,rfl⟩
  have C6:=hide (show Tg 88 63 [.string { data:=#[] },.int .i64 0,.int .i64 0,.slice none 0 0,.slice none 0 0,.slice none 0 0,.int .i64 0,.int .i64 0,.int .i64 0,.int .i64 0,.slice none 0 0,.int .i64 0,.slice none 0 0,.slice none 0 0,.int .i64 0,.slice none 0 0,.slice none 0 0,.slice none 0 0,.slice none 0 0,.slice none 0 0] [.string nm,.int .i64 ep,.int .i64 be,.slice ada la.length cpa,.slice ads st.length cps,.slice adt tt.length cpt,.int .i64 rd,.int .i64 vd,.int .i64 hr,.int .i64 hb,.slice adw hw.length cpw,.int .i64 tr,.slice adx tw.length cpx,.slice adh th.length cph,.int .i64 ld,.slice adv vo.length cpv,.slice adg go.length cpg,.slice add dn.length cpd,.slice adp pl.length cpp,.slice adq ps.length cpq] w S6 [.string nm,.int .i64 ep,.int .i64 be,.slice bda la.length bpa,.slice bds st.length bps,.slice bdt tt.length bpt,.int .i64 rd,.int .i64 vd,.int .i64 hr,.int .i64 hb,.slice bdw hw.length bpw,.int .i64 tr,.slice bdx tw.length bpx,.slice bdh th.length bph,.int .i64 ld,.slice bdv vo.length bpv,.slice none 0 0,.slice none 0 0,.slice none 0 0,.slice none 0 0] from by rw [<- hS6];exact (G6.put 15 _))
  have P6:=hide (show Oth (fun g=>g=w.heap.size+2) S5 S6 from by rw [<- hS6];exact (tg_oth hb6 15 _))
  have N6:=hide (show w6.heap.size=S6.heap.size from by rw [<- hS6];simp)
  have Rv:=hide (show InR 109 S5.heap.size S6.heap.size S6 (.slice bdv vo.length bpv) vo from by rw [<- N6.out,<- hS6];exact ((InR.of o6)).kept (Kept.set _ 15 _ (.inl (by have:=C5.out.lt;omega))))
  clear G6 hb6 o6
  have p16:=C6.out.p.cell 16
  simp only [List.getElem?_cons_zero,List.getElem?_cons_succ] at p16
  go_wp2_with fail
  (try rw [hS6])
  clear p16 q15 g15  hS6
  refine (E7.out S6 C6.out.b).mono ?_
  rintro e w7 ⟨v7,rfl,o7,hb7⟩
  obtain ⟨bdg,bpg,rfl⟩:=o7.rd.shape
  have G7:=C6.out.call hb7
  have q16:=G7.o.cell 16
  have g16:=G7.o.frozen 16
  simp only [List.getElem?_cons_zero,List.getElem?_cons_succ] at q16
  obtain ⟨S7,hS7⟩:∃ x,(w7).setCell ⟨w.heap.size+2,16,none⟩ (.slice bdg go.length bpg)=x:=⟨_,rfl⟩
  have C7:=hide (show Tg 88 63 [.string { data:=#[] },.int .i64 0,.int .i64 0,.slice none 0 0,.slice none 0 0,.slice none 0 0,.int .i64 0,.int .i64 0,.int .i64 0,.int .i64 0,.slice none 0 0,.int .i64 0,.slice none 0 0,.slice none 0 0,.int .i64 0,.slice none 0 0,.slice none 0 0,.slice none 0 0,.slice none 0 0,.slice none 0 0] [.string nm,.int .i64 ep,.int .i64 be,.slice ada la.length cpa,.slice ads st.length cps,.slice adt tt.length cpt,.int .i64 rd,.int .i64 vd,.int .i64 hr,.int .i64 hb,.slice adw hw.length cpw,.int .i64 tr,.slice adx tw.length cpx,.slice adh th.length cph,.int .i64 ld,.slice adv vo.length cpv,.slice adg go.length cpg,.slice add dn.length cpd,.slice adp pl.length cpp,.slice adq ps.length cpq] w S7 [.string nm,.int .i64 ep,.int .i64 be,.slice bda la.length bpa,.slice bds st.length bps,.slice bdt tt.length bpt,.int .i64 rd,.int .i64 vd,.int .i64 hr,.int .i64 hb,.slice bdw hw.length bpw,.int .i64 tr,.slice bdx tw.length bpx,.slice bdh th.length bph,.int .i64 ld,.slice bdv vo.length bpv,.slice bdg go.length bpg,.slice none 0 0,.slice none 0 0,.slice none 0 0] from by rw [<- hS7];exact (G7.put 16 _))
  have P7:=hide (show Oth (fun g=>g=w.heap.size+2) S6 S7 from by rw [<- hS7];exact (tg_oth hb7 16 _))
  have N7:=hide (show w7.heap.size=S7.heap.size from by rw [<- hS7];simp)
  have Rg:=hide (show InR 110 S6.heap.size S7.heap.size S7 (.slice bdg go.length bpg) go from by rw [<- N7.out,<- hS7];exact ((InR.of o7)).kept (Kept.set _ 16 _ (.inl (by have:=C6.out.lt;omega))))
  clear G7 hb7 o7
  have p17:=C7.out.p.cell 17
  simp only [List.getElem?_cons_zero,List.getElem?_cons_succ] at p17
  go_wp2_with fail
  (try rw [hS7])
  clear p17 q16 g16  hS7
  refine (E8.out S7 C7.out.b).mono ?_
  rintro e w8 ⟨v8,rfl,o8,hb8⟩
  obtain ⟨bdd,bpd,rfl⟩:=o8.rd.shape
  have G8:=C7.out.call hb8
  have q17:=G8.o.cell 17
  have g17:=G8.o.frozen 17
  simp only [List.getElem?_cons_zero,List.getElem?_cons_succ] at q17
  obtain ⟨S8,hS8⟩:∃ x,(w8).setCell ⟨w.heap.size+2,17,none⟩ (.slice bdd dn.length bpd)=x:=⟨_,rfl⟩
  have C8:=hide (show Tg 88 63 [.string { data:=#[] },.int .i64 0,.int .i64 0,.slice none 0 0,.slice none 0 0,.slice none 0 0,.int .i64 0,.int .i64 0,.int .i64 0,.int .i64 0,.slice none 0 0,.int .i64 0,.slice none 0 0,.slice none 0 0,.int .i64 0,.slice none 0 0,.slice none 0 0,.slice none 0 0,.slice none 0 0,.slice none 0 0] [.string nm,.int .i64 ep,.int .i64 be,.slice ada la.length cpa,.slice ads st.length cps,.slice adt tt.length cpt,.int .i64 rd,.int .i64 vd,.int .i64 hr,.int .i64 hb,.slice adw hw.length cpw,.int .i64 tr,.slice adx tw.length cpx,.slice adh th.length cph,.int .i64 ld,.slice adv vo.length cpv,.slice adg go.length cpg,.slice add dn.length cpd,.slice adp pl.length cpp,.slice adq ps.length cpq] w S8 [.string nm,.int .i64 ep,.int .i64 be,.slice bda la.length bpa,.slice bds st.length bps,.slice bdt tt.length bpt,.int .i64 rd,.int .i64 vd,.int .i64 hr,.int .i64 hb,.slice bdw hw.length bpw,.int .i64 tr,.slice bdx tw.length bpx,.slice bdh th.length bph,.int .i64 ld,.slice bdv vo.length bpv,.slice bdg go.length bpg,.slice bdd dn.length bpd,.slice none 0 0,.slice none 0 0] from by rw [<- hS8];exact (G8.put 17 _))
  have P8:=hide (show Oth (fun g=>g=w.heap.size+2) S7 S8 from by rw [<- hS8];exact (tg_oth hb8 17 _))
  have N8:=hide (show w8.heap.size=S8.heap.size from by rw [<- hS8];simp)
  have Rd:=hide (show InI S7.heap.size S8.heap.size S8 (.slice bdd dn.length bpd) dn from by rw [<- N8.out,<- hS8];exact ((InI.of o8)).kept (Kept.set _ 17 _ (.inl (by have:=C7.out.lt;omega))))
  clear G8 hb8 o8
  have p18:=C8.out.p.cell 18
  simp only [List.getElem?_cons_zero,List.getElem?_cons_succ] at p18
  go_wp2_with fail
  (try rw [hS8])
  clear p18 q17 g17  hS8
  refine (E9.out S8 C8.out.b).mono ?_
  rintro e w9 ⟨v9,rfl,o9,hb9⟩
  obtain ⟨bdp,bpp,rfl⟩:=o9.rd.shape
  have G9:=C8.out.call hb9
  have q18:=G9.o.cell 18
  have g18:=G9.o.frozen 18
  simp only [List.getElem?_cons_zero,List.getElem?_cons_succ] at q18
  obtain ⟨S9,hS9⟩:∃ x,(w9).setCell ⟨w.heap.size+2,18,none⟩ (.slice bdp pl.length bpp)=x:=⟨_,rfl⟩
  have C9:=hide (show Tg 88 63 [.string { data:=#[] },.int .i64 0,.int .i64 0,.slice none 0 0,.slice none 0 0,.slice none 0 0,.int .i64 0,.int .i64 0,.int .i64 0,.int .i64 0,.slice none 0 0,.int .i64 0,.slice none 0 0,.slice none 0 0,.int .i64 0,.slice none 0 0,.slice none 0 0,.slice none 0 0,.slice none 0 0,.slice none 0 0] [.string nm,.int .i64 ep,.int .i64 be,.slice ada la.length cpa,.slice ads st.length cps,.slice adt tt.length cpt,.int .i64 rd,.int .i64 vd,.int .i64 hr,.int .i64 hb,.slice adw hw.length cpw,.int .i64 tr,.slice adx tw.length cpx,.slice adh th.length cph,.int .i64 ld,.slice adv vo.length cpv,.slice adg go.length cpg,.slice add dn.length cpd,.slice adp pl.length cpp,.slice adq ps.length cpq] w S9 [.string nm,.int .i64 ep,.int .i64 be,.slice bda la.length bpa,.slice bds st.length bps,.slice bdt tt.length bpt,.int .i64 rd,.int .i64 vd,.int .i64 hr,.int .i64 hb,.slice bdw hw.length bpw,.int .i64 tr,.slice bdx tw.length bpx,.slice bdh th.length bph,.int .i64 ld,.slice bdv vo.length bpv,.slice bdg go.length bpg,.slice bdd dn.length bpd,.slice bdp pl.length bpp,.slice none 0 0] from by rw [<- hS9];exact (G9.put 18 _))
  have P9:=hide (show Oth (fun g=>g=w.heap.size+2) S8 S9 from by rw [<- hS9];exact (tg_oth hb9 18 _))
  have N9:=hide (show w9.heap.size=S9.heap.size from by rw [<- hS9];simp)
  have Rp:=hide (show InT S8.heap.size S9.heap.size S9 (.slice bdp pl.length bpp) pl from by rw [<- N9.out,<- hS9];exact ((InT.of o9)).kept (Kept.set _ 18 _ (.inl (by have:=C8.out.lt;omega))))
  clear G9 hb9 o9
  have p19:=C9.out.p.cell 19
  simp only [List.getElem?_cons_zero,List.getElem?_cons_succ] at p19
  go_wp2_with fail
  (try rw [hS9])
  clear p19 q18 g18  hS9
  refine (E10.out S9 C9.out.b).mono ?_
  rintro e w10 ⟨v10,rfl,o10,hb10⟩
  obtain ⟨bdq,bpq,rfl⟩:=o10.rd.shape
  have G10:=C9.out.call hb10
  have q19:=G10.o.cell 19
  have g19:=G10.o.frozen 19
  simp only [List.getElem?_cons_zero,List.getElem?_cons_succ] at q19
  obtain ⟨S10,hS10⟩:∃ x,(w10).setCell ⟨w.heap.size+2,19,none⟩ (.slice bdq ps.length bpq)=x:=⟨_,rfl⟩
  have C10:=hide (show Tg 88 63 [.string { data:=#[] },.int .i64 0,.int .i64 0,.slice none 0 0,.slice none 0 0,.slice none 0 0,.int .i64 0,.int .i64 0,.int .i64 0,.int .i64 0,.slice none 0 0,.int .i64 0,.slice none 0 0,.slice none 0 0,.int .i64 0,.slice none 0 0,.slice none 0 0,.slice none 0 0,.slice none 0 0,.slice none 0 0] [.string nm,.int .i64 ep,.int .i64 be,.slice ada la.length cpa,.slice ads st.length cps,.slice adt tt.length cpt,.int .i64 rd,.int .i64 vd,.int .i64 hr,.int .i64 hb,.slice adw hw.length cpw,.int .i64 tr,.slice adx tw.length cpx,.slice adh th.length cph,.int .i64 ld,.slice adv vo.length cpv,.slice adg go.length cpg,.slice add dn.length cpd,.slice adp pl.length cpp,.slice adq ps.length cpq] w S10 [.string nm,.int .i64 ep,.int .i64 be,.slice bda la.length bpa,.slice bds st.length bps,.slice bdt tt.length bpt,.int .i64 rd,.int .i64 vd,.int .i64 hr,.int .i64 hb,.slice bdw hw.length bpw,.int .i64 tr,.slice bdx tw.length bpx,.slice bdh th.length bph,.int .i64 ld,.slice bdv vo.length bpv,.slice bdg go.length bpg,.slice bdd dn.length bpd,.slice bdp pl.length bpp,.slice bdq ps.length bpq] from by rw [<- hS10];exact (G10.put 19 _))
  have P10:=hide (show Oth (fun g=>g=w.heap.size+2) S9 S10 from by rw [<- hS10];exact (tg_oth hb10 19 _))
  have N10:=hide (show w10.heap.size=S10.heap.size from by rw [<- hS10];simp)
  have Rq:=hide (show OwnPx S9.heap.size S10.heap.size S10 (.slice bdq ps.length bpq) ps from by rw [<- N10.out,<- hS10];exact (o10).kept (Kept.set _ 19 _ (.inl (by have:=C9.out.lt;omega))))
  clear G10 hb10 o10
  have hz0:=C0.out.lt
  obtain ⟨F,hF⟩:∃ x,([.string nm,.int .i64 ep,.int .i64 be,.slice bda la.length bpa,.slice bds st.length bps,.slice bdt tt.length bpt,.int .i64 rd,.int .i64 vd,.int .i64 hr,.int .i64 hb,.slice bdw hw.length bpw,.int .i64 tr,.slice bdx tw.length bpx,.slice bdh th.length bph,.int .i64 ld,.slice bdv vo.length bpv,.slice bdg go.length bpg,.slice bdd dn.length bpd,.slice bdp pl.length bpp,.slice bdq ps.length bpq]:List Value)=x:=⟨_,rfl⟩
  have hFl:F.length=20:=by rw [<- hF];rfl
  have hF1:F.toArray.all (·.oneCell')=true:=by rw [List.all_toArray,<- hF];rfl
  have Hsz:=hide (show (Try.prog.info? 63).map (·.size)=some F.length from by rw [hFl];exact Try.infoNd)
  have Hld:=hide (show S10.rangeAt (w.heap.size+2) 0 F from by rw [<- hF];exact blk_range C10.out.o)
  have HRk:=hide (show Blk S10 (w.heap.size+1) 63 [.string { data:=#[] },.int .i64 0,.int .i64 0,.slice none 0 0,.slice none 0 0,.slice none 0 0,.int .i64 0,.int .i64 0,.int .i64 0,.int .i64 0,.slice none 0 0,.int .i64 0,.slice none 0 0,.slice none 0 0,.int .i64 0,.slice none 0 0,.slice none 0 0,.slice none 0 0,.slice none 0 0,.slice none 0 0] from C10.out.r)
  have Hth:=hide (show S10.there (w.heap.size+1) 0 F.toArray.size from by rw [show F.toArray.size=20 from by simpa using hFl];exact HRk.out.there rfl)
  have HX:=hide (show Blk (S10.setCells (w.heap.size+1) 0 F) (w.heap.size+1) 63 F from by rw [<- hF];exact blk_all HRk.out (by rfl))
  have HB:=hide (C10.out.b.trans (putC_below (B:=w.heap.size) (show w.heap.size<=w.heap.size+1 by omega) F S10 0))
  have Y1:=(show S0.heap.size<=S1.heap.size from P1.out.size)
  have Y2:=(show S1.heap.size<=S2.heap.size from P2.out.size)
  have Y3:=(show S2.heap.size<=S3.heap.size from P3.out.size)
  have Y4:=(show S3.heap.size<=S4.heap.size from P4.out.size)
  have Y5:=(show S4.heap.size<=S5.heap.size from P5.out.size)
  have Y6:=(show S5.heap.size<=S6.heap.size from P6.out.size)
  have Y7:=(show S6.heap.size<=S7.heap.size from P7.out.size)
  have Y8:=(show S7.heap.size<=S8.heap.size from P8.out.size)
  have Y9:=(show S8.heap.size<=S9.heap.size from P9.out.size)
  have Y10:=(show S9.heap.size<=S10.heap.size from P10.out.size)
  have Fa:=hide (show OwnX S0.heap.size S1.heap.size (S10.setCells (w.heap.size+1) 0 F) (.slice bda la.length bpa) la from ((((((((((Ra.out.kept (Kept.of_oth P2.out (fun g a b e=>by have e9:g=w.heap.size+2:=e;omega))).kept (Kept.of_oth P3.out (fun g a b e=>by have e9:g=w.heap.size+2:=e;omega))).kept (Kept.of_oth P4.out (fun g a b e=>by have e9:g=w.heap.size+2:=e;omega))).kept (Kept.of_oth P5.out (fun g a b e=>by have e9:g=w.heap.size+2:=e;omega))).kept (Kept.of_oth P6.out (fun g a b e=>by have e9:g=w.heap.size+2:=e;omega))).kept (Kept.of_oth P7.out (fun g a b e=>by have e9:g=w.heap.size+2:=e;omega))).kept (Kept.of_oth P8.out (fun g a b e=>by have e9:g=w.heap.size+2:=e;omega))).kept (Kept.of_oth P9.out (fun g a b e=>by have e9:g=w.heap.size+2:=e;omega))).kept (Kept.of_oth P10.out (fun g a b e=>by have e9:g=w.heap.size+2:=e;omega))).kept (Kept.setCs _ 0 F (.inl (by omega)))))
  have Fs:=hide (show InV S1.heap.size S2.heap.size (S10.setCells (w.heap.size+1) 0 F) (.slice bds st.length bps) st from (((((((((Rs.out.kept (Kept.of_oth P3.out (fun g a b e=>by have e9:g=w.heap.size+2:=e;omega))).kept (Kept.of_oth P4.out (fun g a b e=>by have e9:g=w.heap.size+2:=e;omega))).kept (Kept.of_oth P5.out (fun g a b e=>by have e9:g=w.heap.size+2:=e;omega))).kept (Kept.of_oth P6.out (fun g a b e=>by have e9:g=w.heap.size+2:=e;omega))).kept (Kept.of_oth P7.out (fun g a b e=>by have e9:g=w.heap.size+2:=e;omega))).kept (Kept.of_oth P8.out (fun g a b e=>by have e9:g=w.heap.size+2:=e;omega))).kept (Kept.of_oth P9.out (fun g a b e=>by have e9:g=w.heap.size+2:=e;omega))).kept (Kept.of_oth P10.out (fun g a b e=>by have e9:g=w.heap.size+2:=e;omega))).kept (Kept.setCs _ 0 F (.inl (by omega)))))
  have Ft:=hide (show OwnKx S2.heap.size S3.heap.size (S10.setCells (w.heap.size+1) 0 F) (.slice bdt tt.length bpt) tt from ((((((((Rt.out.kept (Kept.of_oth P4.out (fun g a b e=>by have e9:g=w.heap.size+2:=e;omega))).kept (Kept.of_oth P5.out (fun g a b e=>by have e9:g=w.heap.size+2:=e;omega))).kept (Kept.of_oth P6.out (fun g a b e=>by have e9:g=w.heap.size+2:=e;omega))).kept (Kept.of_oth P7.out (fun g a b e=>by have e9:g=w.heap.size+2:=e;omega))).kept (Kept.of_oth P8.out (fun g a b e=>by have e9:g=w.heap.size+2:=e;omega))).kept (Kept.of_oth P9.out (fun g a b e=>by have e9:g=w.heap.size+2:=e;omega))).kept (Kept.of_oth P10.out (fun g a b e=>by have e9:g=w.heap.size+2:=e;omega))).kept (Kept.setCs _ 0 F (.inl (by omega)))))
  have Fw:=hide (show InS S3.heap.size S4.heap.size (S10.setCells (w.heap.size+1) 0 F) (.slice bdw hw.length bpw) hw from (((((((Rw.out.kept (Kept.of_oth P5.out (fun g a b e=>by have e9:g=w.heap.size+2:=e;omega))).kept (Kept.of_oth P6.out (fun g a b e=>by have e9:g=w.heap.size+2:=e;omega))).kept (Kept.of_oth P7.out (fun g a b e=>by have e9:g=w.heap.size+2:=e;omega))).kept (Kept.of_oth P8.out (fun g a b e=>by have e9:g=w.heap.size+2:=e;omega))).kept (Kept.of_oth P9.out (fun g a b e=>by have e9:g=w.heap.size+2:=e;omega))).kept (Kept.of_oth P10.out (fun g a b e=>by have e9:g=w.heap.size+2:=e;omega))).kept (Kept.setCs _ 0 F (.inl (by omega)))))
  have Fx:=hide (show InS S4.heap.size S5.heap.size (S10.setCells (w.heap.size+1) 0 F) (.slice bdx tw.length bpx) tw from ((((((Rx.out.kept (Kept.of_oth P6.out (fun g a b e=>by have e9:g=w.heap.size+2:=e;omega))).kept (Kept.of_oth P7.out (fun g a b e=>by have e9:g=w.heap.size+2:=e;omega))).kept (Kept.of_oth P8.out (fun g a b e=>by have e9:g=w.heap.size+2:=e;omega))).kept (Kept.of_oth P9.out (fun g a b e=>by have e9:g=w.heap.size+2:=e;omega))).kept (Kept.of_oth P10.out (fun g a b e=>by have e9:g=w.heap.size+2:=e;omega))).kept (Kept.setCs _ 0 F (.inl (by omega)))))
  have Fh:=hide (show InI S4.heap.size S5.heap.size (S10.setCells (w.heap.size+1) 0 F) (.slice bdh th.length bph) th from ((((((Rh.out.kept (Kept.of_oth P6.out (fun g a b e=>by have e9:g=w.heap.size+2:=e;omega))).kept (Kept.of_oth P7.out (fun g a b e=>by have e9:g=w.heap.size+2:=e;omega))).kept (Kept.of_oth P8.out (fun g a b e=>by have e9:g=w.heap.size+2:=e;omega))).kept (Kept.of_oth P9.out (fun g a b e=>by have e9:g=w.heap.size+2:=e;omega))).kept (Kept.of_oth P10.out (fun g a b e=>by have e9:g=w.heap.size+2:=e;omega))).kept (Kept.setCs _ 0 F (.inl (by omega)))))
  have Fv:=hide (show InR 109 S5.heap.size S6.heap.size (S10.setCells (w.heap.size+1) 0 F) (.slice bdv vo.length bpv) vo from (((((Rv.out.kept (Kept.of_oth P7.out (fun g a b e=>by have e9:g=w.heap.size+2:=e;omega))).kept (Kept.of_oth P8.out (fun g a b e=>by have e9:g=w.heap.size+2:=e;omega))).kept (Kept.of_oth P9.out (fun g a b e=>by have e9:g=w.heap.size+2:=e;omega))).kept (Kept.of_oth P10.out (fun g a b e=>by have e9:g=w.heap.size+2:=e;omega))).kept (Kept.setCs _ 0 F (.inl (by omega)))))
  have Fg:=hide (show InR 110 S6.heap.size S7.heap.size (S10.setCells (w.heap.size+1) 0 F) (.slice bdg go.length bpg) go from ((((Rg.out.kept (Kept.of_oth P8.out (fun g a b e=>by have e9:g=w.heap.size+2:=e;omega))).kept (Kept.of_oth P9.out (fun g a b e=>by have e9:g=w.heap.size+2:=e;omega))).kept (Kept.of_oth P10.out (fun g a b e=>by have e9:g=w.heap.size+2:=e;omega))).kept (Kept.setCs _ 0 F (.inl (by omega)))))
  have Fd:=hide (show InI S7.heap.size S8.heap.size (S10.setCells (w.heap.size+1) 0 F) (.slice bdd dn.length bpd) dn from (((Rd.out.kept (Kept.of_oth P9.out (fun g a b e=>by have e9:g=w.heap.size+2:=e;omega))).kept (Kept.of_oth P10.out (fun g a b e=>by have e9:g=w.heap.size+2:=e;omega))).kept (Kept.setCs _ 0 F (.inl (by omega)))))
  have Fp:=hide (show InT S8.heap.size S9.heap.size (S10.setCells (w.heap.size+1) 0 F) (.slice bdp pl.length bpp) pl from ((Rp.out.kept (Kept.of_oth P10.out (fun g a b e=>by have e9:g=w.heap.size+2:=e;omega))).kept (Kept.setCs _ 0 F (.inl (by omega)))))
  have Fq:=hide (show OwnPx S9.heap.size S10.heap.size (S10.setCells (w.heap.size+1) 0 F) (.slice bdq ps.length bpq) ps from (Rq.out.kept (Kept.setCs _ 0 F (.inl (by omega)))))
  have FZ:=hide (show (S10.setCells (w.heap.size+1) 0 F).heap.size=S10.heap.size from size_sets _ F _ 0)
  have FY:=hide (show w.heap.size<=S0.heap.size from by omega)
  have W1:=hide Y1
  have W2:=hide Y2
  have W3:=hide Y3
  have W4:=hide Y4
  have W5:=hide Y5
  have W6:=hide Y6
  have W7:=hide Y7
  have W8:=hide Y8
  have W9:=hide Y9
  have W10:=hide Y10
  clear hz0 Y1 Y2 Y3 Y4 Y5 Y6 Y7 Y8 Y9 Y10 Ra Rs Rt Rw Rx Rh Rv Rg Rd Rp Rq P1 C1 N1 P2 C2 N2 P3 C3 N3 P4 C4 N4 P5 C5 N5 P6 C6 N6 P7 C7 N7 P8 C8 N8 P9 C9 N9 P10 C10 N10 E1 E2 E3 E4 E5 E6 E7 E8 E9 E10 C0 HRk hFl
  go_wp2_with (first
    | (refine wpList_load_mid rfl 63 _ rfl (w.heap.size+2) 0 rfl F _ Hld.out Try.underlying63 rfl Hsz.out ?_)
    | (refine wpList_store_mid rfl 63 _ _ rfl (w.heap.size+1) 0 F.toArray rfl rfl Hth.out (by simpa using Hsz.out) hF1 ?_)
    | fail)
  (try rw [hS10])
  (try simp only [List.toList_toArray])
  refine res_toNode (F:=F) (w.heap.size+1) (blk_range HX.out) (by rfl) Hsz.out rfl ?_
  subst hF
  have fz:=FZ.out
  have fy:=FY.out
  have o1:=W1.out
  have o2:=W2.out
  have o3:=W3.out
  have o4:=W4.out
  have o5:=W5.out
  have o6:=W6.out
  have o7:=W7.out
  have o8:=W8.out
  have o9:=W9.out
  have o10:=W10.out
  refine ⟨⟨.slice bda la.length bpa,.slice bds st.length bps,.slice bdt tt.length bpt,.slice bdw hw.length bpw,.slice bdx tw.length bpx,.slice bdh th.length bph,.slice bdv vo.length bpv,.slice bdg go.length bpg,.slice bdd dn.length bpd,.slice bdp pl.length bpp,.slice bdq ps.length bpq⟩,rfl,⟨⟨S0.heap.size,S1.heap.size,S2.heap.size,S3.heap.size,S4.heap.size,S5.heap.size,S6.heap.size,S7.heap.size,S8.heap.size,S9.heap.size,S10.heap.size,by omega,by omega,by omega,by omega,by omega,by omega,by omega,by omega,by omega,by omega,by omega,by omega,Fa.out.wide (by omega) (by omega),Fs.out.wide (by omega) (by omega),Ft.out.wide (by omega) (by omega),Fw.out.wide (by omega) (by omega),Fx.out.wide (by omega) (by omega),Fh.out.wide (by omega) (by omega),Fv.out.wide (by omega) (by omega),Fg.out.wide (by omega) (by omega),Fd.out.wide (by omega) (by omega),Fp.out.wide (by omega) (by omega),Fq.out.wide (by omega) (by omega)⟩⟩,HB.out⟩
theorem noC_one {w:World} {p:Nd} {u:Nv} (h:RdNd w p u):(noC p u).all (·.oneCell')=true:=by
  obtain ⟨ada,cpa,eqa⟩:=h.ka.shape
  obtain ⟨ads,cps,eqs⟩:=h.ks.shape
  obtain ⟨adt,cpt,eqt⟩:=h.kt.shape
  obtain ⟨adw,cpw,eqw⟩:=h.kw.shape
  obtain ⟨adx,cpx,eqx⟩:=h.kx.shape
  obtain ⟨adh,cph,eqh⟩:=h.kh.shape
  obtain ⟨adv,cpv,eqv⟩:=h.kv.shape
  obtain ⟨adg,cpg,eqg⟩:=h.kg.shape
  obtain ⟨add,cpd,eqd⟩:=h.kd.shape
  obtain ⟨adp,cpp,eqp⟩:=h.kp.shape
  obtain ⟨adq,cpq,eqq⟩:=h.kq.shape
  simp [noC,Value.oneCell',eqa,eqs,eqt,eqw,eqx,eqh,eqv,eqg,eqd,eqp,eqq]
theorem Try.infoRNd:(Try.prog.info? 63).map (fun i=>(i.zero,i.size,i.bytes))=some (some (.agg #[.string { data:=#[] },.int .i64 0,.int .i64 0,.slice none 0 0,.slice none 0 0,.slice none 0 0,.int .i64 0,.int .i64 0,.int .i64 0,.int .i64 0,.slice none 0 0,.int .i64 0,.slice none 0 0,.slice none 0 0,.int .i64 0,.slice none 0 0,.slice none 0 0,.slice none 0 0,.slice none 0 0,.slice none 0 0]),20,344):=by kernel_rfl
theorem Try.infoWNd:(Try.prog.info? 88).map (·.size)=some 20:=by kernel_rfl
theorem toNodeS_any (v:Value) (l:List Nd) (w:World) (hr:RdNs w v l) (hl:l.length<=4000000) (hall:∀ a ∈ l,FewNd a) :
    Calls Try.prog 20 #[v] w fun e w'=>∃ v',e=.returned v'/\OwnNx w.heap.size w'.heap.size w' v' l/\Below w.heap.size w w':=by
  obtain ⟨i0,hi,hz0,hz1,hz2⟩:=info_parts Try.infoRNd
  obtain ⟨Z0,rfl,hr⟩:=hr
  have hl':Z0.length<=4000000:=by simpa using hl
  rcases hr with ⟨a,cap,rfl,rfl,-⟩ | ⟨b,off,cap,h0,rfl,h1,h2,h3,h4⟩
  · go_enter Try.func20,Try.ntmps20
    go_wp2_with (refine wpList_make_full _ rfl _ _ 37 rfl w.heap.size 63 i0 (.agg #[.string { data:=#[] },.int .i64 0,.int .i64 0,.slice none 0 0,.slice none 0 0,.slice none 0 0,.int .i64 0,.int .i64 0,.int .i64 0,.int .i64 0,.slice none 0 0,.int .i64 0,.slice none 0 0,.slice none 0 0,.int .i64 0,.slice none 0 0,.slice none 0 0,.slice none 0 0,.slice none 0 0,.slice none 0 0]) 20 Try.underlying37 hi hz0 hz1 .i64 .i64 _ _ 0 rfl rfl rfl rfl (by omega) (by unfold maxLen;omega) (Nat.le_refl _) ?_;intro w1 hown hgrow)
    have hb1:Below w.heap.size w w1:=(Below.refl _ _).grown hgrow (Nat.le_refl _) (by intro k hk;cases hk)
    refine wp_loop_rounds 1 ?_
    rw [rounds_succ]
    go_wp2
    go_ret
    have e:=made_flat (Value.agg #[.string { data:=#[] },.int .i64 0,.int .i64 0,.slice none 0 0,.slice none 0 0,.slice none 0 0,.int .i64 0,.int .i64 0,.int .i64 0,.int .i64 0,.slice none 0 0,.int .i64 0,.slice none 0 0,.slice none 0 0,.int .i64 0,.slice none 0 0,.slice none 0 0,.slice none 0 0,.slice none 0 0,.slice none 0 0]).cells 20 0 rfl (by omega)
    rw [e] at hown
    exact ⟨_,rfl,⟨[],rfl,hown,top_row hown,Parts.nil _ _ _ _ _⟩,hb1⟩
  · obtain ⟨N,hN⟩:∃ N,Z0.length=N:=⟨_,rfl⟩
    rw [hN] at h1 hl' ⊢
    go_enter Try.func20,Try.ntmps20
    go_wp2_with (refine wpList_make_full _ rfl _ _ 37 rfl w.heap.size 63 i0 (.agg #[.string { data:=#[] },.int .i64 0,.int .i64 0,.slice none 0 0,.slice none 0 0,.slice none 0 0,.int .i64 0,.int .i64 0,.int .i64 0,.int .i64 0,.slice none 0 0,.int .i64 0,.slice none 0 0,.slice none 0 0,.int .i64 0,.slice none 0 0,.slice none 0 0,.slice none 0 0,.slice none 0 0,.slice none 0 0]) 20 Try.underlying37 hi hz0 hz1 .i64 .i64 _ _ N rfl rfl rfl rfl (by rw [hz2];omega) (by unfold maxLen;omega) (Nat.le_refl _) ?_;intro w1 hown hgrow)
    have hb1:Below w.heap.size w w1:=(Below.refl _ _).grown hgrow (Nat.le_refl _) (by intro k hk;cases hk)
    have HN:=hide hN
    have H4:=hide h4
    have HA:=hide hall
    clear hN h4 hall
    go_loopw [4] (fun i wr=>∃ (k:Nat) (Z:List (Nd × Nv)),k<=N/\i=.int .i64 k/\Z.map (·.1)=(Z0.map (·.1)).take k/\wr.ownsRow w.heap.size 63 20 (.slice (some ⟨w.heap.size,0,none⟩) N N) N (prt (Z.map (fun q=>noC q.1 q.2)) noCZ N).flatten/\Parts (fun a b w q=>OwnNd a b w q.1 q.2) w.heap.size wr.heap.size (some w.heap.size) wr Z/\Below w.heap.size w wr)
      (fun i _=>N - (intOf i).toNat)
    case atStart =>
      refine ⟨0,[],Nat.zero_le _,rfl,rfl,?_,Parts.nil _ _ _ _ _,hb1⟩
      rw [List.map_nil,prt_zero]
      have e:=made_flat (Value.agg #[.string { data:=#[] },.int .i64 0,.int .i64 0,.slice none 0 0,.slice none 0 0,.slice none 0 0,.int .i64 0,.int .i64 0,.int .i64 0,.int .i64 0,.slice none 0 0,.int .i64 0,.slice none 0 0,.slice none 0 0,.int .i64 0,.slice none 0 0,.slice none 0 0,.slice none 0 0,.slice none 0 0,.slice none 0 0]).cells 20 N rfl (by omega)
      rw [e] at hown
      exact hown
    case round =>
      obtain ⟨k,Z,hk,rfl,hZ,ho,hpt,hb⟩:=hrel
      clear hown hgrow hb1
      have hZl:(Z.map (fun q=>noC q.1 q.2)).length=k:=by have:=congrArg List.length hZ;simp at this;simp;have:=HN.out;omega
      by_cases hlt:k < N
      · have hk0:k < Z0.length:=by rw [HN.out];exact hlt
        have hrg:=range_below (H4.out k hk0).1 hb h3
        have HT:=hide (toNode_any Z0[k].1 Z0[k].2 wr ((H4.out k hk0).2.below hb (Nat.le_refl _)) (HA.out _ (List.mem_map.2 ⟨_,List.getElem_mem hk0,rfl⟩)))
        have hli:(k:Int) < (N:Int):=by omega
        have psz:=prt_sz 20 (Z.map (fun q=>noC q.1 q.2)) noCZ N (mapC_sz noC_sz Z) rfl
        have plen:=prt_len (Z.map (fun q=>noC q.1 q.2)) noCZ N (by omega)
        have Hput:Hid (∀ u':Nv,setAll (prt (Z.map (fun q=>noC q.1 q.2)) noCZ N).flatten (k * 20) (noC Z0[k].1 u')=(prt ((Z ++ [(Z0[k].1,u')]).map (fun q=>noC q.1 q.2)) noCZ N).flatten):=hide (fun u'=>by
          rw [setAll_flat 20 (noC Z0[k].1 u') _ k (by rw [plen];exact hlt) psz rfl,prt_next _ _ _ _ k hZl.symm hlt,List.map_append]
          rfl)
        have HZ2:Hid (∀ u':Nv,(Z ++ [(Z0[k].1,u')]).map (·.1)=(Z0.map (·.1)).take (k+1)):=hide (fun u'=>by rw [List.map_append,hZ,List.take_succ_eq_append_getElem (by simpa using hk0)];simp)
        have Hln:Hid (k * 20+20<=(prt (Z.map (fun q=>noC q.1 q.2)) noCZ N).flatten.length):=hide (by rw [flat_len 20 _ psz,plen];omega)
        have Hpt:=hide hpt
        have hgl:w.heap.size < wr.heap.size:=(World.ownsRow.lt ho w.heap.size rfl).2
        have Ho:=hide ho
        have hil:(Try.prog.info? 88).map (·.size)=some (noC Z0[k].1 Z0[k].2).length:=Try.infoWNd
        rw [show noV Z0[k].1 Z0[k].2=.agg (noC Z0[k].1 Z0[k].2).toArray from rfl] at HT
        have Hil:=hide hil
        have Hrg:=hide hrg
        clear hpt psz plen hZl hZ ho hrg hil
        generalize noC Z0[k].1 Z0[k].2=cs at HT Hil Hrg
        generalize Z0[k].1=p at HT Hput HZ2
        go_wp2_with (first
          | (refine wpList_load_mid rfl 88 _ rfl b (off+k * 20) rfl cs _ Hrg.out Try.underlying88 rfl Hil.out ?_)
          | fail)
        refine HT.out.mono ?_
        rintro e w2 ⟨u',rfl,ho',hb2⟩
        have hB2:=hb.trans (hb2.mono hb.size)
        have HZ3:=hide (HZ2.out u')
        have ho2:=row_below Ho.out hb2 (Nat.le_refl _)
        have Hth:=hide (show w2.there w.heap.size (k * 20) (noC p u').toArray.size from row_thereN ho2 Hln.out)
        have HR:=hide (putC_row (noC p u') w2 (k * 20) _ ho2)
        rw [Hput.out] at HR
        have HF:=hide (hB2.trans (putC_below (Nat.le_refl _) (noC p u') w2 (k * 20)))
        have s2:=hb2.size
        have HP:=hide (show Parts (fun a b w q=>OwnNd a b w q.1 q.2) w.heap.size (w2.setCells w.heap.size (k * 20) (noC p u')).heap.size (some w.heap.size) (w2.setCells w.heap.size (k * 20) (noC p u')) (Z ++ [(p,u')]) from by
          rw [size_sets]
          refine Parts.turn ?_ (fun a b q h1 h2 h3 hq=>hq.kept (Kept.setCs w2 _ _ (by have:=h3 _ rfl;omega)))
          exact (Hpt.out.turn (fun a b q h1 h2 _ hq=>hq.kept (Kept.of_below hb2 (Nat.le_refl _)))).snoc (p,u') (Nat.le_refl _) (by omega) s2 (fun g e=>by cases e;omega) ho')
        have H1:Hid ((noC p u').toArray.all (·.oneCell')=true):=hide (by rw [List.all_toArray];exact noC_one ho'.rd)
        have Hi2:Hid ((Try.prog.info? 63).map (·.size)=some (noC p u').toArray.size):=hide Try.infoNd
        rw [show noV p u'=.agg (noC p u').toArray from rfl]
        clear hb2 hB2 ho' ho2 s2 HZ2 Hput HT
        generalize noC p u'=ds at Hth HR HF HP H1 Hi2
        go_wp2_with (first
          | (refine wpList_store_mid rfl 63 _ _ rfl w.heap.size (k * 20) ds.toArray rfl rfl Hth.out Hi2.out H1.out ?_)
          | fail)
        go_roundw
        case rel=>exact ⟨k+1,_,by omega,by go_num,HZ3.out,HR.out,HP.out,HF.out⟩
        case measure=>simp [intOf];omega
      · have e:k=N:=by omega
        subst e
        rw [prt_all _ _ _ hZl] at ho
        have hZe:Z.map (·.1)=Z0.map (·.1):=by rw [hZ,List.take_of_length_le (by simp;have:=HN.out;omega)]
        have hZn:Z.length=k:=by simpa using hZl
        go_wp2
        go_ret
        subst hZn
        exact ⟨_,rfl,⟨Z,hZe,ho,top_row ho,hpt.no (fun g e=>by cases e;exact .inr (.inr rfl))⟩,hb⟩
end Go.Proofs.Ytfdbedenlbikgaa
