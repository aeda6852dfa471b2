/- The landed code's certificates. -/
import Derived.Test.YtamljhcmiphdgaaGreatDoorZvPfCopy
import Derived.Test.YtamljhcmiphdgaaGreatDoorZvLdMid
import Derived.Test.YtamljhcmiphdgaaGreatDoorZvLgImpl
import Derived.Deep.Cut
set_option maxRecDepth 20000
set_option maxHeartbeats 16000000
namespace Go.Proofs.YtamljhcmiphdgaaGreatDoor
open Go.RowKit
set_option linter.unusedVariables false
theorem Tryz.infoC5:(Tryz.prog.info? 138).map (·.size)=some 5:=by kernel_rfl
theorem Tryz.infoC20:(Tryz.prog.info? 55).map (·.size)=some 20:=by kernel_rfl
theorem RdPs.at5 {w:World} {a:Option Addr} {cap n:Nat} {l:List Pf} (h:RdPs w (.slice a n cap) l) (hl:0 < l.length):∃ b off,a=some ⟨b,off,none⟩/\b < w.heap.size/\∀ i (h:i < l.length),∃ u,w.rangeAt b (off+i * 5) (pfC l[i] u)/\RdPf w l[i] u:=by
 obtain ⟨Z,rfl,h⟩:=h
 rcases h with ⟨a',cap',e,rfl,hn⟩ | ⟨b,off,cap',h0,e,h1,h2,h3,h4⟩
 ·simp at hl
 ·simp only [Value.slice.injEq] at e
  refine ⟨b,off,e.1,h3,fun i hi=>?_⟩
  have hi':i < Z.length:=by simpa using hi
  refine ⟨Z[i].2,?_,?_⟩
  ·simpa using (h4 i hi').1
  ·simpa using (h4 i hi').2
structure Tn (T:TypeId) (zs:List Value) (w S:World) (os:List Value):Prop where
 o:Blk S w.heap.size T os
 r:Blk S (w.heap.size+1) T zs
 b:Below w.heap.size w S
theorem Tn.lt {T:TypeId} {zs os:List Value} {w S:World} (h:Tn T zs w S os):w.heap.size+2<=S.heap.size:=by have:=h.r.lt;omega
theorem Tn.call {T:TypeId} {zs os:List Value} {w S S':World} (h:Tn T zs w S os) (hb:Below S.heap.size S S'):Tn T zs w S' os :=
 ⟨h.o.below hb h.o.lt,h.r.below hb h.r.lt,h.b.trans (hb.mono h.b.size)⟩
theorem Tn.put {T:TypeId} {zs os:List Value} {w S:World} (h:Tn T zs w S os) (j:Nat) (u:Value):Tn T zs w (S.setCell ⟨w.heap.size,j,none⟩ u) (os.set j u) :=
 ⟨h.o.setC j u,h.r.otherC _ j u (by omega),h.b.setCell (p:=⟨w.heap.size,j,none⟩) (nr_ _) u⟩
theorem ax_ {w S S':World} (hb:Below S.heap.size S S') (j:Nat) (u:Value):Oth (fun g=>g=w.heap.size) S (S'.setCell ⟨w.heap.size,j,none⟩ u) :=
 (Oth.of_below (S:=fun g=>g=w.heap.size) hb).set (g:=w.heap.size) rfl j u
theorem dQ_ {X:World} {a:Act} {R:Ending->World->Prop} {F:List Value} (g:Nat) (h:X.rangeAt g 0 F) (h2:a.tmps[2]?.getD undef=.pointer (some ⟨g,0,none⟩)) (hs:(Tryz.prog.info? 55).map (·.size)=some F.length) (hd:a.defers=[]) (hR:R (.returned (.agg F.toArray)) X):bodyPost Tryz.prog Tryz.f39 R .ret a X:=by
 have hl:=run_loadVar_mid (P:=Tryz.prog) X g 0 55 F _ h Tryz.underlying55 rfl hs
 refine bodyPost_ret (v:=.agg F.toArray) ?_ hd hR
 simp [results,Tryz.f39,h2,asAddr,hl]
theorem eb_ (p:Nd) (u:Nv) (w:World) (hr:RdNd w p u) (hf:FewNd p) (hl1:p.tt.length<=3999999) (hl2:∀ q ∈ p.ps,q.bs.length<=3999999) :
  Calls Tryz.prog 39 #[noV p u] w fun e w'=>∃ u',e=.returned (noV p u')/\OwnNd w.heap.size w'.heap.size w' p u'/\Below w.heap.size w w':=by
 have hnq:=hf.nq
 have hfq:=hf.fq
 have hna:=hf.na
 have hns:=hf.ns
 have hnt:=hf.nt
 have hnw:=hf.nw
 have hnx:=hf.nx
 have hnh:=hf.nh
 have hnv:=hf.nv
 have hng:=hf.ng
 have hnd:=hf.nd
 have hnp:=hf.np
 have hfa:=hf.fa
 have hft:=hf.ft
 clear hf
 obtain ⟨nm,ep,be,la,st,tt,rd,vd,hr,hb,hw,tr,tw,th,ld,vo,go,dn,pl,ps⟩:=p
 obtain ⟨ya,ys,yt,yw,yx,yh,yv,yg,yd,yp,yq⟩:=u
 obtain ⟨hya,hys,hyt,hyw,hyx,hyh,hyv,hyg,hyd,hyp,hyq⟩:=hr
 simp only at *
 obtain ⟨ada,cpa,rfl⟩:=hya.shape
 obtain ⟨ads,cps,rfl⟩:=hys.shape
 obtain ⟨adt,cpt,rfl⟩:=hyt.shape
 obtain ⟨adw,cpw,rfl⟩:=hyw.shape
 obtain ⟨adx,cpx,rfl⟩:=hyx.shape
 obtain ⟨adh,cph,rfl⟩:=hyh.shape
 obtain ⟨adv,cpv,rfl⟩:=hyv.shape
 obtain ⟨adg,cpg,rfl⟩:=hyg.shape
 obtain ⟨add,cpd,rfl⟩:=hyd.shape
 obtain ⟨adp,cpp,rfl⟩:=hyp.shape
 obtain ⟨adq,cpq,rfl⟩:=hyq.shape
 simp only [noV]
 have EA:=a_ (fun V (hV:Below w.heap.size w V)=>cw_ be (.slice ada la.length cpa) la V (hya.below hV (nr_ _)) hna hfa)
 have EB:=a_ (fun V (hV:Below w.heap.size w V)=>bQ_ (.slice adt tt.length cpt) tt V (hyt.below hV (nr_ _)) (by omega) hft)
 have EQ:=a_ (fun V (hV:Below w.heap.size w V)=>ak_ hr hb (.slice adw hw.length cpw) hw V (hyw.below hV (nr_ _)) hnw)
 have ET:=a_ (fun V (hV:Below w.heap.size w V)=>aY_ tr (.slice adx tw.length cpx) (.slice adh th.length cph) tw th V (hyx.below hV (nr_ _)) (hyh.below hV (nr_ _)) hnx hnh)
 have EP:=a_ (fun V (hV:Below w.heap.size w V)=>aB_ (.slice adp pl.length cpp) pl V (hyp.below hV (nr_ _)) hnp)
 have Rs:=a_ (fun V (hV:Below w.heap.size w V)=>hys.below hV (nr_ _))
 have Rv:=a_ (fun V (hV:Below w.heap.size w V)=>hyv.below hV (nr_ _))
 have Rg:=a_ (fun V (hV:Below w.heap.size w V)=>hyg.below hV (nr_ _))
 have Rd:=a_ (fun V (hV:Below w.heap.size w V)=>hyd.below hV (nr_ _))
 have Rp:=a_ (fun V (hV:Below w.heap.size w V)=>hyp.below hV (nr_ _))
 have HYq:=a_ hyq
 simp only [lgV,qcV,tcV] at *
 clear hya hyt hyw hyx hyh hys hyv hyg hyd hyp hyq hfa hft
 obtain ⟨S0,hS0⟩:∃ x,(w.alloc (.cells #[.string nm,.int .i64 ep,.int .i64 be,.slice ada la.length cpa,.slice ads st.length cps,.slice adt tt.length cpt,.int .i64 rd,.int .i64 vd,.int .i64 hr,.int .i64 hb,.slice adw hw.length cpw,.int .i64 tr,.slice adx tw.length cpx,.slice adh th.length cph,.int .i64 ld,.slice adv vo.length cpv,.slice adg go.length cpg,.slice add dn.length cpd,.slice adp pl.length cpp,.slice adq ps.length cpq] 55)).alloc (.cells noZ_ 55)=x:=⟨_,rfl⟩
 have C0:=a_ (show Tn 55 noY_ w S0 [.string nm,.int .i64 ep,.int .i64 be,.slice ada la.length cpa,.slice ads st.length cps,.slice adt tt.length cpt,.int .i64 rd,.int .i64 vd,.int .i64 hr,.int .i64 hb,.slice adw hw.length cpw,.int .i64 tr,.slice adx tw.length cpx,.slice adh th.length cph,.int .i64 ld,.slice adv vo.length cpv,.slice adg go.length cpg,.slice add dn.length cpd,.slice adp pl.length cpp,.slice adq ps.length cpq] from by
  rw [<- hS0]
  exact ⟨(Blk.new w _ _).below ((br_ (w.heap.size+1) _).alloc (by simp) _) (by omega),Blk.newR _ _ noY_ _ (by simp),((br_ _ w).alloc (nr_ _) _).alloc (by simp) _⟩)
 go_enter Tryz.func39,Tryz.ntmps39
 go_upto_region 1 with fail
 (try rw [hS0])
 clear hS0
 have p2:=C0.out.o.cell 2
 have p3:=C0.out.o.cell 3
 simp only [gz_,gs_] at p2 p3
 go_wp2_with fail
 refine (EA.out S0 C0.out.b).mono ?_
 rintro e w1 ⟨v1,rfl,o1,hb1⟩
 obtain ⟨bda,bpa,rfl⟩:=o1.rd.shape
 have G1:=C0.out.call hb1
 have q2:=G1.o.cell 2
 have g2:=G1.o.frozen 2
 have q3:=G1.o.cell 3
 have g3:=G1.o.frozen 3
 simp only [gz_,gs_] at q2 q3
 clear EA p2 p3
 go_upto_region 2 with fail
 obtain ⟨S1,hS1⟩:∃ x,((w1).setCell ⟨w.heap.size,2,none⟩ (.int .i64 be)).setCell ⟨w.heap.size,3,none⟩ (.slice bda la.length bpa)=x:=⟨_,rfl⟩
 have C1:=a_ (show Tn 55 noY_ w S1 [.string nm,.int .i64 ep,.int .i64 be,.slice bda la.length bpa,.slice ads st.length cps,.slice adt tt.length cpt,.int .i64 rd,.int .i64 vd,.int .i64 hr,.int .i64 hb,.slice adw hw.length cpw,.int .i64 tr,.slice adx tw.length cpx,.slice adh th.length cph,.int .i64 ld,.slice adv vo.length cpv,.slice adg go.length cpg,.slice add dn.length cpd,.slice adp pl.length cpp,.slice adq ps.length cpq] from by rw [<- hS1];exact ((G1.put 2 _).put 3 _))
 have P1:=a_ (show Oth (fun g=>g=w.heap.size) S0 S1 from by rw [<- hS1];exact ((ax_ hb1 2 _).set (S:=fun g=>g=w.heap.size) rfl 3 _))
 have N1:=a_ (show w1.heap.size=S1.heap.size from by rw [<- hS1];simp)
 have Oa:=a_ (show OwnX S0.heap.size S1.heap.size S1 (.slice bda la.length bpa) la from by rw [<- N1.out,<- hS1];exact ((OwnA.ox o1)).kept ((Kept.set _ 2 _ (.inl (by have:=C0.out.lt;omega))).trans (Kept.set _ 3 _ (.inl (by have:=C0.out.lt;omega)))))
 (try rw [hS1])
 clear G1 hb1 o1 q2 g2 q3 g3 hS1
 have p4:=C1.out.o.cell 4
 simp only [gz_,gs_] at p4
 have pA2:=(C1.out.o.below ((br_ S1.heap.size S1).alloc (nr_ _) (.cells #[] 152)) C1.out.o.lt).cell 4
 simp only [gz_,gs_] at pA2
 go_upto_region 3 with (first
  | (at_builtin;refine dl_ S1 rfl _ _ rfl (.slice ads st.length cps) st rfl rfl (Rs.out S1 C1.out.b) hns ?_;intro v2 w2 o2 hb2;obtain ⟨bds,bps,hv2⟩:=o2.rd.shape;subst hv2;have G2:=C1.out.call hb2;have q4:=G2.o.cell 4;have g4:=G2.o.frozen 4;simp only [gz_,gs_] at q4)
  | fail)
 clear pA2 p4 Rs
 obtain ⟨S2,hS2⟩:∃ x,(w2).setCell ⟨w.heap.size,4,none⟩ (.slice bds st.length bps)=x:=⟨_,rfl⟩
 have C2:=a_ (show Tn 55 noY_ w S2 [.string nm,.int .i64 ep,.int .i64 be,.slice bda la.length bpa,.slice bds st.length bps,.slice adt tt.length cpt,.int .i64 rd,.int .i64 vd,.int .i64 hr,.int .i64 hb,.slice adw hw.length cpw,.int .i64 tr,.slice adx tw.length cpx,.slice adh th.length cph,.int .i64 ld,.slice adv vo.length cpv,.slice adg go.length cpg,.slice add dn.length cpd,.slice adp pl.length cpp,.slice adq ps.length cpq] from by rw [<- hS2];exact (G2.put 4 _))
 have P2:=a_ (show Oth (fun g=>g=w.heap.size) S1 S2 from by rw [<- hS2];exact (ax_ hb2 4 _))
 have N2:=a_ (show w2.heap.size=S2.heap.size from by rw [<- hS2];simp)
 have Os:=a_ (show InV S1.heap.size S2.heap.size S2 (.slice bds st.length bps) st from by rw [<- N2.out,<- hS2];exact (o2).kept (Kept.set _ 4 _ (.inl (by have:=C1.out.lt;omega))))
 (try rw [hS2])
 clear G2 hb2 o2 q4 g4 hS2
 have p5:=C2.out.o.cell 5
 simp only [gz_,gs_] at p5
 go_wp2_with fail
 refine (EB.out S2 C2.out.b).mono ?_
 rintro e w3 ⟨v3,rfl,o3,hb3⟩
 obtain ⟨bdt,bpt,rfl⟩:=o3.rd.shape
 have G3:=C2.out.call hb3
 have q5:=G3.o.cell 5
 have g5:=G3.o.frozen 5
 simp only [gz_,gs_] at q5
 clear EB p5
 go_upto_region 4 with fail
 obtain ⟨S3,hS3⟩:∃ x,(w3).setCell ⟨w.heap.size,5,none⟩ (.slice bdt tt.length bpt)=x:=⟨_,rfl⟩
 have C3:=a_ (show Tn 55 noY_ w S3 [.string nm,.int .i64 ep,.int .i64 be,.slice bda la.length bpa,.slice bds st.length bps,.slice bdt tt.length bpt,.int .i64 rd,.int .i64 vd,.int .i64 hr,.int .i64 hb,.slice adw hw.length cpw,.int .i64 tr,.slice adx tw.length cpx,.slice adh th.length cph,.int .i64 ld,.slice adv vo.length cpv,.slice adg go.length cpg,.slice add dn.length cpd,.slice adp pl.length cpp,.slice adq ps.length cpq] from by rw [<- hS3];exact (G3.put 5 _))
 have P3:=a_ (show Oth (fun g=>g=w.heap.size) S2 S3 from by rw [<- hS3];exact (ax_ hb3 5 _))
 have N3:=a_ (show w3.heap.size=S3.heap.size from by rw [<- hS3];simp)
 have Ot:=a_ (show OwnKx S2.heap.size S3.heap.size S3 (.slice bdt tt.length bpt) tt from by rw [<- N3.out,<- hS3];exact ((OwnKs.kx o3)).kept (Kept.set _ 5 _ (.inl (by have:=C2.out.lt;omega))))
 (try rw [hS3])
 clear G3 hb3 o3 q5 g5 hS3
 have x8:=C3.out.o.cell 8
 have d8:S3.drew.cell? ⟨w.heap.size,8,none⟩=_:=C3.out.o.cell 8
 have x9:=C3.out.o.cell 9
 have d9:S3.drew.cell? ⟨w.heap.size,9,none⟩=_:=C3.out.o.cell 9
 have x10:=C3.out.o.cell 10
 have d10:S3.drew.cell? ⟨w.heap.size,10,none⟩=_:=C3.out.o.cell 10
 have x11:=C3.out.o.cell 11
 have d11:S3.drew.cell? ⟨w.heap.size,11,none⟩=_:=C3.out.o.cell 11
 have x12:=C3.out.o.cell 12
 have d12:S3.drew.cell? ⟨w.heap.size,12,none⟩=_:=C3.out.o.cell 12
 have x13:=C3.out.o.cell 13
 have d13:S3.drew.cell? ⟨w.heap.size,13,none⟩=_:=C3.out.o.cell 13
 simp only [gz_,gs_] at x8 d8 x9 d9 x10 d10 x11 d11 x12 d12 x13 d13
 have bD:Below S3.heap.size S3 S3.drew:=(br_ _ _).drew
 go_cut [] from 6 (fun wc=>∃ (b1 b2 b3:Option Addr) (c1 c2 c3 m:Nat),Tn 55 noY_ w wc [.string nm,.int .i64 ep,.int .i64 be,.slice bda la.length bpa,.slice bds st.length bps,.slice bdt tt.length bpt,.int .i64 rd,.int .i64 vd,.int .i64 hr,.int .i64 hb,.slice b1 hw.length c1,.int .i64 tr,.slice b2 tw.length c2,.slice b3 th.length c3,.int .i64 ld,.slice adv vo.length cpv,.slice adg go.length cpg,.slice add dn.length cpd,.slice adp pl.length cpp,.slice adq ps.length cpq]/\S3.heap.size<=m/\m<=wc.heap.size/\InS S3.heap.size m wc (.slice b1 hw.length c1) hw/\InS m wc.heap.size wc (.slice b2 tw.length c2) tw/\InI m wc.heap.size wc (.slice b3 th.length c3) th/\Oth (fun g=>g=w.heap.size) S3 wc)
 case first =>
  go_region_law (first
   | (go_simp;go_at_call 105;refine (ET.out _ (C3.out.b.trans (bQ.mono C3.out.b.size))).mono ?_;rintro en wT ⟨v2,z2,rfl,oT,oH,bT⟩;obtain ⟨b2,c2,hv2⟩:=oT.rd.shape;subst hv2;obtain ⟨b3,c3,hz2⟩:=oH.rd.shape;subst hz2;have kT:=kQ.below bT (Nat.lt_of_lt_of_le C3.out.o.lt bQ.size);have m8:=kT.cell 8;have mf8:=kT.frozen 8;have m9:=kT.cell 9;have mf9:=kT.frozen 9;have m10:=kT.cell 10;have mf10:=kT.frozen 10;have m11:=kT.cell 11;have mf11:=kT.frozen 11;have m12:=kT.cell 12;have mf12:=kT.frozen 12;have m13:=kT.cell 13;have mf13:=kT.frozen 13;simp only [gz_,gs_] at m8 m9 m10 m11 m12 m13)
   | (go_simp;go_at_call 104;refine (EQ.out _ (by first | exact C3.out.b | exact C3.out.b.drew)).mono ?_;rintro en wQ ⟨v1,rfl,oQ,bQ0⟩;obtain ⟨b1,c1,hv1⟩:=oQ.rd.shape;subst hv1;have bQ:Below S3.heap.size S3 wQ:=(by first | exact bQ0 | exact bD.trans bQ0);have kQ:=C3.out.o.below bQ C3.out.o.lt;have n8:=kQ.cell 8;have nf8:=kQ.frozen 8;have n9:=kQ.cell 9;have nf9:=kQ.frozen 9;have n10:=kQ.cell 10;have nf10:=kQ.frozen 10;have n11:=kQ.cell 11;have nf11:=kQ.frozen 11;have n12:=kQ.cell 12;have nf12:=kQ.frozen 12;have n13:=kQ.cell 13;have nf13:=kQ.frozen 13;simp only [gz_,gs_] at n8 n9 n10 n11 n12 n13))
  all_goals
   go_wp2
   go_meet
   case rel =>
    have bQT:=bQ.trans (bT.mono bQ.size)
    have C9x:=C3.out.call bQT
    have hz:=C3.out.lt
    have s1:=bQ.size
    have s2:=bT.size
    have oQ1:InS S3.heap.size wQ.heap.size wQ (.slice b1 hw.length c1) hw:=InS.of oQ
    have oT1:=InS.of oT
    have oH1:=InI.of oH
    refine ⟨b1,b2,b3,c1,c2,c3,wQ.heap.size,?_,s1,?_,?_,?_,?_,?_⟩
    ·exact ((((((C9x.put 8 _).put 9 _).put 10 _).put 11 _).put 12 _).put 13 _)
    ·simpa using s2
    ·exact (oQ1.kept (Kept.of_below bT (nr_ _))).kept ((((((Kept.set (g:=w.heap.size) _ 8 _ (.inl (by omega))).trans (Kept.set (g:=w.heap.size) _ 9 _ (.inl (by omega)))).trans (Kept.set (g:=w.heap.size) _ 10 _ (.inl (by omega)))).trans (Kept.set (g:=w.heap.size) _ 11 _ (.inl (by omega)))).trans (Kept.set (g:=w.heap.size) _ 12 _ (.inl (by omega)))).trans (Kept.set (g:=w.heap.size) _ 13 _ (.inl (by omega))))
    ·exact (oT1.kept ((((((Kept.set (g:=w.heap.size) _ 8 _ (.inl (by omega))).trans (Kept.set (g:=w.heap.size) _ 9 _ (.inl (by omega)))).trans (Kept.set (g:=w.heap.size) _ 10 _ (.inl (by omega)))).trans (Kept.set (g:=w.heap.size) _ 11 _ (.inl (by omega)))).trans (Kept.set (g:=w.heap.size) _ 12 _ (.inl (by omega)))).trans (Kept.set (g:=w.heap.size) _ 13 _ (.inl (by omega))))).wide (nr_ _) (by simp)
    ·exact (oH1.kept ((((((Kept.set (g:=w.heap.size) _ 8 _ (.inl (by omega))).trans (Kept.set (g:=w.heap.size) _ 9 _ (.inl (by omega)))).trans (Kept.set (g:=w.heap.size) _ 10 _ (.inl (by omega)))).trans (Kept.set (g:=w.heap.size) _ 11 _ (.inl (by omega)))).trans (Kept.set (g:=w.heap.size) _ 12 _ (.inl (by omega)))).trans (Kept.set (g:=w.heap.size) _ 13 _ (.inl (by omega))))).wide (nr_ _) (by simp)
    ·exact (((((((Oth.of_below (S:=fun g=>g=w.heap.size) bQT).set (S:=fun g=>g=w.heap.size) rfl 8 _).set (S:=fun g=>g=w.heap.size) rfl 9 _).set (S:=fun g=>g=w.heap.size) rfl 10 _).set (S:=fun g=>g=w.heap.size) rfl 11 _).set (S:=fun g=>g=w.heap.size) rfl 12 _).set (S:=fun g=>g=w.heap.size) rfl 13 _)
 case rest =>
 obtain ⟨bdw,bdx,bdh,bpw,bpx,bph,mQ,cC,hm1,hm2,hw1,hx1,hh1,hP⟩:=hcut
 obtain ⟨S4,hS4⟩:∃ x,x=wc:=⟨_,rfl⟩
 subst hS4
 have C4:=a_ cC
 have P4:=a_ hP
 have Ow:=a_ hw1
 have Ox:=a_ hx1
 have Oh:=a_ hh1
 have Hm1:=a_ hm1
 have Hm2:=a_ hm2
 clear cC hP hw1 hx1 hh1 hm1 hm2 EQ ET bD x8 d8 x9 d9 x10 d10 x11 d11 x12 d12 x13 d13
 have p15:=C4.out.o.cell 15
 simp only [gz_,gs_] at p15
 have pA5:=(C4.out.o.below ((br_ S4.heap.size S4).alloc (nr_ _) (.cells #[] 156)) C4.out.o.lt).cell 15
 simp only [gz_,gs_] at pA5
 go_upto_region 6 with (first
  | (at_builtin;refine cr_ S4 rfl _ _ rfl (.slice adv vo.length cpv) vo rfl rfl (Rv.out S4 C4.out.b) hnv ?_;intro v5 w5 o5 hb5;obtain ⟨bdv,bpv,hv5⟩:=o5.rd.shape;subst hv5;have G5:=C4.out.call hb5;have q15:=G5.o.cell 15;have g15:=G5.o.frozen 15;simp only [gz_,gs_] at q15)
  | fail)
 clear pA5 p15 Rv
 obtain ⟨S5,hS5⟩:∃ x,(w5).setCell ⟨w.heap.size,15,none⟩ (.slice bdv vo.length bpv)=x:=⟨_,rfl⟩
 have C5:=a_ (show Tn 55 noY_ w S5 [.string nm,.int .i64 ep,.int .i64 be,.slice bda la.length bpa,.slice bds st.length bps,.slice bdt tt.length bpt,.int .i64 rd,.int .i64 vd,.int .i64 hr,.int .i64 hb,.slice bdw hw.length bpw,.int .i64 tr,.slice bdx tw.length bpx,.slice bdh th.length bph,.int .i64 ld,.slice bdv vo.length bpv,.slice adg go.length cpg,.slice add dn.length cpd,.slice adp pl.length cpp,.slice adq ps.length cpq] from by rw [<- hS5];exact (G5.put 15 _))
 have P5:=a_ (show Oth (fun g=>g=w.heap.size) S4 S5 from by rw [<- hS5];exact (ax_ hb5 15 _))
 have N5:=a_ (show w5.heap.size=S5.heap.size from by rw [<- hS5];simp)
 have Ov:=a_ (show InR 156 S4.heap.size S5.heap.size S5 (.slice bdv vo.length bpv) vo from by rw [<- N5.out,<- hS5];exact (o5).kept (Kept.set _ 15 _ (.inl (by have:=C4.out.lt;omega))))
 (try rw [hS5])
 clear G5 hb5 o5 q15 g15 hS5
 have p16:=C5.out.o.cell 16
 simp only [gz_,gs_] at p16
 have pA6:=(C5.out.o.below ((br_ S5.heap.size S5).alloc (nr_ _) (.cells #[] 158)) C5.out.o.lt).cell 16
 simp only [gz_,gs_] at pA6
 go_upto_region 7 with (first
  | (at_builtin;refine co_ S5 rfl _ _ rfl (.slice adg go.length cpg) go rfl rfl (Rg.out S5 C5.out.b) hng ?_;intro v6 w6 o6 hb6;obtain ⟨bdg,bpg,hv6⟩:=o6.rd.shape;subst hv6;have G6:=C5.out.call hb6;have q16:=G6.o.cell 16;have g16:=G6.o.frozen 16;simp only [gz_,gs_] at q16)
  | fail)
 clear pA6 p16 Rg
 obtain ⟨S6,hS6⟩:∃ x,(w6).setCell ⟨w.heap.size,16,none⟩ (.slice bdg go.length bpg)=x:=⟨_,rfl⟩
 have C6:=a_ (show Tn 55 noY_ w S6 [.string nm,.int .i64 ep,.int .i64 be,.slice bda la.length bpa,.slice bds st.length bps,.slice bdt tt.length bpt,.int .i64 rd,.int .i64 vd,.int .i64 hr,.int .i64 hb,.slice bdw hw.length bpw,.int .i64 tr,.slice bdx tw.length bpx,.slice bdh th.length bph,.int .i64 ld,.slice bdv vo.length bpv,.slice bdg go.length bpg,.slice add dn.length cpd,.slice adp pl.length cpp,.slice adq ps.length cpq] from by rw [<- hS6];exact (G6.put 16 _))
 have P6:=a_ (show Oth (fun g=>g=w.heap.size) S5 S6 from by rw [<- hS6];exact (ax_ hb6 16 _))
 have N6:=a_ (show w6.heap.size=S6.heap.size from by rw [<- hS6];simp)
 have Og:=a_ (show InR 158 S5.heap.size S6.heap.size S6 (.slice bdg go.length bpg) go from by rw [<- N6.out,<- hS6];exact (o6).kept (Kept.set _ 16 _ (.inl (by have:=C5.out.lt;omega))))
 (try rw [hS6])
 clear G6 hb6 o6 q16 g16 hS6
 have p17:=C6.out.o.cell 17
 simp only [gz_,gs_] at p17
 have pA7:=(C6.out.o.below ((br_ S6.heap.size S6).alloc (nr_ _) (.cells #[] 3)) C6.out.o.lt).cell 17
 simp only [gz_,gs_] at pA7
 go_upto_region 8 with (first
  | (at_builtin;refine di_ S6 rfl _ _ rfl (.slice add dn.length cpd) dn rfl rfl (Rd.out S6 C6.out.b) hnd ?_;intro v7 w7 o7 hb7;obtain ⟨bdd,bpd,hv7⟩:=o7.rd.shape;subst hv7;have G7:=C6.out.call hb7;have q17:=G7.o.cell 17;have g17:=G7.o.frozen 17;simp only [gz_,gs_] at q17)
  | fail)
 clear pA7 p17 Rd
 obtain ⟨S7,hS7⟩:∃ x,(w7).setCell ⟨w.heap.size,17,none⟩ (.slice bdd dn.length bpd)=x:=⟨_,rfl⟩
 have C7:=a_ (show Tn 55 noY_ w S7 [.string nm,.int .i64 ep,.int .i64 be,.slice bda la.length bpa,.slice bds st.length bps,.slice bdt tt.length bpt,.int .i64 rd,.int .i64 vd,.int .i64 hr,.int .i64 hb,.slice bdw hw.length bpw,.int .i64 tr,.slice bdx tw.length bpx,.slice bdh th.length bph,.int .i64 ld,.slice bdv vo.length bpv,.slice bdg go.length bpg,.slice bdd dn.length bpd,.slice adp pl.length cpp,.slice adq ps.length cpq] from by rw [<- hS7];exact (G7.put 17 _))
 have P7:=a_ (show Oth (fun g=>g=w.heap.size) S6 S7 from by rw [<- hS7];exact (ax_ hb7 17 _))
 have N7:=a_ (show w7.heap.size=S7.heap.size from by rw [<- hS7];simp)
 have Od:=a_ (show InI S6.heap.size S7.heap.size S7 (.slice bdd dn.length bpd) dn from by rw [<- N7.out,<- hS7];exact (o7).kept (Kept.set _ 17 _ (.inl (by have:=C6.out.lt;omega))))
 (try rw [hS7])
 clear G7 hb7 o7 q17 g17 hS7
 have p18:=C7.out.o.cell 18
 simp only [gz_,gs_] at p18
 go_wp2_with fail
 refine (EP.out S7 C7.out.b).mono ?_
 rintro e w8 ⟨v8,rfl,o8,hb8⟩
 obtain ⟨bdp,bpp,rfl⟩:=o8.rd.shape
 have G8:=C7.out.call hb8
 have q18:=G8.o.cell 18
 have g18:=G8.o.frozen 18
 simp only [gz_,gs_] at q18
 clear EP p18
 go_upto_region 9 with fail
 obtain ⟨S8,hS8⟩:∃ x,(w8).setCell ⟨w.heap.size,18,none⟩ (.slice bdp pl.length bpp)=x:=⟨_,rfl⟩
 have C8:=a_ (show Tn 55 noY_ w S8 [.string nm,.int .i64 ep,.int .i64 be,.slice bda la.length bpa,.slice bds st.length bps,.slice bdt tt.length bpt,.int .i64 rd,.int .i64 vd,.int .i64 hr,.int .i64 hb,.slice bdw hw.length bpw,.int .i64 tr,.slice bdx tw.length bpx,.slice bdh th.length bph,.int .i64 ld,.slice bdv vo.length bpv,.slice bdg go.length bpg,.slice bdd dn.length bpd,.slice bdp pl.length bpp,.slice adq ps.length cpq] from by rw [<- hS8];exact (G8.put 18 _))
 have P8:=a_ (show Oth (fun g=>g=w.heap.size) S7 S8 from by rw [<- hS8];exact (ax_ hb8 18 _))
 have N8:=a_ (show w8.heap.size=S8.heap.size from by rw [<- hS8];simp)
 have Op:=a_ (show InT S7.heap.size S8.heap.size S8 (.slice bdp pl.length bpp) pl from by rw [<- N8.out,<- hS8];exact ((InT.of o8)).kept (Kept.set _ 18 _ (.inl (by have:=C7.out.lt;omega))))
 (try rw [hS8])
 clear G8 hb8 o8 q18 g18 hS8
 obtain ⟨i0,hi,hz0,hz1,hz2⟩:=info_parts Tryz.infoRPf
 obtain ⟨wM,hmk,hown0,hg0⟩:=run_make_own (P:=Tryz.prog) (w:=S8) S8.heap.size 53 138 i0 _ 5 Tryz.underlying53 hi hz0 hz1 .i64 .i64 ps.length (by rw [hz2];omega) (by unfold maxLen;omega) (nr_ _)
 have bM:Below S8.heap.size S8 wM:=(br_ _ _).grown hg0 (nr_ _) (by intro k hk;cases hk)
 have OM:Hid (OwnPx S8.heap.size wM.heap.size wM (.slice (some ⟨S8.heap.size,0,none⟩) 0 ps.length) []):=a_ ⟨[],rfl,hown0,af_ hown0,Parts.nil _ _ _ _ _⟩
 have CM:=C8.out.call bM
 have x19:=C8.out.o.cell 19
 have y19:=CM.o.cell 19
 simp only [gz_,gs_] at x19 y19
 have CMh:=a_ CM
 have BM:=a_ bM
 clear hown0 hg0 CM bM
 go_wp2
 clear hmk x19 y19
 go_loopw [53,3] (fun iv ov wr=>∃ k:Nat,k<=ps.length/\iv=.int .i64 (k:Int)/\OwnPx S8.heap.size wr.heap.size wr ov (ps.take k)/\ov.ownBlock ≠ none/\Below S8.heap.size S8 wr) (fun iv _ _=>ps.length - (intOf iv).toNat)
 case atStart=>exact ⟨0,Nat.zero_le _,rfl,OM.out,by simp [Value.ownBlock],BM.out⟩
 case round =>
  clear OM BM CMh
  obtain ⟨k,hk,rfl,ho,hne,hbw⟩:=hrel
  by_cases hlt:k < ps.length
  ·obtain ⟨b0,off,rfl,h3,hcell⟩:=HYq.out.at5 (by omega)
   obtain ⟨uk,hat,hrk⟩:=hcell k hlt
   have hBr:=C8.out.b.trans (hbw.mono C8.out.b.size)
   have hrw:=hrk.below hBr (nr_ _)
   have Hrg:=a_ (o_ hat hBr h3)
   have hfk:=hfq _ (List.getElem_mem hlt)
   have hlk:=hl2 _ (List.getElem_mem hlt)
   have HY:Hid (ps.take k ++ [ps[k]]=ps.take (k+1)):=a_ (by rw [List.take_succ_eq_append_getElem hlt])
   have hki:(k:Int) < (ps.length:Int):=by omega
   have hk0:(0:Int)<=(k:Int):=by omega
   have Hln:=a_ (show (ps.take k).length=k by simp;omega)
   obtain ⟨oa,oc,hv0⟩:=ho.rd.shape
   rw [Hln.out] at hv0
   subst hv0
   have zb:Blk (wr.alloc (.cells #[.int .i64 0,.slice none 0 0,.int .i64 0,.int .i64 0,.slice none 0 0] 138)) wr.heap.size 138 [.int .i64 0,.slice none 0 0,.int .i64 0,.int .i64 0,.slice none 0 0]:=Blk.new wr _ _
   have H1:=a_ (show (pfC ps[k] uk).toArray.all (·.oneCell')=true from by rw [List.all_toArray];exact bX_ hrw)
   have IE:=a_ (show (Tryz.prog.info? 138).map (·.size)=some (pfC ps[k] uk).length from Tryz.infoC5)
   have Hth:=a_ (show (wr.alloc (.cells #[.int .i64 0,.slice none 0 0,.int .i64 0,.int .i64 0,.slice none 0 0] 138)).there wr.heap.size 0 (pfC ps[k] uk).toArray.size from zb.there rfl)
   obtain ⟨w3,hw3⟩:∃ x,(wr.alloc (.cells #[.int .i64 0,.slice none 0 0,.int .i64 0,.int .i64 0,.slice none 0 0] 138)).setCells wr.heap.size 0 (pfC ps[k] uk)=x:=⟨_,rfl⟩
   have J3:=a_ (show Blk w3 wr.heap.size 138 (pfC ps[k] uk) from by rw [<- hw3];exact q_ zb rfl)
   have b3:Below wr.heap.size wr w3:=by rw [<- hw3];exact ((br_ _ wr).alloc (nr_ _) _).trans (e_ (nr_ _) _ _ _)
   have RJ:=a_ (c_ J3.out)
   have HC:=a_ (dZ_ ps[k] uk w3 (hrw.below b3 (nr_ _)) hfk hlk)
   have Ho:=a_ ho
   have Hb:=a_ hbw
   have B3:=a_ b3
   have Hne:=a_ hne
   have Hw3:=a_ hw3
   rw [show pfV ps[k] uk=.agg (pfC ps[k] uk).toArray from rfl] at HC
   clear hat hrk hcell ho hbw hne hrw hBr b3 zb hw3 hfk hlk J3
   generalize ps[k]=pk at HC HY Hrg H1 IE Hth Hw3 RJ
   generalize pfC pk uk=cs at HC Hrg H1 IE Hth Hw3 RJ
   go_wp2_with (first
    | (refine cB_ 138 _ rfl b0 (off+k * 5) rfl cs _ Hrg.out Tryz.underlying138 rfl IE.out (by rfl) ?_)
    | (refine wpList_store_mid rfl 138 _ _ rfl wr.heap.size 0 cs.toArray rfl rfl Hth.out (by simpa using IE.out) H1.out ?_;rw [Hw3.out])
    | (refine cB_ 138 _ rfl wr.heap.size (0) rfl cs _ RJ.out Tryz.underlying138 rfl IE.out (by rfl) ?_)
    | fail)
   refine HC.out.mono ?_
   rintro e w4 ⟨u4,rfl,o4,hb4⟩
   have B34:=B3.out.trans (hb4.mono B3.out.size)
   obtain ⟨w5,hw5⟩:∃ x,w4.alloc (.cells (pfC pk u4).toArray 138)=x:=⟨_,rfl⟩
   have b5:Below w4.heap.size w4 w5:=by rw [<- hw5];exact (br_ _ w4).alloc (nr_ _) _
   have K5:=a_ (show Blk w5 w4.heap.size 138 (pfC pk u4) from by rw [<- hw5];exact Blk.new w4 _ _)
   have O5:=a_ ((o4.kept (Kept.of_below b5 (nr_ _))).wide (lo':=wr.heap.size) (hi':=w5.heap.size) B3.out.size b5.size)
   have B5:=a_ (B34.trans (b5.mono B34.size))
   have Hk5:=a_ hw5
   have Hpv:=a_ (show pfV pk u4=.agg (pfC pk u4).toArray from rfl)
   clear o4 hb4 B34 b5 hw5 HC Hrg RJ Hth Hw3 H1 IE
   rw [Hpv.out]
   obtain ⟨bdb4,bpb4,e4b⟩:=O5.out.rd.kb.shape
   obtain ⟨bdw4,bpw4,e4w⟩:=O5.out.rd.kw.shape
   obtain ⟨yb4,yw4⟩:=u4
   simp only at e4b e4w
   subst e4b e4w
   simp only [pfC] at Hk5
   simp only [pfC]
   go_wp2_with (first
    | (at_builtin;(try rw [Hk5.out]);refine id_ wr w5 rfl _ _ rfl S8.heap.size (.slice oa k oc) w4.heap.size (ps.take k) pk _ rfl rfl Ho.out Hne.out B5.out K5.out O5.out (by have:=Hln.out;omega) Hb.out.size ?_;intro v6 w6 ho6 hn6 hb6)
    | fail)
   have HO6:Hid (OwnPx S8.heap.size w6.heap.size w6 v6 (ps.take (k+1))):=a_ (by rw [<- HY.out];exact ho6)
   have Hb6:=a_ (Hb.out.trans ((B5.out.mono Hb.out.size).trans hb6))
   have Hn6:=a_ hn6
   clear ho6 hn6 hb6
   go_roundw
   case rel=>exact ⟨k+1,by omega,by go_num,HO6.out,Hn6.out,Hb6.out⟩
   case measure=>simp [intOf];omega
  ·obtain rfl:k=ps.length:=by omega
   rw [List.take_length] at ho
   obtain ⟨bdq,bpq,hvq⟩:=ho.rd.shape
   subst hvq
   have CW:=C8.out.call hbw
   have q19:=CW.o.cell 19
   have g19:=CW.o.frozen 19
   simp only [gz_,gs_] at q19
   obtain ⟨S9,hS9⟩:∃ x,wr.setCell ⟨w.heap.size,19,none⟩ (.slice bdq ps.length bpq)=x:=⟨_,rfl⟩
   have C9:=a_ (show Tn 55 noY_ w S9 [.string nm,.int .i64 ep,.int .i64 be,.slice bda la.length bpa,.slice bds st.length bps,.slice bdt tt.length bpt,.int .i64 rd,.int .i64 vd,.int .i64 hr,.int .i64 hb,.slice bdw hw.length bpw,.int .i64 tr,.slice bdx tw.length bpx,.slice bdh th.length bph,.int .i64 ld,.slice bdv vo.length bpv,.slice bdg go.length bpg,.slice bdd dn.length bpd,.slice bdp pl.length bpp,.slice bdq ps.length bpq] from by rw [<- hS9];exact CW.put 19 _)
   have P9:=a_ (show Oth (fun g=>g=w.heap.size) S8 S9 from by rw [<- hS9];exact ax_ hbw 19 _)
   have N9:=a_ (show wr.heap.size=S9.heap.size from by rw [<- hS9];simp)
   have Oq:=a_ (show OwnPx S8.heap.size S9.heap.size S9 (.slice bdq ps.length bpq) ps from by rw [<- N9.out,<- hS9];exact ho.kept (Kept.set _ 19 _ (.inl (by have:=C8.out.lt;omega))))
   clear CW ho hbw hne
   have hz0:=C0.out.lt
   obtain ⟨F,hF⟩:∃ x,([.string nm,.int .i64 ep,.int .i64 be,.slice bda la.length bpa,.slice bds st.length bps,.slice bdt tt.length bpt,.int .i64 rd,.int .i64 vd,.int .i64 hr,.int .i64 hb,.slice bdw hw.length bpw,.int .i64 tr,.slice bdx tw.length bpx,.slice bdh th.length bph,.int .i64 ld,.slice bdv vo.length bpv,.slice bdg go.length bpg,.slice bdd dn.length bpd,.slice bdp pl.length bpp,.slice bdq ps.length bpq]:List Value)=x:=⟨_,rfl⟩
   have hFl:F.length=20:=by rw [<- hF];rfl
   have hF1:F.toArray.all (·.oneCell')=true:=by rw [List.all_toArray,<- hF];rfl
   have Hsz:=a_ (show (Tryz.prog.info? 55).map (·.size)=some F.length from by rw [hFl];exact Tryz.infoC20)
   have Hld:=a_ (show S9.rangeAt (w.heap.size) 0 F from by rw [<- hF];exact c_ C9.out.o)
   have HRk:=a_ (show Blk S9 (w.heap.size+1) 55 noY_ from C9.out.r)
   have Hth:=a_ (show S9.there (w.heap.size+1) 0 F.toArray.size from by rw [show F.toArray.size=20 from by simpa using hFl];exact HRk.out.there rfl)
   have HX:=a_ (show Blk (S9.setCells (w.heap.size+1) 0 F) (w.heap.size+1) 55 F from by rw [<- hF];exact q_ HRk.out (by rfl))
   have HB:=a_ (C9.out.b.trans (e_ (B:=w.heap.size) (show w.heap.size<=w.heap.size+1 by omega) F S9 0))
   have Y1:=(show S0.heap.size<=S1.heap.size from P1.out.size)
   have Y2:=(show S1.heap.size<=S2.heap.size from P2.out.size)
   have Y3:=(show S2.heap.size<=S3.heap.size from P3.out.size)
   have Y4:=(show S3.heap.size<=S4.heap.size from P4.out.size)
   have Y5:=(show S4.heap.size<=S5.heap.size from P5.out.size)
   have Y6:=(show S5.heap.size<=S6.heap.size from P6.out.size)
   have Y7:=(show S6.heap.size<=S7.heap.size from P7.out.size)
   have Y8:=(show S7.heap.size<=S8.heap.size from P8.out.size)
   have YL:=(show S8.heap.size<=S9.heap.size from P9.out.size)
   have hm1:=Hm1.out
   have hm2:=Hm2.out
   have Fa:=a_ (show OwnX S0.heap.size S1.heap.size (S9.setCells (w.heap.size+1) 0 F) (.slice bda la.length bpa) la from (((((((((Oa.out.kept (Kept.of_oth P2.out (fun g a b e=>by have e9:g=w.heap.size:=e;omega))).kept (Kept.of_oth P3.out (fun g a b e=>by have e9:g=w.heap.size:=e;omega))).kept (Kept.of_oth P4.out (fun g a b e=>by have e9:g=w.heap.size:=e;omega))).kept (Kept.of_oth P5.out (fun g a b e=>by have e9:g=w.heap.size:=e;omega))).kept (Kept.of_oth P6.out (fun g a b e=>by have e9:g=w.heap.size:=e;omega))).kept (Kept.of_oth P7.out (fun g a b e=>by have e9:g=w.heap.size:=e;omega))).kept (Kept.of_oth P8.out (fun g a b e=>by have e9:g=w.heap.size:=e;omega))).kept (Kept.of_oth P9.out (fun g a b e=>by have e9:g=w.heap.size:=e;omega))).kept (Kept.setCs _ 0 F (.inl (by omega)))))
   have Fs:=a_ (show InV S1.heap.size S2.heap.size (S9.setCells (w.heap.size+1) 0 F) (.slice bds st.length bps) st from ((((((((Os.out.kept (Kept.of_oth P3.out (fun g a b e=>by have e9:g=w.heap.size:=e;omega))).kept (Kept.of_oth P4.out (fun g a b e=>by have e9:g=w.heap.size:=e;omega))).kept (Kept.of_oth P5.out (fun g a b e=>by have e9:g=w.heap.size:=e;omega))).kept (Kept.of_oth P6.out (fun g a b e=>by have e9:g=w.heap.size:=e;omega))).kept (Kept.of_oth P7.out (fun g a b e=>by have e9:g=w.heap.size:=e;omega))).kept (Kept.of_oth P8.out (fun g a b e=>by have e9:g=w.heap.size:=e;omega))).kept (Kept.of_oth P9.out (fun g a b e=>by have e9:g=w.heap.size:=e;omega))).kept (Kept.setCs _ 0 F (.inl (by omega)))))
   have Ft:=a_ (show OwnKx S2.heap.size S3.heap.size (S9.setCells (w.heap.size+1) 0 F) (.slice bdt tt.length bpt) tt from (((((((Ot.out.kept (Kept.of_oth P4.out (fun g a b e=>by have e9:g=w.heap.size:=e;omega))).kept (Kept.of_oth P5.out (fun g a b e=>by have e9:g=w.heap.size:=e;omega))).kept (Kept.of_oth P6.out (fun g a b e=>by have e9:g=w.heap.size:=e;omega))).kept (Kept.of_oth P7.out (fun g a b e=>by have e9:g=w.heap.size:=e;omega))).kept (Kept.of_oth P8.out (fun g a b e=>by have e9:g=w.heap.size:=e;omega))).kept (Kept.of_oth P9.out (fun g a b e=>by have e9:g=w.heap.size:=e;omega))).kept (Kept.setCs _ 0 F (.inl (by omega)))))
   have Fw:=a_ (show InS S3.heap.size mQ (S9.setCells (w.heap.size+1) 0 F) (.slice bdw hw.length bpw) hw from ((((((Ow.out.kept (Kept.of_oth P5.out (fun g a b e=>by have e9:g=w.heap.size:=e;omega))).kept (Kept.of_oth P6.out (fun g a b e=>by have e9:g=w.heap.size:=e;omega))).kept (Kept.of_oth P7.out (fun g a b e=>by have e9:g=w.heap.size:=e;omega))).kept (Kept.of_oth P8.out (fun g a b e=>by have e9:g=w.heap.size:=e;omega))).kept (Kept.of_oth P9.out (fun g a b e=>by have e9:g=w.heap.size:=e;omega))).kept (Kept.setCs _ 0 F (.inl (by omega)))))
   have Fx:=a_ (show InS mQ S4.heap.size (S9.setCells (w.heap.size+1) 0 F) (.slice bdx tw.length bpx) tw from ((((((Ox.out.kept (Kept.of_oth P5.out (fun g a b e=>by have e9:g=w.heap.size:=e;omega))).kept (Kept.of_oth P6.out (fun g a b e=>by have e9:g=w.heap.size:=e;omega))).kept (Kept.of_oth P7.out (fun g a b e=>by have e9:g=w.heap.size:=e;omega))).kept (Kept.of_oth P8.out (fun g a b e=>by have e9:g=w.heap.size:=e;omega))).kept (Kept.of_oth P9.out (fun g a b e=>by have e9:g=w.heap.size:=e;omega))).kept (Kept.setCs _ 0 F (.inl (by omega)))))
   have Fh:=a_ (show InI mQ S4.heap.size (S9.setCells (w.heap.size+1) 0 F) (.slice bdh th.length bph) th from ((((((Oh.out.kept (Kept.of_oth P5.out (fun g a b e=>by have e9:g=w.heap.size:=e;omega))).kept (Kept.of_oth P6.out (fun g a b e=>by have e9:g=w.heap.size:=e;omega))).kept (Kept.of_oth P7.out (fun g a b e=>by have e9:g=w.heap.size:=e;omega))).kept (Kept.of_oth P8.out (fun g a b e=>by have e9:g=w.heap.size:=e;omega))).kept (Kept.of_oth P9.out (fun g a b e=>by have e9:g=w.heap.size:=e;omega))).kept (Kept.setCs _ 0 F (.inl (by omega)))))
   have Fv:=a_ (show InR 156 S4.heap.size S5.heap.size (S9.setCells (w.heap.size+1) 0 F) (.slice bdv vo.length bpv) vo from (((((Ov.out.kept (Kept.of_oth P6.out (fun g a b e=>by have e9:g=w.heap.size:=e;omega))).kept (Kept.of_oth P7.out (fun g a b e=>by have e9:g=w.heap.size:=e;omega))).kept (Kept.of_oth P8.out (fun g a b e=>by have e9:g=w.heap.size:=e;omega))).kept (Kept.of_oth P9.out (fun g a b e=>by have e9:g=w.heap.size:=e;omega))).kept (Kept.setCs _ 0 F (.inl (by omega)))))
   have Fg:=a_ (show InR 158 S5.heap.size S6.heap.size (S9.setCells (w.heap.size+1) 0 F) (.slice bdg go.length bpg) go from ((((Og.out.kept (Kept.of_oth P7.out (fun g a b e=>by have e9:g=w.heap.size:=e;omega))).kept (Kept.of_oth P8.out (fun g a b e=>by have e9:g=w.heap.size:=e;omega))).kept (Kept.of_oth P9.out (fun g a b e=>by have e9:g=w.heap.size:=e;omega))).kept (Kept.setCs _ 0 F (.inl (by omega)))))
   have Fd:=a_ (show InI S6.heap.size S7.heap.size (S9.setCells (w.heap.size+1) 0 F) (.slice bdd dn.length bpd) dn from (((Od.out.kept (Kept.of_oth P8.out (fun g a b e=>by have e9:g=w.heap.size:=e;omega))).kept (Kept.of_oth P9.out (fun g a b e=>by have e9:g=w.heap.size:=e;omega))).kept (Kept.setCs _ 0 F (.inl (by omega)))))
   have Fp:=a_ (show InT S7.heap.size S8.heap.size (S9.setCells (w.heap.size+1) 0 F) (.slice bdp pl.length bpp) pl from ((Op.out.kept (Kept.of_oth P9.out (fun g a b e=>by have e9:g=w.heap.size:=e;omega))).kept (Kept.setCs _ 0 F (.inl (by omega)))))
   have Fq:=a_ (show OwnPx S8.heap.size S9.heap.size (S9.setCells (w.heap.size+1) 0 F) (.slice bdq ps.length bpq) ps from (Oq.out.kept (Kept.setCs _ 0 F (.inl (by omega)))))
   have FZ:=a_ (show (S9.setCells (w.heap.size+1) 0 F).heap.size=S9.heap.size from P_ _ F _ 0)
   have FY:=a_ (show w.heap.size<=S0.heap.size from by omega)
   have W1:=a_ Y1
   have W2:=a_ Y2
   have W3:=a_ Y3
   have W4:=a_ Y4
   have W5:=a_ Y5
   have W6:=a_ Y6
   have W7:=a_ Y7
   have W8:=a_ Y8
   have WL:=a_ YL
   clear hz0 Y1 Y2 Y3 Y4 Y5 Y6 Y7 Y8 YL Oa Os Ot Ow Ox Oh Ov Og Od Op Oq HRk hFl
   go_wp2_with (first
    | (refine wpList_load_mid rfl 55 _ rfl (w.heap.size) 0 rfl F _ Hld.out Tryz.underlying55 rfl Hsz.out ?_)
    | (refine wpList_store_mid rfl 55 _ _ rfl (w.heap.size+1) 0 F.toArray rfl rfl Hth.out (by simpa using Hsz.out) hF1 ?_)
    | fail)
   (try rw [hS9])
   (try simp only [List.toList_toArray])
   refine dQ_ (F:=F) (w.heap.size+1) (c_ HX.out) (by rfl) Hsz.out rfl ?_
   subst hF
   have fz:=FZ.out
   have fy:=FY.out
   have o1:=W1.out
   have o2:=W2.out
   have o3:=W3.out
   have o4:=W4.out
   have o5:=W5.out
   have o6:=W6.out
   have o7:=W7.out
   have o8:=W8.out
   have oL:=WL.out
   refine ⟨⟨.slice bda la.length bpa,.slice bds st.length bps,.slice bdt tt.length bpt,.slice bdw hw.length bpw,.slice bdx tw.length bpx,.slice bdh th.length bph,.slice bdv vo.length bpv,.slice bdg go.length bpg,.slice bdd dn.length bpd,.slice bdp pl.length bpp,.slice bdq ps.length bpq⟩,rfl,⟨⟨S0.heap.size,S1.heap.size,S2.heap.size,S3.heap.size,mQ,S4.heap.size,S5.heap.size,S6.heap.size,S7.heap.size,S8.heap.size,S9.heap.size,by omega,by omega,by omega,by omega,by omega,by omega,by omega,by omega,by omega,by omega,by omega,by omega,Fa.out.wide (by omega) (by omega),Fs.out.wide (by omega) (by omega),Ft.out.wide (by omega) (by omega),Fw.out.wide (by omega) (by omega),Fx.out.wide (by omega) (by omega),Fh.out.wide (by omega) (by omega),Fv.out.wide (by omega) (by omega),Fg.out.wide (by omega) (by omega),Fd.out.wide (by omega) (by omega),Fp.out.wide (by omega) (by omega),Fq.out.wide (by omega) (by omega)⟩⟩,HB.out⟩
theorem f_ (x a b:Int) (w:World) :
  Calls Tryz.prog 162 #[.int .i64 x,.int .i64 a,.int .i64 b] w fun e w'=>e=.returned (.bool (inB x a b))/\w'=w:=by
 by_cases h1:a<=x
 ·by_cases h2:x<=b
  ·have e:Hid (inB x a b=true):=a_ (by simp [inB,h1,h2])
   go_enter Tryz.func162,Tryz.ntmps162
   go_wp2
   go_ret
   rw [e.out];exact ⟨rfl,rfl⟩
  ·have e:Hid (inB x a b=false):=a_ (by simp [inB,h1,h2])
   go_enter Tryz.func162,Tryz.ntmps162
   go_wp2
   go_ret
   rw [e.out];exact ⟨rfl,rfl⟩
 ·have e:Hid (inB x a b=false):=a_ (by simp [inB,h1])
  go_enter Tryz.func162,Tryz.ntmps162
  go_wp2
  go_ret
  rw [e.out];exact ⟨rfl,rfl⟩
theorem ad_ (r b:Int) (vw:Value) (ws:List ByteArray) (w:World) (hrw:RdS w vw ws) (hlw:ws.length<=4000000) :
  Calls Tryz.prog 179 #[qcV r b vw] w fun e w'=>e=.returned (.bool (rootB r b ws))/\Below w.heap.size w w':=by
 obtain ⟨a,c,rfl⟩:=hrw.shape
 clear hrw
 simp only [qcV]
 have HB:=a_ ((br_ _ w).alloc (nr_ _) (.cells #[.int .i64 r,.int .i64 b,.slice a ws.length c] 48))
 by_cases h1:r=0
 ·by_cases h2:b=-1
  ·by_cases h3:ws.length=0
   ·have Hf:Hid (rootB r b ws=true):=a_ (by unfold rootB;rw [decide_eq_true h1,decide_eq_true h2,decide_eq_true h3];rfl)
    have h3i:((ws.length:Int) == 0)=true:=by rw [beq_iff_eq];omega
    subst h1 h2
    generalize rootB 0 (-1) ws=X at Hf ⊢
    clear h3
    go_enter Tryz.func179,Tryz.ntmps179
    go_wp2
    go_ret
    exact ⟨b_ Hf.out.symm,HB.out⟩
   ·have Hf:Hid (rootB r b ws=false):=a_ (by unfold rootB;rw [decide_eq_false h3,Bool.and_false,Bool.and_false])
    have h3i:((ws.length:Int) == 0)=false:=by rw [beq_eq_false_iff_ne];omega
    subst h1 h2
    generalize rootB 0 (-1) ws=X at Hf ⊢
    go_enter Tryz.func179,Tryz.ntmps179
    go_wp2
    go_ret
    exact ⟨b_ Hf.out.symm,HB.out⟩
  ·have Hf:Hid (rootB r b ws=false):=a_ (by unfold rootB;rw [decide_eq_false h2,Bool.false_and,Bool.and_false])
   have h2i:(b == -1)=false:=by rw [beq_eq_false_iff_ne];exact h2
   subst h1
   generalize rootB 0 b ws=X at Hf ⊢
   clear h2
   go_enter Tryz.func179,Tryz.ntmps179
   go_wp2
   go_ret
   exact ⟨b_ Hf.out.symm,HB.out⟩
 ·have Hf:Hid (rootB r b ws=false):=a_ (by unfold rootB;rw [decide_eq_false h1,Bool.false_and])
  have h1i:(r == 0)=false:=by rw [beq_eq_false_iff_ne];exact h1
  generalize rootB r b ws=X at Hf ⊢
  clear h1
  go_enter Tryz.func179,Tryz.ntmps179
  go_wp2
  go_ret
  exact ⟨b_ Hf.out.symm,HB.out⟩
theorem iP_ (p:Vl) (B:Nat) (s:ByteArray) (w:World) (hc:w.cell? ⟨B,0,none⟩=some (.string s)) (hB:B < w.heap.size) :
  Calls Tryz.prog 208 #[.agg #[.string p.1,.int .i64 p.2],.pointer (some ⟨B,0,none⟩)] w fun e w'=>e=.returned (.bool (decide (p.1=s)))/\Below w.heap.size w w':=by
 obtain ⟨a,b⟩:=p
 obtain ⟨w1,hw1⟩:∃ w1,w.alloc (.cells #[.string a,.int .i64 b] 152)=w1:=⟨_,rfl⟩
 have hB1:Below w.heap.size w w1:=by rw [<- hw1];exact (br_ _ w).alloc (nr_ _) _
 have k1:Blk w1 w.heap.size 152 [.string a,.int .i64 b]:=by rw [<- hw1];exact Blk.new w _ _
 have c0:=k1.cell 0
 simp only [gz_] at c0
 have cB:=(hB1.cell (p:=⟨B,0,none⟩) hB).trans hc
 simp only
 clear hc k1
 by_cases h:a=s
 ·rw [decide_eq_true h]
  subst h
  go_enter Tryz.func208,Tryz.ntmps208
  go_wp2
  go_ret
  exact ⟨rfl,hB1⟩
 ·rw [decide_eq_false h]
  have hq:=A_ h
  clear h
  go_enter Tryz.func208,Tryz.ntmps208
  go_wp2
  go_ret
  exact ⟨rfl,hB1⟩
theorem gN_ (v:Value) (l:List Vl) (B:Nat) (s:ByteArray) (w:World) (hr:RdV w v l) (hl:l.length<=4000000) (hc:w.cell? ⟨B,0,none⟩=some (.string s)) (hB:B < w.heap.size) :
  Calls Tryz.prog 213 #[v,.func (.func 208) #[] #[.pointer (some ⟨B,0,none⟩)]] w fun e w'=>(∃ i:Int,e=.returned (.int .i64 i)/\hasN (l.map (·.1)) s=decide (0<=i))/\Below w.heap.size w w':=by
 rcases hr with ⟨a,cap,rfl,rfl,-⟩ | ⟨b,off,cap,h0,rfl,h1,h2,h3,h4⟩
 ·go_enter Tryz.func213,Tryz.ntmps213
  go_wp2
  refine wp_loop_rounds 1 ?_
  rw [rounds_succ]
  go_wp2
  go_ret
  exact ⟨⟨_,rfl,rfl⟩,br_ _ _⟩
 ·have H4:=a_ h4
  have Hc:=a_ hc
  clear h4 hc
  go_enter Tryz.func213,Tryz.ntmps213
  go_wp2
  go_loopw [8] (fun i wr=>∃ k:Nat,k<=l.length/\i=.int .i64 k/\s ∉ (l.map (·.1)).take k/\Below w.heap.size w wr) (fun i _=>l.length - (intOf i).toNat)
  case atStart=>exact ⟨0,Nat.zero_le _,rfl,by simp,br_ _ _⟩
  case round =>
   obtain ⟨k,hk,rfl,hno,hb⟩:=hrel
   have Hno:=a_ hno
   clear hno
   by_cases hlt:k < l.length
   ·have c0:=(hb.cell (p:=⟨b,off+k * 2,none⟩) h3).trans (H4.out k hlt).1
    have c1:=(hb.cell (p:=⟨b,off+k * 2+1,none⟩) h3).trans (H4.out k hlt).2
    have hli:(k:Int) < (l.length:Int):=by omega
    have hlm:k < (l.map (·.1)).length:=by simpa using hlt
    have HC:=a_ (iP_ l[k] B s wr ((hb.cell (p:=⟨B,0,none⟩) hB).trans Hc.out) (Nat.lt_of_lt_of_le hB hb.size))
    by_cases he:l[k].1=s
    ·have Hr:Hid (hasN (l.map (·.1)) s=decide (0<=(k:Int))):=a_ (by rw [bq_ (by rw [<- he];exact List.mem_map_of_mem (List.getElem_mem _)),decide_eq_true (by omega)])
     rw [decide_eq_true he] at HC
     clear he Hno
     generalize l[k].1=x at c0 HC
     generalize l[k].2=y at c1 HC
     have Hb:=a_ hb
     clear hb
     go_wp2_with fail
     refine HC.out.mono ?_
     rintro e w2 ⟨rfl,hb2⟩
     have HB2:=a_ (Hb.out.trans (hb2.mono Hb.out.size))
     clear c0 c1 hb2
     go_wp2
     go_ret
     exact ⟨⟨_,rfl,Hr.out⟩,HB2.out⟩
    ·have Hn2:=a_ (bk_ hlm Hno.out (by simpa using he))
     rw [decide_eq_false he] at HC
     clear he Hno
     generalize l[k].1=x at c0 HC
     generalize l[k].2=y at c1 HC
     have Hb:=a_ hb
     clear hb
     go_wp2_with fail
     refine HC.out.mono ?_
     rintro e w2 ⟨rfl,hb2⟩
     have HB2:=a_ (Hb.out.trans (hb2.mono Hb.out.size))
     clear c0 c1 hb2
     go_wp2
     go_roundw
     case rel=>exact ⟨k+1,by omega,by go_num,Hn2.out,HB2.out⟩
     case measure=>simp [intOf];omega
   ·have Hr:Hid (hasN (l.map (·.1)) s=decide ((0:Int)<=-1)):=a_ (by rw [ce_ (by have:=Hno.out;rwa [List.take_of_length_le (by simp;omega)] at this)];rfl)
    go_wp2
    go_ret
    exact ⟨⟨_,rfl,Hr.out⟩,hb⟩
theorem eh_ (v:Value) (l:List Vl) (B:Nat) (s:ByteArray) (w:World) (hr:RdV w v l) (hl:l.length<=4000000) (hc:w.cell? ⟨B,0,none⟩=some (.string s)) (hB:B < w.heap.size) :
  Calls Tryz.prog 207 #[v,.func (.func 208) #[] #[.pointer (some ⟨B,0,none⟩)]] w fun e w'=>e=.returned (.bool (hasN (l.map (·.1)) s))/\Below w.heap.size w w':=by
 obtain ⟨a,c,rfl⟩:=hr.shape
 have HI:=a_ (gN_ _ l B s w hr hl hc hB)
 clear hr hc
 go_enter Tryz.func207,Tryz.ntmps207
 go_wp2_with fail
 refine HI.out.mono ?_
 rintro e w1 ⟨⟨i,rfl,hi⟩,hb⟩
 have Hi:=a_ hi
 clear hi
 go_wp2
 go_ret
 exact ⟨b_ Hi.out.symm,hb⟩
theorem kf_ (l:List Vl) (ns:List ByteArray) (k:Nat) (h:k < ns.length) (hk:hasN (l.map (·.1)) ns[k]=false):ns.all (fun s=>hasN (l.map (·.1)) s)=false:=by
 rw [List.all_eq_false]
 exact ⟨ns[k],List.getElem_mem _,by simp [hk]⟩
theorem jX_ (l:List Vl) (ns:List ByteArray) (h:∀ j (hj:j < ns.length),hasN (l.map (·.1)) ns[j]=true):ns.all (fun s=>hasN (l.map (·.1)) s)=true:=by
 rw [List.all_eq_true]
 intro s hs
 obtain ⟨j,hj,rfl⟩:=List.mem_iff_getElem.1 hs
 exact h j hj
theorem eF_ (v vn:Value) (l:List Vl) (ns:List ByteArray) (w:World) (hr:RdV w v l) (hrn:RdS w vn ns) (hl:l.length<=4000000) (hln:ns.length<=4000000) :
  Calls Tryz.prog 194 #[v,vn] w fun e w'=>e=.returned (.bool (ns.all (fun s=>hasN (l.map (·.1)) s)))/\Below w.heap.size w w':=by
 have hmf:∀ (fn:Fn) (first cap:Array Value) (w:World),(Instr.makeFunc fn first cap).run Tryz.prog w=.ok (.func fn first cap) w:=fun _ _ _ _=>rfl
 obtain ⟨al,cl,rfl⟩:=hr.shape
 rcases hrn with ⟨a,cap,rfl,rfl,-⟩ | ⟨b,off,cap,h0,rfl,h1,h2,h3,h4⟩
 ·clear hr
  go_enter Tryz.func194,Tryz.ntmps194
  go_wp2
  refine wp_loop_rounds 1 ?_
  rw [rounds_succ]
  go_wp2
  go_ret
  exact ⟨rfl,br_ _ _⟩
 ·have H4:=a_ h4
  have HI:=a_ (fun B s w h1 h2 h3=>eh_ (.slice al l.length cl) l B s w h1 hl h2 h3)
  have Hr:=a_ hr
  clear h4 hr
  have Hno:=a_ (kf_ l ns)
  have Hyes:=a_ (jX_ l ns)
  generalize ns.all (fun s=>hasN (l.map (·.1)) s)=X at Hno Hyes ⊢
  go_enter Tryz.func194,Tryz.ntmps194
  go_wp2
  go_loopw [9] (fun i wr=>∃ k:Nat,k<=ns.length/\i=.int .i64 k/\(∀ j (hj:j < ns.length),j < k->hasN (l.map (·.1)) ns[j]=true)/\Below w.heap.size w wr) (fun i _=>ns.length - (intOf i).toNat)
  case atStart=>exact ⟨0,Nat.zero_le _,rfl,fun j _ hj=>by omega,br_ _ _⟩
  case round =>
   obtain ⟨k,hk,rfl,hok,hb⟩:=hrel
   have Hok:=a_ hok
   clear hok
   by_cases hlt:k < ns.length
   ·have hc:=(hb.cell (p:=⟨b,off+k,none⟩) h3).trans (H4.out k hlt)
    have hli:(k:Int) < (ns.length:Int):=by omega
    have Hno:=a_ (Hno.out k hlt)
    have Hnx:Hid (hasN (l.map (·.1)) ns[k]=true->∀ j (hj:j < ns.length),j < k+1->hasN (l.map (·.1)) ns[j]=true):=a_ (fun h j hj hjk=>by
     by_cases e:j=k
     ·subst e;exact h
     ·exact Hok.out j hj (by omega))
    generalize ns[k]=s at hc Hno Hnx
    have hb1:=hb.alloc hb.size (.cells #[.string s] 9)
    have k1:=Blk.new wr 9 [.string s]
    have HI2:=a_ (HI.out wr.heap.size s _ (Hr.out.below hb1 (nr_ _)) (k1.cell 0) k1.lt)
    have Hb:=a_ hb1
    clear hb hb1 k1
    cases hh:hasN (l.map (·.1)) s
    ·rw [hh] at HI2
     have Hf:=a_ (Hno.out hh)
     clear hh Hnx
     go_wp2_with fail
     refine HI2.out.mono ?_
     rintro e w2 ⟨rfl,hb2⟩
     have HB2:=a_ (Hb.out.trans (hb2.mono Hb.out.size))
     go_wp2
     go_ret
     exact ⟨b_ Hf.out.symm,HB2.out⟩
    ·rw [hh] at HI2
     have Hnx:=a_ (Hnx.out hh)
     clear hh
     go_wp2_with fail
     refine HI2.out.mono ?_
     rintro e w2 ⟨rfl,hb2⟩
     have HB2:=a_ (Hb.out.trans (hb2.mono Hb.out.size))
     clear hb2
     go_wp2
     go_roundw
     case rel=>exact ⟨k+1,by omega,by go_num,Hnx.out,HB2.out⟩
     case measure=>simp [intOf];omega
   ·have Hf:=a_ (Hyes.out (fun j hj=>Hok.out j hj (by omega)))
    have Hb:=a_ hb
    clear hb
    go_wp2
    go_ret
    exact ⟨b_ Hf.out.symm,Hb.out⟩
theorem aP_ (v vn:Value) (l:List Vl) (ns:List ByteArray) (w:World) (hr:RdV w v l) (hrn:RdS w vn ns) (hl:l.length<=4000000) (hln:ns.length<=4000000) (hs:∀ s ∈ ns,s.size<=maxLen) (hm:ModV l) :
  Calls Tryz.prog 180 #[v,vn] w fun e w'=>e=.returned (.bool (allV l ns && quoB l ns))/\Below w.heap.size w w':=by
 obtain ⟨al,cl,rfl⟩:=hr.shape
 obtain ⟨a,c,rfl⟩:=hrn.shape
 have HN:=a_ (aj_ (.slice a ns.length c) ns w hrn hln hs)
 have HQ:=a_ (bK_ (.slice al l.length cl) (.slice a ns.length c) l ns w hr hrn hl hln hm.1)
 have HA:=a_ (fun V (hb:Below w.heap.size w V)=>eF_ (.slice al l.length cl) (.slice a ns.length c) l ns V (hr.below hb (nr_ _)) (hrn.below hb (nr_ _)) hl hln)
 have HX:Hid ((allV l ns && quoB l ns)=(nmsB ns && (quoB l ns && ns.all (fun s=>hasN (l.map (·.1)) s)))):=a_ (by
  unfold allV
  cases ns.all (fun s=>hasN (l.map (·.1)) s) <;> cases nmsB ns <;> cases quoB l ns <;> rfl)
 have HU:Hid (decide (2 * totalV l < 3 * weightV l ns)=quoB l ns):=a_ rfl
 rw [HU.out] at HQ
 generalize (allV l ns && quoB l ns)=X at HX ⊢
 generalize nmsB ns=N0 at HX HN
 generalize quoB l ns=Q0 at HX HQ HU
 generalize ns.all (fun s=>hasN (l.map (·.1)) s)=A0 at HX HA
 clear hr hrn hs hm HU
 cases N0
 ·rw [Bool.false_and] at HX
  go_enter Tryz.func180,Tryz.ntmps180
  go_wp2_with (go_at_call 192;refine HN.out.mono ?_;rintro e w3 ⟨rfl,rfl⟩)
  go_ret
  exact ⟨b_ HX.out.symm,br_ _ _⟩
 ·rw [Bool.true_and] at HX
  cases Q0
  ·rw [Bool.false_and] at HX
   go_enter Tryz.func180,Tryz.ntmps180
   go_wp2_with (first
    | (go_at_call 192;refine HN.out.mono ?_;rintro e w3 ⟨rfl,rfl⟩)
    | (go_at_call 193;refine HQ.out.mono ?_;rintro e w4 ⟨rfl,hb4⟩))
   go_ret
   exact ⟨b_ HX.out.symm,hb4⟩
  ·rw [Bool.true_and] at HX
   go_enter Tryz.func180,Tryz.ntmps180
   go_wp2_with (first
    | (go_at_call 192;refine HN.out.mono ?_;rintro e w3 ⟨rfl,rfl⟩)
    | (go_at_call 193;refine HQ.out.mono ?_;rintro e w4 ⟨rfl,hb4⟩)
    | (go_at_call 194;refine (HA.out _ hb4).mono ?_;rintro e w5 ⟨rfl,hb5⟩))
   go_ret
   exact ⟨b_ HX.out.symm,hb4.trans (hb5.mono hb4.size)⟩
theorem fB_ (v vw:Value) (l:List Vl) (r b:Int) (ws:List ByteArray) (w:World) (hr:RdV w v l) (hrw:RdS w vw ws) (hl:l.length<=4000000) (hlw:ws.length<=4000000) (hs:∀ s ∈ ws,s.size<=maxLen) (hm:ModV l) :
  Calls Tryz.prog 163 #[v,qcV r b vw] w fun e w'=>e=.returned (.bool (qcB l r b ws))/\Below w.heap.size w w':=by
 obtain ⟨al,cl,rfl⟩:=hr.shape
 obtain ⟨a,c,rfl⟩:=hrw.shape
 obtain ⟨w1,hw1⟩:∃ w1,w.alloc (.cells #[.int .i64 r,.int .i64 b,.slice a ws.length c] 48)=w1:=⟨_,rfl⟩
 have hb1:Below w.heap.size w w1:=by rw [<- hw1];exact (br_ _ w).alloc (nr_ _) _
 have k1:Blk w1 w.heap.size 48 [.int .i64 r,.int .i64 b,.slice a ws.length c]:=by rw [<- hw1];exact Blk.new w _ _
 have HR:=a_ (ad_ r b _ ws w1 (hrw.below hb1 (nr_ _)) hlw)
 have HA:=a_ (fun V (hb:Below w.heap.size w V)=>aP_ (.slice al l.length cl) (.slice a ws.length c) l ws V (hr.below hb (nr_ _)) (hrw.below hb (nr_ _)) hl hlw hs hm)
 have HX:Hid (qcB l r b ws=(rootB r b ws || (inB r 1 10000 && (inB b 0 100000 && (allV l ws && quoB l ws))))):=a_ rfl
 generalize qcB l r b ws=X at HX ⊢
 generalize rootB r b ws=R0 at HX HR
 generalize (allV l ws && quoB l ws)=A0 at HX HA
 simp only [qcV] at *
 have x0:=k1.cell 0
 have x1:=k1.cell 1
 have x2:=k1.cell 2
 simp only [gz_,gs_] at x0 x1 x2
 clear hr hrw hs hm
 cases R0
 ·rw [Bool.false_or] at HX
  go_enter Tryz.func163,Tryz.ntmps163
  go_wp2_with fail
  refine HR.out.mono ?_
  rintro e w2 ⟨rfl,hb2⟩
  have k2:=k1.below hb2 k1.lt
  have hB2:=hb1.trans (hb2.mono hb1.size)
  have y0:=k2.cell 0
  have y1:=k2.cell 1
  have y2:=k2.cell 2
  simp only [gz_,gs_] at y0 y1 y2
  clear x0 x1 x2 k1 hb2 hw1
  cases h1:inB r 1 10000
  ·rw [h1,Bool.false_and] at HX
   go_wp2_with (go_at_call 162;refine (f_ _ _ _ _).mono ?_;rintro e w3 ⟨rfl,rfl⟩)
   go_ret
   exact ⟨b_ HX.out.symm,hB2⟩
  ·rw [h1,Bool.true_and] at HX
   cases h2:inB b 0 100000
   ·rw [h2,Bool.false_and] at HX
    go_wp2_with (go_at_call 162;refine (f_ _ _ _ _).mono ?_;rintro e w3 ⟨rfl,rfl⟩)
    go_ret
    exact ⟨b_ HX.out.symm,hB2⟩
   ·rw [h2,Bool.true_and] at HX
    have HA2:=a_ (HA.out _ hB2)
    go_wp2_with (first
     | (go_at_call 162;refine (f_ _ _ _ _).mono ?_;rintro e w3 ⟨rfl,rfl⟩)
     | (go_at_call 180;refine HA2.out.mono ?_;rintro e w4 ⟨rfl,hb4⟩))
    go_ret
    exact ⟨b_ HX.out.symm,hB2.trans (hb4.mono hB2.size)⟩
 ·rw [Bool.true_or] at HX
  go_enter Tryz.func163,Tryz.ntmps163
  go_wp2_with fail
  refine HR.out.mono ?_
  rintro e w2 ⟨rfl,hb2⟩
  have hB2:=hb1.trans (hb2.mono hb1.size)
  clear x0 x1 x2 k1 hb2
  go_wp2
  go_ret
  exact ⟨b_ HX.out.symm,hB2⟩
end Go.Proofs.YtamljhcmiphdgaaGreatDoor
