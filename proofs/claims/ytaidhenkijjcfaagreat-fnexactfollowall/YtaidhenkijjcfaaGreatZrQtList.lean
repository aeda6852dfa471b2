/- A plain region whose operations only read, walked by the cheap step of 'go_quiet'. -/
import Derived.Test.YtaidhenkijjcfaaGreatZrBkHeld
set_option maxRecDepth 20000
set_option maxHeartbeats 8000000
namespace Go.Proofs.YtaidhenkijjcfaaGreat
open Go.RowKit Go.Sort
set_option linter.unusedVariables false
def nlNd (K:Nat) (p:Nd):Nat:=nxG nxPf (nxs (K) p.la+2 * p.st.length+totM p.tt+p.hw.length+p.tw.length+p.th.length+3 * p.vo.length+3 * p.go.length+p.dn.length+5 * p.pl.length) p.ps
def mlNd (K:Nat) (p:Nd):Nd:=⟨p.nm,p.ep,p.be,mkAs (K) p.la,mkV (nxs (K) p.la) p.st.length,mkLk (nxs (K) p.la+2 * p.st.length) p.tt,p.rd,p.vd,p.hr,p.hb,mkS (nxs (K) p.la+2 * p.st.length+totM p.tt) p.hw.length,p.tr,mkS (nxs (K) p.la+2 * p.st.length+totM p.tt+p.hw.length) p.tw.length,mkI (nxs (K) p.la+2 * p.st.length+totM p.tt+p.hw.length+p.tw.length) p.th.length,p.ld,mkR (nxs (K) p.la+2 * p.st.length+totM p.tt+p.hw.length+p.tw.length+p.th.length) p.vo.length,mkR (nxs (K) p.la+2 * p.st.length+totM p.tt+p.hw.length+p.tw.length+p.th.length+3 * p.vo.length) p.go.length,mkI (nxs (K) p.la+2 * p.st.length+totM p.tt+p.hw.length+p.tw.length+p.th.length+3 * p.vo.length+3 * p.go.length) p.dn.length,mkT (nxs (K) p.la+2 * p.st.length+totM p.tt+p.hw.length+p.tw.length+p.th.length+3 * p.vo.length+3 * p.go.length+p.dn.length) p.pl.length,mkG mkPf nxPf (nxs (K) p.la+2 * p.st.length+totM p.tt+p.hw.length+p.tw.length+p.th.length+3 * p.vo.length+3 * p.go.length+p.dn.length+5 * p.pl.length) p.ps⟩
theorem Blk.othM {S:Nat->Prop} {W V:World} {B:Nat} {t:TypeId} {cs:List Value} (h:Blk W B t cs) (hO:Oth S W V) (hn:¬ S B):Blk V B t cs:=(hO.block B h.lt hn).trans h
theorem markNode_own (p:Nd) (u:Nv) (K lo hi:Nat) (w:World) (ho:OwnNd lo hi w p u) (hw:hi<=w.heap.size) (hf:FewNd p) (hle:nlNd K p<=40000000) (hK0:0 < K) :
    Calls Tryz.prog 22 #[noV p u,.int .i64 (K:Int)] w (Mkd (nlNd K p) lo hi (fun w'=>OwnNd lo hi w' (mlNd K p) u) w):=by
  have hna:=hf.na
  have hfa:=hf.fa
  have hns:=hf.ns
  have hnt:=hf.nt
  have hft:=hf.ft
  have hnw:=hf.nw
  have hnx:=hf.nx
  have hnh:=hf.nh
  have hnv:=hf.nv
  have hng:=hf.ng
  have hnd:=hf.nd
  have hnp:=hf.np
  have hnq:=hf.nq
  have hfq:=hf.fq
  have HE:=hide (show nlNd K p=nlNd K p from rfl)
  obtain ⟨m0,m1,m2,m3,m4,m5,m6,m7,m8,m9,m10,b0,b1,b2,b3,b4,b5,b6,b7,b8,b9,b10,b11,xa,xs,xt,xw,xx,xh,xv,xg,xd,xp,xq⟩:=ho.ex
  obtain ⟨nm,ep,be,la,st,tt,rd,vd,hr,hb,hw,tr,tw,th,ld,vo,go,dn,pl,ps⟩:=p
  obtain ⟨ya,ys,yt,yw,yx,yh,yv,yg,yd,yp,yq⟩:=u
  clear ho hf HE
  simp only at *
  obtain ⟨ada,cpa,rfl⟩:=xa.rd.shape
  obtain ⟨ads,cps,rfl⟩:=xs.rd.shape
  obtain ⟨adt,cpt,rfl⟩:=xt.rd.shape
  obtain ⟨adw,cpw,rfl⟩:=xw.rd.shape
  obtain ⟨adx,cpx,rfl⟩:=xx.rd.shape
  obtain ⟨adh,cph,rfl⟩:=xh.rd.shape
  obtain ⟨adv,cpv,rfl⟩:=xv.rd.shape
  obtain ⟨adg,cpg,rfl⟩:=xg.rd.shape
  obtain ⟨add,cpd,rfl⟩:=xd.rd.shape
  obtain ⟨adp,cpp,rfl⟩:=xp.rd.shape
  obtain ⟨adq,cpq,rfl⟩:=xq.rd.shape
  have HT:=hide (show nlNd K ⟨nm,ep,be,la,st,tt,rd,vd,hr,hb,hw,tr,tw,th,ld,vo,go,dn,pl,ps⟩=nxG nxPf (nxs (K) la+2 * st.length+totM tt+hw.length+tw.length+th.length+3 * vo.length+3 * go.length+dn.length+5 * pl.length) ps from rfl)
  rw [HT.out] at hle ⊢
  have HD:=hide (show mlNd K ⟨nm,ep,be,la,st,tt,rd,vd,hr,hb,hw,tr,tw,th,ld,vo,go,dn,pl,ps⟩=⟨nm,ep,be,mkAs (K) la,mkV (nxs (K) la) st.length,mkLk (nxs (K) la+2 * st.length) tt,rd,vd,hr,hb,mkS (nxs (K) la+2 * st.length+totM tt) hw.length,tr,mkS (nxs (K) la+2 * st.length+totM tt+hw.length) tw.length,mkI (nxs (K) la+2 * st.length+totM tt+hw.length+tw.length) th.length,ld,mkR (nxs (K) la+2 * st.length+totM tt+hw.length+tw.length+th.length) vo.length,mkR (nxs (K) la+2 * st.length+totM tt+hw.length+tw.length+th.length+3 * vo.length) go.length,mkI (nxs (K) la+2 * st.length+totM tt+hw.length+tw.length+th.length+3 * vo.length+3 * go.length) dn.length,mkT (nxs (K) la+2 * st.length+totM tt+hw.length+tw.length+th.length+3 * vo.length+3 * go.length+dn.length) pl.length,mkG mkPf nxPf (nxs (K) la+2 * st.length+totM tt+hw.length+tw.length+th.length+3 * vo.length+3 * go.length+dn.length+5 * pl.length) ps⟩ from rfl)
  rw [HD.out]
  clear HD HT
  obtain ⟨w0,hw0⟩:∃ x,w.alloc (.cells #[.string nm,.int .i64 ep,.int .i64 be,.slice ada la.length cpa,.slice ads st.length cps,.slice adt tt.length cpt,.int .i64 rd,.int .i64 vd,.int .i64 hr,.int .i64 hb,.slice adw hw.length cpw,.int .i64 tr,.slice adx tw.length cpx,.slice adh th.length cph,.int .i64 ld,.slice adv vo.length cpv,.slice adg go.length cpg,.slice add dn.length cpd,.slice adp pl.length cpp,.slice adq ps.length cpq] 73)=x:=⟨_,rfl⟩
  have b0:Below w.heap.size w w0:=by rw [<- hw0];exact (Below.refl _ w).alloc (Nat.le_refl _) _
  have K0:=hide (show Blk w0 w.heap.size 73 [.string nm,.int .i64 ep,.int .i64 be,.slice ada la.length cpa,.slice ads st.length cps,.slice adt tt.length cpt,.int .i64 rd,.int .i64 vd,.int .i64 hr,.int .i64 hb,.slice adw hw.length cpw,.int .i64 tr,.slice adx tw.length cpx,.slice adh th.length cph,.int .i64 ld,.slice adv vo.length cpv,.slice adg go.length cpg,.slice add dn.length cpd,.slice adp pl.length cpp,.slice adq ps.length cpq] from by rw [<- hw0];exact Blk.new w _ _)
  have Xa:=hide (xa.kept (Kept.of_below b0 (Nat.le_refl _)))
  clear xa
  have Xs:=hide (xs.kept (Kept.of_below b0 (Nat.le_refl _)))
  clear xs
  have Xt:=hide (xt.kept (Kept.of_below b0 (Nat.le_refl _)))
  clear xt
  have Xw:=hide (xw.kept (Kept.of_below b0 (Nat.le_refl _)))
  clear xw
  have Xx:=hide (xx.kept (Kept.of_below b0 (Nat.le_refl _)))
  clear xx
  have Xh:=hide (xh.kept (Kept.of_below b0 (Nat.le_refl _)))
  clear xh
  have Xv:=hide (xv.kept (Kept.of_below b0 (Nat.le_refl _)))
  clear xv
  have Xg:=hide (xg.kept (Kept.of_below b0 (Nat.le_refl _)))
  clear xg
  have Xd:=hide (xd.kept (Kept.of_below b0 (Nat.le_refl _)))
  clear xd
  have Xp:=hide (xp.kept (Kept.of_below b0 (Nat.le_refl _)))
  clear xp
  have Xq:=hide (xq.kept (Kept.of_below b0 (Nat.le_refl _)))
  clear xq
  have HO:=hide (Oth.of_below (S:=fun x=>lo<=x/\x < hi) b0)
  clear b0
  simp only [noV] at *
  go_enter Tryz.func22,Tryz.ntmps22
  have kk:=K0.out
  have c2:=kk.cell 2
  have c3:=kk.cell 3
  simp only [List.getElem?_cons_zero,List.getElem?_cons_succ] at c2 c3
  clear kk
  have hq0:nxs (K) la<=40000000:=by have:=nxG_ge nxPf_ge (nxs (K) la+2 * st.length+totM tt+hw.length+tw.length+th.length+3 * vo.length+3 * go.length+dn.length+5 * pl.length) ps;omega
  have HA:=hide (mkuLedger be (.slice ada la.length cpa) la (K) m0 m1 _ Xa.out hna hfa (by omega) (by omega))
  simp only [lgV] at HA
  go_wp2_with fail
  (try rw [hw0])
  clear hw0
  refine HA.out.mono ?_
  rintro e w1 ⟨rfl,hx,hoth⟩
  have HOn:=hide (HO.out.trans (hoth.mono (fun x hx=>⟨by omega,by omega⟩)))
  clear HO
  have HO:=HOn
  clear HOn
  have Kn:=hide (K0.out.othM hoth (by omega))
  clear K0
  have K0:=Kn
  clear Kn
  have Xs:=hide (Xs.out.kept (Kept.of_oth hoth (fun k h1 h2=>by omega)))
  have Xt:=hide (Xt.out.kept (Kept.of_oth hoth (fun k h1 h2=>by omega)))
  have Xw:=hide (Xw.out.kept (Kept.of_oth hoth (fun k h1 h2=>by omega)))
  have Xx:=hide (Xx.out.kept (Kept.of_oth hoth (fun k h1 h2=>by omega)))
  have Xh:=hide (Xh.out.kept (Kept.of_oth hoth (fun k h1 h2=>by omega)))
  have Xv:=hide (Xv.out.kept (Kept.of_oth hoth (fun k h1 h2=>by omega)))
  have Xg:=hide (Xg.out.kept (Kept.of_oth hoth (fun k h1 h2=>by omega)))
  have Xd:=hide (Xd.out.kept (Kept.of_oth hoth (fun k h1 h2=>by omega)))
  have Xp:=hide (Xp.out.kept (Kept.of_oth hoth (fun k h1 h2=>by omega)))
  have Xq:=hide (Xq.out.kept (Kept.of_oth hoth (fun k h1 h2=>by omega)))
  have Xn:=hide hx
  clear Xa
  have Xa:=Xn
  clear Xn
  obtain ⟨Q1,hQ1⟩:∃ x:Nat,nxs (K) la=x:=⟨_,rfl⟩
  have HQ1:=hide hQ1
  rw [hQ1] at hle ⊢
  have hp1:0 < Q1:=by have:=nxs_ge K la;omega
  rw [hQ1] at hq0
  clear hx hoth HA hQ1 c2 c3
  have kk:=K0.out
  have c4:=kk.cell 4
  simp only [List.getElem?_cons_zero,List.getElem?_cons_succ] at c4
  clear kk
  have hq1:Q1+2 * st.length<=40000000:=by have:=nxG_ge nxPf_ge (Q1+2 * st.length+totM tt+hw.length+tw.length+th.length+3 * vo.length+3 * go.length+dn.length+5 * pl.length) ps;omega
  have HA:=hide (mkuVal (.slice ads st.length cps) st (Q1) m1 m2 _ Xs.out hns (by omega) (by omega))
  go_wp2_with fail
  refine HA.out.mono ?_
  rintro e w2 ⟨rfl,hx,hoth⟩
  have HOn:=hide (HO.out.trans (hoth.mono (fun x hx=>⟨by omega,by omega⟩)))
  clear HO
  have HO:=HOn
  clear HOn
  have Kn:=hide (K0.out.othM hoth (by omega))
  clear K0
  have K0:=Kn
  clear Kn
  have Xa:=hide (Xa.out.kept (Kept.of_oth hoth (fun k h1 h2=>by omega)))
  have Xt:=hide (Xt.out.kept (Kept.of_oth hoth (fun k h1 h2=>by omega)))
  have Xw:=hide (Xw.out.kept (Kept.of_oth hoth (fun k h1 h2=>by omega)))
  have Xx:=hide (Xx.out.kept (Kept.of_oth hoth (fun k h1 h2=>by omega)))
  have Xh:=hide (Xh.out.kept (Kept.of_oth hoth (fun k h1 h2=>by omega)))
  have Xv:=hide (Xv.out.kept (Kept.of_oth hoth (fun k h1 h2=>by omega)))
  have Xg:=hide (Xg.out.kept (Kept.of_oth hoth (fun k h1 h2=>by omega)))
  have Xd:=hide (Xd.out.kept (Kept.of_oth hoth (fun k h1 h2=>by omega)))
  have Xp:=hide (Xp.out.kept (Kept.of_oth hoth (fun k h1 h2=>by omega)))
  have Xq:=hide (Xq.out.kept (Kept.of_oth hoth (fun k h1 h2=>by omega)))
  have Xn:=hide hx
  clear Xs
  have Xs:=Xn
  clear Xn
  obtain ⟨Q2,hQ2⟩:∃ x:Nat,Q1+2 * st.length=x:=⟨_,rfl⟩
  have HQ2:=hide hQ2
  rw [hQ2] at hle ⊢
  have hp2:0 < Q2:=by omega
  rw [hQ2] at hq1
  clear hx hoth HA hQ2 c4
  have kk:=K0.out
  have c5:=kk.cell 5
  simp only [List.getElem?_cons_zero,List.getElem?_cons_succ] at c5
  clear kk
  have hq2:Q2+totM tt<=40000000:=by have:=nxG_ge nxPf_ge (Q2+totM tt+hw.length+tw.length+th.length+3 * vo.length+3 * go.length+dn.length+5 * pl.length) ps;omega
  have HA:=hide (mkuBlock (.slice adt tt.length cpt) tt (Q2) m2 m3 _ Xt.out hnt hft (by omega) (by omega))
  go_wp2_with fail
  refine HA.out.mono ?_
  rintro e w3 ⟨rfl,hx,hoth⟩
  have HOn:=hide (HO.out.trans (hoth.mono (fun x hx=>⟨by omega,by omega⟩)))
  clear HO
  have HO:=HOn
  clear HOn
  have Kn:=hide (K0.out.othM hoth (by omega))
  clear K0
  have K0:=Kn
  clear Kn
  have Xa:=hide (Xa.out.kept (Kept.of_oth hoth (fun k h1 h2=>by omega)))
  have Xs:=hide (Xs.out.kept (Kept.of_oth hoth (fun k h1 h2=>by omega)))
  have Xw:=hide (Xw.out.kept (Kept.of_oth hoth (fun k h1 h2=>by omega)))
  have Xx:=hide (Xx.out.kept (Kept.of_oth hoth (fun k h1 h2=>by omega)))
  have Xh:=hide (Xh.out.kept (Kept.of_oth hoth (fun k h1 h2=>by omega)))
  have Xv:=hide (Xv.out.kept (Kept.of_oth hoth (fun k h1 h2=>by omega)))
  have Xg:=hide (Xg.out.kept (Kept.of_oth hoth (fun k h1 h2=>by omega)))
  have Xd:=hide (Xd.out.kept (Kept.of_oth hoth (fun k h1 h2=>by omega)))
  have Xp:=hide (Xp.out.kept (Kept.of_oth hoth (fun k h1 h2=>by omega)))
  have Xq:=hide (Xq.out.kept (Kept.of_oth hoth (fun k h1 h2=>by omega)))
  have Xn:=hide hx
  clear Xt
  have Xt:=Xn
  clear Xn
  obtain ⟨Q3,hQ3⟩:∃ x:Nat,Q2+totM tt=x:=⟨_,rfl⟩
  have HQ3:=hide hQ3
  rw [hQ3] at hle ⊢
  have hp3:0 < Q3:=by omega
  rw [hQ3] at hq2
  clear hx hoth HA hQ3 c5
  have kk:=K0.out
  have c8:=kk.cell 8
  have c9:=kk.cell 9
  have c10:=kk.cell 10
  simp only [List.getElem?_cons_zero,List.getElem?_cons_succ] at c8 c9 c10
  clear kk
  have hq3:Q3+hw.length<=40000000:=by have:=nxG_ge nxPf_ge (Q3+hw.length+tw.length+th.length+3 * vo.length+3 * go.length+dn.length+5 * pl.length) ps;omega
  have HA:=hide (mkuQc hr hb (.slice adw hw.length cpw) hw (Q3) m3 m4 _ Xw.out hnw (by omega) (by omega))
  simp only [qcV] at HA
  go_wp2_with fail
  refine HA.out.mono ?_
  rintro e w4 ⟨rfl,hx,hoth⟩
  have HOn:=hide (HO.out.trans (hoth.mono (fun x hx=>⟨by omega,by omega⟩)))
  clear HO
  have HO:=HOn
  clear HOn
  have Kn:=hide (K0.out.othM hoth (by omega))
  clear K0
  have K0:=Kn
  clear Kn
  have Xa:=hide (Xa.out.kept (Kept.of_oth hoth (fun k h1 h2=>by omega)))
  have Xs:=hide (Xs.out.kept (Kept.of_oth hoth (fun k h1 h2=>by omega)))
  have Xt:=hide (Xt.out.kept (Kept.of_oth hoth (fun k h1 h2=>by omega)))
  have Xx:=hide (Xx.out.kept (Kept.of_oth hoth (fun k h1 h2=>by omega)))
  have Xh:=hide (Xh.out.kept (Kept.of_oth hoth (fun k h1 h2=>by omega)))
  have Xv:=hide (Xv.out.kept (Kept.of_oth hoth (fun k h1 h2=>by omega)))
  have Xg:=hide (Xg.out.kept (Kept.of_oth hoth (fun k h1 h2=>by omega)))
  have Xd:=hide (Xd.out.kept (Kept.of_oth hoth (fun k h1 h2=>by omega)))
  have Xp:=hide (Xp.out.kept (Kept.of_oth hoth (fun k h1 h2=>by omega)))
  have Xq:=hide (Xq.out.kept (Kept.of_oth hoth (fun k h1 h2=>by omega)))
  have Xn:=hide hx
  clear Xw
  have Xw:=Xn
  clear Xn
  obtain ⟨Q4,hQ4⟩:∃ x:Nat,Q3+hw.length=x:=⟨_,rfl⟩
  have HQ4:=hide hQ4
  rw [hQ4] at hle ⊢
  have hp4:0 < Q4:=by omega
  rw [hQ4] at hq3
  clear hx hoth HA hQ4 c8 c9 c10
  have kk:=K0.out
  have c11:=kk.cell 11
  have c12:=kk.cell 12
  have c13:=kk.cell 13
  simp only [List.getElem?_cons_zero,List.getElem?_cons_succ] at c11 c12 c13
  clear kk
  have hq4:Q4+tw.length+th.length<=40000000:=by have:=nxG_ge nxPf_ge (Q4+tw.length+th.length+3 * vo.length+3 * go.length+dn.length+5 * pl.length) ps;omega
  have HA:=hide (mkuTc tr (.slice adx tw.length cpx) (.slice adh th.length cph) tw th (Q4) m4 m5 _ Xx.out Xh.out hnx hnh (by omega) (by omega))
  simp only [tcV] at HA
  go_wp2_with fail
  refine HA.out.mono ?_
  rintro e w5 ⟨rfl,hx,hoth⟩
  have HOn:=hide (HO.out.trans (hoth.mono (fun x hx=>⟨by omega,by omega⟩)))
  clear HO
  have HO:=HOn
  clear HOn
  have Kn:=hide (K0.out.othM hoth (by omega))
  clear K0
  have K0:=Kn
  clear Kn
  have Xa:=hide (Xa.out.kept (Kept.of_oth hoth (fun k h1 h2=>by omega)))
  have Xs:=hide (Xs.out.kept (Kept.of_oth hoth (fun k h1 h2=>by omega)))
  have Xt:=hide (Xt.out.kept (Kept.of_oth hoth (fun k h1 h2=>by omega)))
  have Xw:=hide (Xw.out.kept (Kept.of_oth hoth (fun k h1 h2=>by omega)))
  have Xv:=hide (Xv.out.kept (Kept.of_oth hoth (fun k h1 h2=>by omega)))
  have Xg:=hide (Xg.out.kept (Kept.of_oth hoth (fun k h1 h2=>by omega)))
  have Xd:=hide (Xd.out.kept (Kept.of_oth hoth (fun k h1 h2=>by omega)))
  have Xp:=hide (Xp.out.kept (Kept.of_oth hoth (fun k h1 h2=>by omega)))
  have Xq:=hide (Xq.out.kept (Kept.of_oth hoth (fun k h1 h2=>by omega)))
  have Xn1:=hide hx.1
  have Xn2:=hide hx.2
  clear Xx Xh
  have Xx:=Xn1
  have Xh:=Xn2
  clear Xn1 Xn2
  obtain ⟨Q5,hQ5⟩:∃ x:Nat,Q4+tw.length+th.length=x:=⟨_,rfl⟩
  have HQ5:=hide hQ5
  rw [hQ5] at hle ⊢
  have hp5:0 < Q5:=by omega
  rw [hQ5] at hq4
  clear hx hoth HA hQ5 c11 c12 c13
  have kk:=K0.out
  have c15:=kk.cell 15
  simp only [List.getElem?_cons_zero,List.getElem?_cons_succ] at c15
  clear kk
  have hq5:Q5+3 * vo.length<=40000000:=by have:=nxG_ge nxPf_ge (Q5+3 * vo.length+3 * go.length+dn.length+5 * pl.length) ps;omega
  have HA:=hide (mkuVote (.slice adv vo.length cpv) vo (Q5) m5 m6 _ Xv.out hnv (by omega) (by omega))
  go_wp2_with fail
  refine HA.out.mono ?_
  rintro e w6 ⟨rfl,hx,hoth⟩
  have HOn:=hide (HO.out.trans (hoth.mono (fun x hx=>⟨by omega,by omega⟩)))
  clear HO
  have HO:=HOn
  clear HOn
  have Kn:=hide (K0.out.othM hoth (by omega))
  clear K0
  have K0:=Kn
  clear Kn
  have Xa:=hide (Xa.out.kept (Kept.of_oth hoth (fun k h1 h2=>by omega)))
  have Xs:=hide (Xs.out.kept (Kept.of_oth hoth (fun k h1 h2=>by omega)))
  have Xt:=hide (Xt.out.kept (Kept.of_oth hoth (fun k h1 h2=>by omega)))
  have Xw:=hide (Xw.out.kept (Kept.of_oth hoth (fun k h1 h2=>by omega)))
  have Xx:=hide (Xx.out.kept (Kept.of_oth hoth (fun k h1 h2=>by omega)))
  have Xh:=hide (Xh.out.kept (Kept.of_oth hoth (fun k h1 h2=>by omega)))
  have Xg:=hide (Xg.out.kept (Kept.of_oth hoth (fun k h1 h2=>by omega)))
  have Xd:=hide (Xd.out.kept (Kept.of_oth hoth (fun k h1 h2=>by omega)))
  have Xp:=hide (Xp.out.kept (Kept.of_oth hoth (fun k h1 h2=>by omega)))
  have Xq:=hide (Xq.out.kept (Kept.of_oth hoth (fun k h1 h2=>by omega)))
  have Xn:=hide hx
  clear Xv
  have Xv:=Xn
  clear Xn
  obtain ⟨Q6,hQ6⟩:∃ x:Nat,Q5+3 * vo.length=x:=⟨_,rfl⟩
  have HQ6:=hide hQ6
  rw [hQ6] at hle ⊢
  have hp6:0 < Q6:=by omega
  rw [hQ6] at hq5
  clear hx hoth HA hQ6 c15
  have kk:=K0.out
  have c16:=kk.cell 16
  simp only [List.getElem?_cons_zero,List.getElem?_cons_succ] at c16
  clear kk
  have hq6:Q6+3 * go.length<=40000000:=by have:=nxG_ge nxPf_ge (Q6+3 * go.length+dn.length+5 * pl.length) ps;omega
  have HA:=hide (mkuGone (.slice adg go.length cpg) go (Q6) m6 m7 _ Xg.out hng (by omega) (by omega))
  go_wp2_with fail
  refine HA.out.mono ?_
  rintro e w7 ⟨rfl,hx,hoth⟩
  have HOn:=hide (HO.out.trans (hoth.mono (fun x hx=>⟨by omega,by omega⟩)))
  clear HO
  have HO:=HOn
  clear HOn
  have Kn:=hide (K0.out.othM hoth (by omega))
  clear K0
  have K0:=Kn
  clear Kn
  have Xa:=hide (Xa.out.kept (Kept.of_oth hoth (fun k h1 h2=>by omega)))
  have Xs:=hide (Xs.out.kept (Kept.of_oth hoth (fun k h1 h2=>by omega)))
  have Xt:=hide (Xt.out.kept (Kept.of_oth hoth (fun k h1 h2=>by omega)))
  have Xw:=hide (Xw.out.kept (Kept.of_oth hoth (fun k h1 h2=>by omega)))
  have Xx:=hide (Xx.out.kept (Kept.of_oth hoth (fun k h1 h2=>by omega)))
  have Xh:=hide (Xh.out.kept (Kept.of_oth hoth (fun k h1 h2=>by omega)))
  have Xv:=hide (Xv.out.kept (Kept.of_oth hoth (fun k h1 h2=>by omega)))
  have Xd:=hide (Xd.out.kept (Kept.of_oth hoth (fun k h1 h2=>by omega)))
  have Xp:=hide (Xp.out.kept (Kept.of_oth hoth (fun k h1 h2=>by omega)))
  have Xq:=hide (Xq.out.kept (Kept.of_oth hoth (fun k h1 h2=>by omega)))
  have Xn:=hide hx
  clear Xg
  have Xg:=Xn
  clear Xn
  obtain ⟨Q7,hQ7⟩:∃ x:Nat,Q6+3 * go.length=x:=⟨_,rfl⟩
  have HQ7:=hide hQ7
  rw [hQ7] at hle ⊢
  have hp7:0 < Q7:=by omega
  rw [hQ7] at hq6
  clear hx hoth HA hQ7 c16
  have kk:=K0.out
  have c17:=kk.cell 17
  simp only [List.getElem?_cons_zero,List.getElem?_cons_succ] at c17
  clear kk
  have hq7:Q7+dn.length<=40000000:=by have:=nxG_ge nxPf_ge (Q7+dn.length+5 * pl.length) ps;omega
  have HA:=hide (mkuInt (.slice add dn.length cpd) dn (Q7) m7 m8 _ Xd.out hnd (by omega) (by omega))
  go_wp2_with fail
  refine HA.out.mono ?_
  rintro e w8 ⟨rfl,hx,hoth⟩
  have HOn:=hide (HO.out.trans (hoth.mono (fun x hx=>⟨by omega,by omega⟩)))
  clear HO
  have HO:=HOn
  clear HOn
  have Kn:=hide (K0.out.othM hoth (by omega))
  clear K0
  have K0:=Kn
  clear Kn
  have Xa:=hide (Xa.out.kept (Kept.of_oth hoth (fun k h1 h2=>by omega)))
  have Xs:=hide (Xs.out.kept (Kept.of_oth hoth (fun k h1 h2=>by omega)))
  have Xt:=hide (Xt.out.kept (Kept.of_oth hoth (fun k h1 h2=>by omega)))
  have Xw:=hide (Xw.out.kept (Kept.of_oth hoth (fun k h1 h2=>by omega)))
  have Xx:=hide (Xx.out.kept (Kept.of_oth hoth (fun k h1 h2=>by omega)))
  have Xh:=hide (Xh.out.kept (Kept.of_oth hoth (fun k h1 h2=>by omega)))
  have Xv:=hide (Xv.out.kept (Kept.of_oth hoth (fun k h1 h2=>by omega)))
  have Xg:=hide (Xg.out.kept (Kept.of_oth hoth (fun k h1 h2=>by omega)))
  have Xp:=hide (Xp.out.kept (Kept.of_oth hoth (fun k h1 h2=>by omega)))
  have Xq:=hide (Xq.out.kept (Kept.of_oth hoth (fun k h1 h2=>by omega)))
  have Xn:=hide hx
  clear Xd
  have Xd:=Xn
  clear Xn
  obtain ⟨Q8,hQ8⟩:∃ x:Nat,Q7+dn.length=x:=⟨_,rfl⟩
  have HQ8:=hide hQ8
  rw [hQ8] at hle ⊢
  have hp8:0 < Q8:=by omega
  rw [hQ8] at hq7
  clear hx hoth HA hQ8 c17
  have kk:=K0.out
  have c18:=kk.cell 18
  simp only [List.getElem?_cons_zero,List.getElem?_cons_succ] at c18
  clear kk
  have hq8:Q8+5 * pl.length<=40000000:=by have:=nxG_ge nxPf_ge (Q8+5 * pl.length) ps;omega
  have HA:=hide (mkuTx (.slice adp pl.length cpp) pl (Q8) m8 m9 _ Xp.out hnp (by omega) (by omega))
  go_wp2_with fail
  refine HA.out.mono ?_
  rintro e w9 ⟨rfl,hx,hoth⟩
  have HOn:=hide (HO.out.trans (hoth.mono (fun x hx=>⟨by omega,by omega⟩)))
  clear HO
  have HO:=HOn
  clear HOn
  have Kn:=hide (K0.out.othM hoth (by omega))
  clear K0
  have K0:=Kn
  clear Kn
  have Xa:=hide (Xa.out.kept (Kept.of_oth hoth (fun k h1 h2=>by omega)))
  have Xs:=hide (Xs.out.kept (Kept.of_oth hoth (fun k h1 h2=>by omega)))
  have Xt:=hide (Xt.out.kept (Kept.of_oth hoth (fun k h1 h2=>by omega)))
  have Xw:=hide (Xw.out.kept (Kept.of_oth hoth (fun k h1 h2=>by omega)))
  have Xx:=hide (Xx.out.kept (Kept.of_oth hoth (fun k h1 h2=>by omega)))
  have Xh:=hide (Xh.out.kept (Kept.of_oth hoth (fun k h1 h2=>by omega)))
  have Xv:=hide (Xv.out.kept (Kept.of_oth hoth (fun k h1 h2=>by omega)))
  have Xg:=hide (Xg.out.kept (Kept.of_oth hoth (fun k h1 h2=>by omega)))
  have Xd:=hide (Xd.out.kept (Kept.of_oth hoth (fun k h1 h2=>by omega)))
  have Xq:=hide (Xq.out.kept (Kept.of_oth hoth (fun k h1 h2=>by omega)))
  have Xn:=hide hx
  clear Xp
  have Xp:=Xn
  clear Xn
  obtain ⟨Q9,hQ9⟩:∃ x:Nat,Q8+5 * pl.length=x:=⟨_,rfl⟩
  have HQ9:=hide hQ9
  rw [hQ9] at hle ⊢
  have hp9:0 < Q9:=by omega
  rw [hQ9] at hq8
  clear hx hoth HA hQ9 c18
  have kk:=K0.out
  have c19:=kk.cell 19
  simp only [List.getElem?_cons_zero,List.getElem?_cons_succ] at c19
  clear kk
  have hq9:nxG nxPf (Q9) ps<=40000000:=by omega
  have HA:=hide (mkuProof (.slice adq ps.length cpq) ps (Q9) m9 m10 _ Xq.out hnq hfq (by omega) (by omega))
  go_wp2_with fail
  refine HA.out.mono ?_
  rintro e w10 ⟨rfl,hx,hoth⟩
  have HOn:=hide (HO.out.trans (hoth.mono (fun x hx=>⟨by omega,by omega⟩)))
  clear HO
  have HO:=HOn
  clear HOn
  have Kn:=hide (K0.out.othM hoth (by omega))
  clear K0
  have K0:=Kn
  clear Kn
  have Xa:=hide (Xa.out.kept (Kept.of_oth hoth (fun k h1 h2=>by omega)))
  have Xs:=hide (Xs.out.kept (Kept.of_oth hoth (fun k h1 h2=>by omega)))
  have Xt:=hide (Xt.out.kept (Kept.of_oth hoth (fun k h1 h2=>by omega)))
  have Xw:=hide (Xw.out.kept (Kept.of_oth hoth (fun k h1 h2=>by omega)))
  have Xx:=hide (Xx.out.kept (Kept.of_oth hoth (fun k h1 h2=>by omega)))
  have Xh:=hide (Xh.out.kept (Kept.of_oth hoth (fun k h1 h2=>by omega)))
  have Xv:=hide (Xv.out.kept (Kept.of_oth hoth (fun k h1 h2=>by omega)))
  have Xg:=hide (Xg.out.kept (Kept.of_oth hoth (fun k h1 h2=>by omega)))
  have Xd:=hide (Xd.out.kept (Kept.of_oth hoth (fun k h1 h2=>by omega)))
  have Xp:=hide (Xp.out.kept (Kept.of_oth hoth (fun k h1 h2=>by omega)))
  have Xn:=hide hx
  clear Xq
  have Xq:=Xn
  clear Xn
  obtain ⟨Q10,hQ10⟩:∃ x:Nat,nxG nxPf (Q9) ps=x:=⟨_,rfl⟩
  have HQ10:=hide hQ10
  rw [hQ10] at hle ⊢
  have hp10:0 < Q10:=by have:=nxG_ge nxPf_ge Q9 ps;omega
  rw [hQ10] at hq9
  clear hx hoth HA hQ10 c19
  go_wp2
  go_ret
  unfold Mkd
  simp only [HQ1.out,HQ2.out,HQ3.out,HQ4.out,HQ5.out,HQ6.out,HQ7.out,HQ8.out,HQ9.out,HQ10.out]
  exact ⟨rfl,⟨m0,m1,m2,m3,m4,m5,m6,m7,m8,m9,m10,b0,b1,b2,b3,b4,b5,b6,b7,b8,b9,b10,b11,Xa.out,Xs.out,Xt.out,Xw.out,Xx.out,Xh.out,Xv.out,Xg.out,Xd.out,Xp.out,Xq.out⟩,HO.out⟩
end Go.Proofs.YtaidhenkijjcfaaGreat
namespace Go.Proofs.YtaidhenkijjcfaaGreat
open Go.RowKit Go.Sort
set_option linter.unusedVariables false
end Go.Proofs.YtaidhenkijjcfaaGreat
