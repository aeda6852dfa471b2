/- The sizes of lists, each told alike, with what they count. -/
import Derived.Test.YtamljhcmiphdgaaGreatDoorZvBkHeld
set_option maxRecDepth 20000
set_option maxHeartbeats 8000000
namespace Go.Proofs.YtamljhcmiphdgaaGreatDoor
open Go.RowKit Go.Sort
set_option linter.unusedVariables false
def nlNd (K:Nat) (p:Nd):Nat:=nxG nxPf (nxs (K) p.la+2 * p.st.length+totM p.tt+p.hw.length+p.tw.length+p.th.length+3 * p.vo.length+3 * p.go.length+p.dn.length+5 * p.pl.length) p.ps
def mlNd (K:Nat) (p:Nd):Nd:=⟨p.nm,p.ep,p.be,mkAs (K) p.la,mkV (nxs (K) p.la) p.st.length,mkLk (nxs (K) p.la+2 * p.st.length) p.tt,p.rd,p.vd,p.hr,p.hb,mkS (nxs (K) p.la+2 * p.st.length+totM p.tt) p.hw.length,p.tr,mkS (nxs (K) p.la+2 * p.st.length+totM p.tt+p.hw.length) p.tw.length,mkI (nxs (K) p.la+2 * p.st.length+totM p.tt+p.hw.length+p.tw.length) p.th.length,p.ld,mkR (nxs (K) p.la+2 * p.st.length+totM p.tt+p.hw.length+p.tw.length+p.th.length) p.vo.length,mkR (nxs (K) p.la+2 * p.st.length+totM p.tt+p.hw.length+p.tw.length+p.th.length+3 * p.vo.length) p.go.length,mkI (nxs (K) p.la+2 * p.st.length+totM p.tt+p.hw.length+p.tw.length+p.th.length+3 * p.vo.length+3 * p.go.length) p.dn.length,mkT (nxs (K) p.la+2 * p.st.length+totM p.tt+p.hw.length+p.tw.length+p.th.length+3 * p.vo.length+3 * p.go.length+p.dn.length) p.pl.length,mkG mkPf nxPf (nxs (K) p.la+2 * p.st.length+totM p.tt+p.hw.length+p.tw.length+p.th.length+3 * p.vo.length+3 * p.go.length+p.dn.length+5 * p.pl.length) p.ps⟩
theorem Blk.othM {S:Nat->Prop} {W V:World} {B:Nat} {t:TypeId} {cs:List Value} (h:Blk W B t cs) (hO:Oth S W V) (hn:¬ S B):Blk V B t cs:=(hO.block B h.lt hn).trans h
theorem bT_ (p:Nd) (u:Nv) (K lo hi:Nat) (w:World) (ho:OwnNd lo hi w p u) (hw:hi<=w.heap.size) (hf:FewNd p) (hle:nlNd K p<=40000000) (hK0:0 < K) :
  Calls Tryz.prog 11 #[noV p u,.int .i64 (K:Int)] w (Mkd (nlNd K p) lo hi (fun w'=>OwnNd lo hi w' (mlNd K p) u) w):=by
 have hna:=hf.na
 have hfa:=hf.fa
 have hns:=hf.ns
 have hnt:=hf.nt
 have hft:=hf.ft
 have hnw:=hf.nw
 have hnx:=hf.nx
 have hnh:=hf.nh
 have hnv:=hf.nv
 have hng:=hf.ng
 have hnd:=hf.nd
 have hnp:=hf.np
 have hnq:=hf.nq
 have hfq:=hf.fq
 have HE:=a_ (show nlNd K p=nlNd K p from rfl)
 obtain ⟨m0,m1,m2,m3,m4,m5,m6,m7,m8,m9,m10,b0,b1,b2,b3,b4,b5,b6,b7,b8,b9,b10,b11,xa,xs,xt,xw,xx,xh,xv,xg,xd,xp,xq⟩:=ho.ex
 obtain ⟨nm,ep,be,la,st,tt,rd,vd,hr,hb,hw,tr,tw,th,ld,vo,go,dn,pl,ps⟩:=p
 obtain ⟨ya,ys,yt,yw,yx,yh,yv,yg,yd,yp,yq⟩:=u
 clear ho hf HE
 simp only at *
 obtain ⟨ada,cpa,rfl⟩:=xa.rd.shape
 obtain ⟨ads,cps,rfl⟩:=xs.rd.shape
 obtain ⟨adt,cpt,rfl⟩:=xt.rd.shape
 obtain ⟨adw,cpw,rfl⟩:=xw.rd.shape
 obtain ⟨adx,cpx,rfl⟩:=xx.rd.shape
 obtain ⟨adh,cph,rfl⟩:=xh.rd.shape
 obtain ⟨adv,cpv,rfl⟩:=xv.rd.shape
 obtain ⟨adg,cpg,rfl⟩:=xg.rd.shape
 obtain ⟨add,cpd,rfl⟩:=xd.rd.shape
 obtain ⟨adp,cpp,rfl⟩:=xp.rd.shape
 obtain ⟨adq,cpq,rfl⟩:=xq.rd.shape
 have HT:=a_ (show nlNd K ⟨nm,ep,be,la,st,tt,rd,vd,hr,hb,hw,tr,tw,th,ld,vo,go,dn,pl,ps⟩=nxG nxPf (nxs (K) la+2 * st.length+totM tt+hw.length+tw.length+th.length+3 * vo.length+3 * go.length+dn.length+5 * pl.length) ps from rfl)
 rw [HT.out] at hle ⊢
 have HD:=a_ (show mlNd K ⟨nm,ep,be,la,st,tt,rd,vd,hr,hb,hw,tr,tw,th,ld,vo,go,dn,pl,ps⟩=⟨nm,ep,be,mkAs (K) la,mkV (nxs (K) la) st.length,mkLk (nxs (K) la+2 * st.length) tt,rd,vd,hr,hb,mkS (nxs (K) la+2 * st.length+totM tt) hw.length,tr,mkS (nxs (K) la+2 * st.length+totM tt+hw.length) tw.length,mkI (nxs (K) la+2 * st.length+totM tt+hw.length+tw.length) th.length,ld,mkR (nxs (K) la+2 * st.length+totM tt+hw.length+tw.length+th.length) vo.length,mkR (nxs (K) la+2 * st.length+totM tt+hw.length+tw.length+th.length+3 * vo.length) go.length,mkI (nxs (K) la+2 * st.length+totM tt+hw.length+tw.length+th.length+3 * vo.length+3 * go.length) dn.length,mkT (nxs (K) la+2 * st.length+totM tt+hw.length+tw.length+th.length+3 * vo.length+3 * go.length+dn.length) pl.length,mkG mkPf nxPf (nxs (K) la+2 * st.length+totM tt+hw.length+tw.length+th.length+3 * vo.length+3 * go.length+dn.length+5 * pl.length) ps⟩ from rfl)
 rw [HD.out]
 clear HD HT
 obtain ⟨w0,hw0⟩:∃ x,w.alloc (.cells #[.string nm,.int .i64 ep,.int .i64 be,.slice ada la.length cpa,.slice ads st.length cps,.slice adt tt.length cpt,.int .i64 rd,.int .i64 vd,.int .i64 hr,.int .i64 hb,.slice adw hw.length cpw,.int .i64 tr,.slice adx tw.length cpx,.slice adh th.length cph,.int .i64 ld,.slice adv vo.length cpv,.slice adg go.length cpg,.slice add dn.length cpd,.slice adp pl.length cpp,.slice adq ps.length cpq] 55)=x:=⟨_,rfl⟩
 have b0:Below w.heap.size w w0:=by rw [<- hw0];exact (br_ _ w).alloc (nr_ _) _
 have K0:=a_ (show Blk w0 w.heap.size 55 [.string nm,.int .i64 ep,.int .i64 be,.slice ada la.length cpa,.slice ads st.length cps,.slice adt tt.length cpt,.int .i64 rd,.int .i64 vd,.int .i64 hr,.int .i64 hb,.slice adw hw.length cpw,.int .i64 tr,.slice adx tw.length cpx,.slice adh th.length cph,.int .i64 ld,.slice adv vo.length cpv,.slice adg go.length cpg,.slice add dn.length cpd,.slice adp pl.length cpp,.slice adq ps.length cpq] from by rw [<- hw0];exact Blk.new w _ _)
 have Xa:=a_ (xa.kept (Kept.of_below b0 (nr_ _)))
 clear xa
 have Xs:=a_ (xs.kept (Kept.of_below b0 (nr_ _)))
 clear xs
 have Xt:=a_ (xt.kept (Kept.of_below b0 (nr_ _)))
 clear xt
 have Xw:=a_ (xw.kept (Kept.of_below b0 (nr_ _)))
 clear xw
 have Xx:=a_ (xx.kept (Kept.of_below b0 (nr_ _)))
 clear xx
 have Xh:=a_ (xh.kept (Kept.of_below b0 (nr_ _)))
 clear xh
 have Xv:=a_ (xv.kept (Kept.of_below b0 (nr_ _)))
 clear xv
 have Xg:=a_ (xg.kept (Kept.of_below b0 (nr_ _)))
 clear xg
 have Xd:=a_ (xd.kept (Kept.of_below b0 (nr_ _)))
 clear xd
 have Xp:=a_ (xp.kept (Kept.of_below b0 (nr_ _)))
 clear xp
 have Xq:=a_ (xq.kept (Kept.of_below b0 (nr_ _)))
 clear xq
 have HO:=a_ (Oth.of_below (S:=fun x=>lo<=x/\x < hi) b0)
 clear b0
 simp only [noV] at *
 go_enter Tryz.func11,Tryz.ntmps11
 have kk:=K0.out
 have c2:=kk.cell 2
 have c3:=kk.cell 3
 simp only [gz_,gs_] at c2 c3
 clear kk
 have hq0:nxs (K) la<=40000000:=by have:=x_ v_ (nxs (K) la+2 * st.length+totM tt+hw.length+tw.length+th.length+3 * vo.length+3 * go.length+dn.length+5 * pl.length) ps;omega
 have HA:=a_ (jj_ be (.slice ada la.length cpa) la (K) m0 m1 _ Xa.out hna hfa (by omega) (by omega))
 simp only [lgV] at HA
 go_wp2_with fail
 (try rw [hw0])
 clear hw0
 refine HA.out.mono ?_
 rintro e w1 ⟨rfl,hx,hoth⟩
 have HOn:=a_ (HO.out.trans (hoth.mono (fun x hx=>⟨by omega,by omega⟩)))
 clear HO
 have HO:=HOn
 clear HOn
 have Kn:=a_ (K0.out.othM hoth (by omega))
 clear K0
 have K0:=Kn
 clear Kn
 have Xs:=a_ (Xs.out.kept (Kept.of_oth hoth (fun k h1 h2=>by omega)))
 have Xt:=a_ (Xt.out.kept (Kept.of_oth hoth (fun k h1 h2=>by omega)))
 have Xw:=a_ (Xw.out.kept (Kept.of_oth hoth (fun k h1 h2=>by omega)))
 have Xx:=a_ (Xx.out.kept (Kept.of_oth hoth (fun k h1 h2=>by omega)))
 have Xh:=a_ (Xh.out.kept (Kept.of_oth hoth (fun k h1 h2=>by omega)))
 have Xv:=a_ (Xv.out.kept (Kept.of_oth hoth (fun k h1 h2=>by omega)))
 have Xg:=a_ (Xg.out.kept (Kept.of_oth hoth (fun k h1 h2=>by omega)))
 have Xd:=a_ (Xd.out.kept (Kept.of_oth hoth (fun k h1 h2=>by omega)))
 have Xp:=a_ (Xp.out.kept (Kept.of_oth hoth (fun k h1 h2=>by omega)))
 have Xq:=a_ (Xq.out.kept (Kept.of_oth hoth (fun k h1 h2=>by omega)))
 have Xn:=a_ hx
 clear Xa
 have Xa:=Xn
 clear Xn
 obtain ⟨Q1,hQ1⟩:∃ x:Nat,nxs (K) la=x:=⟨_,rfl⟩
 have HQ1:=a_ hQ1
 rw [hQ1] at hle ⊢
 have hp1:0 < Q1:=by have:=nxs_ge K la;omega
 rw [hQ1] at hq0
 clear hx hoth HA hQ1 c2 c3
 have kk:=K0.out
 have c4:=kk.cell 4
 simp only [gz_,gs_] at c4
 clear kk
 have hq1:Q1+2 * st.length<=40000000:=by have:=x_ v_ (Q1+2 * st.length+totM tt+hw.length+tw.length+th.length+3 * vo.length+3 * go.length+dn.length+5 * pl.length) ps;omega
 have HA:=a_ (mkuVal (.slice ads st.length cps) st (Q1) m1 m2 _ Xs.out hns (by omega) (by omega))
 go_wp2_with fail
 refine HA.out.mono ?_
 rintro e w2 ⟨rfl,hx,hoth⟩
 have HOn:=a_ (HO.out.trans (hoth.mono (fun x hx=>⟨by omega,by omega⟩)))
 clear HO
 have HO:=HOn
 clear HOn
 have Kn:=a_ (K0.out.othM hoth (by omega))
 clear K0
 have K0:=Kn
 clear Kn
 have Xa:=a_ (Xa.out.kept (Kept.of_oth hoth (fun k h1 h2=>by omega)))
 have Xt:=a_ (Xt.out.kept (Kept.of_oth hoth (fun k h1 h2=>by omega)))
 have Xw:=a_ (Xw.out.kept (Kept.of_oth hoth (fun k h1 h2=>by omega)))
 have Xx:=a_ (Xx.out.kept (Kept.of_oth hoth (fun k h1 h2=>by omega)))
 have Xh:=a_ (Xh.out.kept (Kept.of_oth hoth (fun k h1 h2=>by omega)))
 have Xv:=a_ (Xv.out.kept (Kept.of_oth hoth (fun k h1 h2=>by omega)))
 have Xg:=a_ (Xg.out.kept (Kept.of_oth hoth (fun k h1 h2=>by omega)))
 have Xd:=a_ (Xd.out.kept (Kept.of_oth hoth (fun k h1 h2=>by omega)))
 have Xp:=a_ (Xp.out.kept (Kept.of_oth hoth (fun k h1 h2=>by omega)))
 have Xq:=a_ (Xq.out.kept (Kept.of_oth hoth (fun k h1 h2=>by omega)))
 have Xn:=a_ hx
 clear Xs
 have Xs:=Xn
 clear Xn
 obtain ⟨Q2,hQ2⟩:∃ x:Nat,Q1+2 * st.length=x:=⟨_,rfl⟩
 have HQ2:=a_ hQ2
 rw [hQ2] at hle ⊢
 have hp2:0 < Q2:=by omega
 rw [hQ2] at hq1
 clear hx hoth HA hQ2 c4
 have kk:=K0.out
 have c5:=kk.cell 5
 simp only [gz_,gs_] at c5
 clear kk
 have hq2:Q2+totM tt<=40000000:=by have:=x_ v_ (Q2+totM tt+hw.length+tw.length+th.length+3 * vo.length+3 * go.length+dn.length+5 * pl.length) ps;omega
 have HA:=a_ (fo_ (.slice adt tt.length cpt) tt (Q2) m2 m3 _ Xt.out hnt hft (by omega) (by omega))
 go_wp2_with fail
 refine HA.out.mono ?_
 rintro e w3 ⟨rfl,hx,hoth⟩
 have HOn:=a_ (HO.out.trans (hoth.mono (fun x hx=>⟨by omega,by omega⟩)))
 clear HO
 have HO:=HOn
 clear HOn
 have Kn:=a_ (K0.out.othM hoth (by omega))
 clear K0
 have K0:=Kn
 clear Kn
 have Xa:=a_ (Xa.out.kept (Kept.of_oth hoth (fun k h1 h2=>by omega)))
 have Xs:=a_ (Xs.out.kept (Kept.of_oth hoth (fun k h1 h2=>by omega)))
 have Xw:=a_ (Xw.out.kept (Kept.of_oth hoth (fun k h1 h2=>by omega)))
 have Xx:=a_ (Xx.out.kept (Kept.of_oth hoth (fun k h1 h2=>by omega)))
 have Xh:=a_ (Xh.out.kept (Kept.of_oth hoth (fun k h1 h2=>by omega)))
 have Xv:=a_ (Xv.out.kept (Kept.of_oth hoth (fun k h1 h2=>by omega)))
 have Xg:=a_ (Xg.out.kept (Kept.of_oth hoth (fun k h1 h2=>by omega)))
 have Xd:=a_ (Xd.out.kept (Kept.of_oth hoth (fun k h1 h2=>by omega)))
 have Xp:=a_ (Xp.out.kept (Kept.of_oth hoth (fun k h1 h2=>by omega)))
 have Xq:=a_ (Xq.out.kept (Kept.of_oth hoth (fun k h1 h2=>by omega)))
 have Xn:=a_ hx
 clear Xt
 have Xt:=Xn
 clear Xn
 obtain ⟨Q3,hQ3⟩:∃ x:Nat,Q2+totM tt=x:=⟨_,rfl⟩
 have HQ3:=a_ hQ3
 rw [hQ3] at hle ⊢
 have hp3:0 < Q3:=by omega
 rw [hQ3] at hq2
 clear hx hoth HA hQ3 c5
 have kk:=K0.out
 have c8:=kk.cell 8
 have c9:=kk.cell 9
 have c10:=kk.cell 10
 simp only [gz_,gs_] at c8 c9 c10
 clear kk
 have hq3:Q3+hw.length<=40000000:=by have:=x_ v_ (Q3+hw.length+tw.length+th.length+3 * vo.length+3 * go.length+dn.length+5 * pl.length) ps;omega
 have HA:=a_ (mkuQc hr hb (.slice adw hw.length cpw) hw (Q3) m3 m4 _ Xw.out hnw (by omega) (by omega))
 simp only [qcV] at HA
 go_wp2_with fail
 refine HA.out.mono ?_
 rintro e w4 ⟨rfl,hx,hoth⟩
 have HOn:=a_ (HO.out.trans (hoth.mono (fun x hx=>⟨by omega,by omega⟩)))
 clear HO
 have HO:=HOn
 clear HOn
 have Kn:=a_ (K0.out.othM hoth (by omega))
 clear K0
 have K0:=Kn
 clear Kn
 have Xa:=a_ (Xa.out.kept (Kept.of_oth hoth (fun k h1 h2=>by omega)))
 have Xs:=a_ (Xs.out.kept (Kept.of_oth hoth (fun k h1 h2=>by omega)))
 have Xt:=a_ (Xt.out.kept (Kept.of_oth hoth (fun k h1 h2=>by omega)))
 have Xx:=a_ (Xx.out.kept (Kept.of_oth hoth (fun k h1 h2=>by omega)))
 have Xh:=a_ (Xh.out.kept (Kept.of_oth hoth (fun k h1 h2=>by omega)))
 have Xv:=a_ (Xv.out.kept (Kept.of_oth hoth (fun k h1 h2=>by omega)))
 have Xg:=a_ (Xg.out.kept (Kept.of_oth hoth (fun k h1 h2=>by omega)))
 have Xd:=a_ (Xd.out.kept (Kept.of_oth hoth (fun k h1 h2=>by omega)))
 have Xp:=a_ (Xp.out.kept (Kept.of_oth hoth (fun k h1 h2=>by omega)))
 have Xq:=a_ (Xq.out.kept (Kept.of_oth hoth (fun k h1 h2=>by omega)))
 have Xn:=a_ hx
 clear Xw
 have Xw:=Xn
 clear Xn
 obtain ⟨Q4,hQ4⟩:∃ x:Nat,Q3+hw.length=x:=⟨_,rfl⟩
 have HQ4:=a_ hQ4
 rw [hQ4] at hle ⊢
 have hp4:0 < Q4:=by omega
 rw [hQ4] at hq3
 clear hx hoth HA hQ4 c8 c9 c10
 have kk:=K0.out
 have c11:=kk.cell 11
 have c12:=kk.cell 12
 have c13:=kk.cell 13
 simp only [gz_,gs_] at c11 c12 c13
 clear kk
 have hq4:Q4+tw.length+th.length<=40000000:=by have:=x_ v_ (Q4+tw.length+th.length+3 * vo.length+3 * go.length+dn.length+5 * pl.length) ps;omega
 have HA:=a_ (mkuTc tr (.slice adx tw.length cpx) (.slice adh th.length cph) tw th (Q4) m4 m5 _ Xx.out Xh.out hnx hnh (by omega) (by omega))
 simp only [tcV] at HA
 go_wp2_with fail
 refine HA.out.mono ?_
 rintro e w5 ⟨rfl,hx,hoth⟩
 have HOn:=a_ (HO.out.trans (hoth.mono (fun x hx=>⟨by omega,by omega⟩)))
 clear HO
 have HO:=HOn
 clear HOn
 have Kn:=a_ (K0.out.othM hoth (by omega))
 clear K0
 have K0:=Kn
 clear Kn
 have Xa:=a_ (Xa.out.kept (Kept.of_oth hoth (fun k h1 h2=>by omega)))
 have Xs:=a_ (Xs.out.kept (Kept.of_oth hoth (fun k h1 h2=>by omega)))
 have Xt:=a_ (Xt.out.kept (Kept.of_oth hoth (fun k h1 h2=>by omega)))
 have Xw:=a_ (Xw.out.kept (Kept.of_oth hoth (fun k h1 h2=>by omega)))
 have Xv:=a_ (Xv.out.kept (Kept.of_oth hoth (fun k h1 h2=>by omega)))
 have Xg:=a_ (Xg.out.kept (Kept.of_oth hoth (fun k h1 h2=>by omega)))
 have Xd:=a_ (Xd.out.kept (Kept.of_oth hoth (fun k h1 h2=>by omega)))
 have Xp:=a_ (Xp.out.kept (Kept.of_oth hoth (fun k h1 h2=>by omega)))
 have Xq:=a_ (Xq.out.kept (Kept.of_oth hoth (fun k h1 h2=>by omega)))
 have Xn1:=a_ hx.1
 have Xn2:=a_ hx.2
 clear Xx Xh
 have Xx:=Xn1
 have Xh:=Xn2
 clear Xn1 Xn2
 obtain ⟨Q5,hQ5⟩:∃ x:Nat,Q4+tw.length+th.length=x:=⟨_,rfl⟩
 have HQ5:=a_ hQ5
 rw [hQ5] at hle ⊢
 have hp5:0 < Q5:=by omega
 rw [hQ5] at hq4
 clear hx hoth HA hQ5 c11 c12 c13
 have kk:=K0.out
 have c15:=kk.cell 15
 simp only [gz_,gs_] at c15
 clear kk
 have hq5:Q5+3 * vo.length<=40000000:=by have:=x_ v_ (Q5+3 * vo.length+3 * go.length+dn.length+5 * pl.length) ps;omega
 have HA:=a_ (kj_ (.slice adv vo.length cpv) vo (Q5) m5 m6 _ Xv.out hnv (by omega) (by omega))
 go_wp2_with fail
 refine HA.out.mono ?_
 rintro e w6 ⟨rfl,hx,hoth⟩
 have HOn:=a_ (HO.out.trans (hoth.mono (fun x hx=>⟨by omega,by omega⟩)))
 clear HO
 have HO:=HOn
 clear HOn
 have Kn:=a_ (K0.out.othM hoth (by omega))
 clear K0
 have K0:=Kn
 clear Kn
 have Xa:=a_ (Xa.out.kept (Kept.of_oth hoth (fun k h1 h2=>by omega)))
 have Xs:=a_ (Xs.out.kept (Kept.of_oth hoth (fun k h1 h2=>by omega)))
 have Xt:=a_ (Xt.out.kept (Kept.of_oth hoth (fun k h1 h2=>by omega)))
 have Xw:=a_ (Xw.out.kept (Kept.of_oth hoth (fun k h1 h2=>by omega)))
 have Xx:=a_ (Xx.out.kept (Kept.of_oth hoth (fun k h1 h2=>by omega)))
 have Xh:=a_ (Xh.out.kept (Kept.of_oth hoth (fun k h1 h2=>by omega)))
 have Xg:=a_ (Xg.out.kept (Kept.of_oth hoth (fun k h1 h2=>by omega)))
 have Xd:=a_ (Xd.out.kept (Kept.of_oth hoth (fun k h1 h2=>by omega)))
 have Xp:=a_ (Xp.out.kept (Kept.of_oth hoth (fun k h1 h2=>by omega)))
 have Xq:=a_ (Xq.out.kept (Kept.of_oth hoth (fun k h1 h2=>by omega)))
 have Xn:=a_ hx
 clear Xv
 have Xv:=Xn
 clear Xn
 obtain ⟨Q6,hQ6⟩:∃ x:Nat,Q5+3 * vo.length=x:=⟨_,rfl⟩
 have HQ6:=a_ hQ6
 rw [hQ6] at hle ⊢
 have hp6:0 < Q6:=by omega
 rw [hQ6] at hq5
 clear hx hoth HA hQ6 c15
 have kk:=K0.out
 have c16:=kk.cell 16
 simp only [gz_,gs_] at c16
 clear kk
 have hq6:Q6+3 * go.length<=40000000:=by have:=x_ v_ (Q6+3 * go.length+dn.length+5 * pl.length) ps;omega
 have HA:=a_ (kx_ (.slice adg go.length cpg) go (Q6) m6 m7 _ Xg.out hng (by omega) (by omega))
 go_wp2_with fail
 refine HA.out.mono ?_
 rintro e w7 ⟨rfl,hx,hoth⟩
 have HOn:=a_ (HO.out.trans (hoth.mono (fun x hx=>⟨by omega,by omega⟩)))
 clear HO
 have HO:=HOn
 clear HOn
 have Kn:=a_ (K0.out.othM hoth (by omega))
 clear K0
 have K0:=Kn
 clear Kn
 have Xa:=a_ (Xa.out.kept (Kept.of_oth hoth (fun k h1 h2=>by omega)))
 have Xs:=a_ (Xs.out.kept (Kept.of_oth hoth (fun k h1 h2=>by omega)))
 have Xt:=a_ (Xt.out.kept (Kept.of_oth hoth (fun k h1 h2=>by omega)))
 have Xw:=a_ (Xw.out.kept (Kept.of_oth hoth (fun k h1 h2=>by omega)))
 have Xx:=a_ (Xx.out.kept (Kept.of_oth hoth (fun k h1 h2=>by omega)))
 have Xh:=a_ (Xh.out.kept (Kept.of_oth hoth (fun k h1 h2=>by omega)))
 have Xv:=a_ (Xv.out.kept (Kept.of_oth hoth (fun k h1 h2=>by omega)))
 have Xd:=a_ (Xd.out.kept (Kept.of_oth hoth (fun k h1 h2=>by omega)))
 have Xp:=a_ (Xp.out.kept (Kept.of_oth hoth (fun k h1 h2=>by omega)))
 have Xq:=a_ (Xq.out.kept (Kept.of_oth hoth (fun k h1 h2=>by omega)))
 have Xn:=a_ hx
 clear Xg
 have Xg:=Xn
 clear Xn
 obtain ⟨Q7,hQ7⟩:∃ x:Nat,Q6+3 * go.length=x:=⟨_,rfl⟩
 have HQ7:=a_ hQ7
 rw [hQ7] at hle ⊢
 have hp7:0 < Q7:=by omega
 rw [hQ7] at hq6
 clear hx hoth HA hQ7 c16
 have kk:=K0.out
 have c17:=kk.cell 17
 simp only [gz_,gs_] at c17
 clear kk
 have hq7:Q7+dn.length<=40000000:=by have:=x_ v_ (Q7+dn.length+5 * pl.length) ps;omega
 have HA:=a_ (mkuInt (.slice add dn.length cpd) dn (Q7) m7 m8 _ Xd.out hnd (by omega) (by omega))
 go_wp2_with fail
 refine HA.out.mono ?_
 rintro e w8 ⟨rfl,hx,hoth⟩
 have HOn:=a_ (HO.out.trans (hoth.mono (fun x hx=>⟨by omega,by omega⟩)))
 clear HO
 have HO:=HOn
 clear HOn
 have Kn:=a_ (K0.out.othM hoth (by omega))
 clear K0
 have K0:=Kn
 clear Kn
 have Xa:=a_ (Xa.out.kept (Kept.of_oth hoth (fun k h1 h2=>by omega)))
 have Xs:=a_ (Xs.out.kept (Kept.of_oth hoth (fun k h1 h2=>by omega)))
 have Xt:=a_ (Xt.out.kept (Kept.of_oth hoth (fun k h1 h2=>by omega)))
 have Xw:=a_ (Xw.out.kept (Kept.of_oth hoth (fun k h1 h2=>by omega)))
 have Xx:=a_ (Xx.out.kept (Kept.of_oth hoth (fun k h1 h2=>by omega)))
 have Xh:=a_ (Xh.out.kept (Kept.of_oth hoth (fun k h1 h2=>by omega)))
 have Xv:=a_ (Xv.out.kept (Kept.of_oth hoth (fun k h1 h2=>by omega)))
 have Xg:=a_ (Xg.out.kept (Kept.of_oth hoth (fun k h1 h2=>by omega)))
 have Xp:=a_ (Xp.out.kept (Kept.of_oth hoth (fun k h1 h2=>by omega)))
 have Xq:=a_ (Xq.out.kept (Kept.of_oth hoth (fun k h1 h2=>by omega)))
 have Xn:=a_ hx
 clear Xd
 have Xd:=Xn
 clear Xn
 obtain ⟨Q8,hQ8⟩:∃ x:Nat,Q7+dn.length=x:=⟨_,rfl⟩
 have HQ8:=a_ hQ8
 rw [hQ8] at hle ⊢
 have hp8:0 < Q8:=by omega
 rw [hQ8] at hq7
 clear hx hoth HA hQ8 c17
 have kk:=K0.out
 have c18:=kk.cell 18
 simp only [gz_,gs_] at c18
 clear kk
 have hq8:Q8+5 * pl.length<=40000000:=by have:=x_ v_ (Q8+5 * pl.length) ps;omega
 have HA:=a_ (mkuTx (.slice adp pl.length cpp) pl (Q8) m8 m9 _ Xp.out hnp (by omega) (by omega))
 go_wp2_with fail
 refine HA.out.mono ?_
 rintro e w9 ⟨rfl,hx,hoth⟩
 have HOn:=a_ (HO.out.trans (hoth.mono (fun x hx=>⟨by omega,by omega⟩)))
 clear HO
 have HO:=HOn
 clear HOn
 have Kn:=a_ (K0.out.othM hoth (by omega))
 clear K0
 have K0:=Kn
 clear Kn
 have Xa:=a_ (Xa.out.kept (Kept.of_oth hoth (fun k h1 h2=>by omega)))
 have Xs:=a_ (Xs.out.kept (Kept.of_oth hoth (fun k h1 h2=>by omega)))
 have Xt:=a_ (Xt.out.kept (Kept.of_oth hoth (fun k h1 h2=>by omega)))
 have Xw:=a_ (Xw.out.kept (Kept.of_oth hoth (fun k h1 h2=>by omega)))
 have Xx:=a_ (Xx.out.kept (Kept.of_oth hoth (fun k h1 h2=>by omega)))
 have Xh:=a_ (Xh.out.kept (Kept.of_oth hoth (fun k h1 h2=>by omega)))
 have Xv:=a_ (Xv.out.kept (Kept.of_oth hoth (fun k h1 h2=>by omega)))
 have Xg:=a_ (Xg.out.kept (Kept.of_oth hoth (fun k h1 h2=>by omega)))
 have Xd:=a_ (Xd.out.kept (Kept.of_oth hoth (fun k h1 h2=>by omega)))
 have Xq:=a_ (Xq.out.kept (Kept.of_oth hoth (fun k h1 h2=>by omega)))
 have Xn:=a_ hx
 clear Xp
 have Xp:=Xn
 clear Xn
 obtain ⟨Q9,hQ9⟩:∃ x:Nat,Q8+5 * pl.length=x:=⟨_,rfl⟩
 have HQ9:=a_ hQ9
 rw [hQ9] at hle ⊢
 have hp9:0 < Q9:=by omega
 rw [hQ9] at hq8
 clear hx hoth HA hQ9 c18
 have kk:=K0.out
 have c19:=kk.cell 19
 simp only [gz_,gs_] at c19
 clear kk
 have hq9:nxG nxPf (Q9) ps<=40000000:=by omega
 have HA:=a_ (jW_ (.slice adq ps.length cpq) ps (Q9) m9 m10 _ Xq.out hnq hfq (by omega) (by omega))
 go_wp2_with fail
 refine HA.out.mono ?_
 rintro e w10 ⟨rfl,hx,hoth⟩
 have HOn:=a_ (HO.out.trans (hoth.mono (fun x hx=>⟨by omega,by omega⟩)))
 clear HO
 have HO:=HOn
 clear HOn
 have Kn:=a_ (K0.out.othM hoth (by omega))
 clear K0
 have K0:=Kn
 clear Kn
 have Xa:=a_ (Xa.out.kept (Kept.of_oth hoth (fun k h1 h2=>by omega)))
 have Xs:=a_ (Xs.out.kept (Kept.of_oth hoth (fun k h1 h2=>by omega)))
 have Xt:=a_ (Xt.out.kept (Kept.of_oth hoth (fun k h1 h2=>by omega)))
 have Xw:=a_ (Xw.out.kept (Kept.of_oth hoth (fun k h1 h2=>by omega)))
 have Xx:=a_ (Xx.out.kept (Kept.of_oth hoth (fun k h1 h2=>by omega)))
 have Xh:=a_ (Xh.out.kept (Kept.of_oth hoth (fun k h1 h2=>by omega)))
 have Xv:=a_ (Xv.out.kept (Kept.of_oth hoth (fun k h1 h2=>by omega)))
 have Xg:=a_ (Xg.out.kept (Kept.of_oth hoth (fun k h1 h2=>by omega)))
 have Xd:=a_ (Xd.out.kept (Kept.of_oth hoth (fun k h1 h2=>by omega)))
 have Xp:=a_ (Xp.out.kept (Kept.of_oth hoth (fun k h1 h2=>by omega)))
 have Xn:=a_ hx
 clear Xq
 have Xq:=Xn
 clear Xn
 obtain ⟨Q10,hQ10⟩:∃ x:Nat,nxG nxPf (Q9) ps=x:=⟨_,rfl⟩
 have HQ10:=a_ hQ10
 rw [hQ10] at hle ⊢
 have hp10:0 < Q10:=by have:=x_ v_ Q9 ps;omega
 rw [hQ10] at hq9
 clear hx hoth HA hQ10 c19
 go_wp2
 go_ret
 unfold Mkd
 simp only [HQ1.out,HQ2.out,HQ3.out,HQ4.out,HQ5.out,HQ6.out,HQ7.out,HQ8.out,HQ9.out,HQ10.out]
 exact ⟨rfl,⟨m0,m1,m2,m3,m4,m5,m6,m7,m8,m9,m10,b0,b1,b2,b3,b4,b5,b6,b7,b8,b9,b10,b11,Xa.out,Xs.out,Xt.out,Xw.out,Xx.out,Xh.out,Xv.out,Xg.out,Xd.out,Xp.out,Xq.out⟩,HO.out⟩
theorem fV_ (p:Nd) (u:Nv) (K:Nat) (w:World) (hr:RdNd w (mlNd K p) u) (hf:FewNd p) (hle:nlNd K p<=40000000) (hK0:0 < K) :
  Calls Tryz.prog 12 #[noV p u,.int .i64 (K:Int)] w fun e w'=>e=.returned (.int .i64 ((nlNd K p:Nat):Int))/\Below w.heap.size w w':=by
 have hna:=hf.na
 have hfa:=hf.fa
 have hns:=hf.ns
 have hnt:=hf.nt
 have hft:=hf.ft
 have hnw:=hf.nw
 have hnx:=hf.nx
 have hnh:=hf.nh
 have hnv:=hf.nv
 have hng:=hf.ng
 have hnd:=hf.nd
 have hnp:=hf.np
 have hnq:=hf.nq
 have hfq:=hf.fq
 obtain ⟨hra,hrs,hrt,hrw,hrx,hrh,hrv,hrg,hrd,hrp,hrq⟩:=hr
 obtain ⟨nm,ep,be,la,st,tt,rd,vd,hr,hb,hw,tr,tw,th,ld,vo,go,dn,pl,ps⟩:=p
 obtain ⟨ya,ys,yt,yw,yx,yh,yv,yg,yd,yp,yq⟩:=u
 clear hf
 simp only at *
 have HT:=a_ (show nlNd K ⟨nm,ep,be,la,st,tt,rd,vd,hr,hb,hw,tr,tw,th,ld,vo,go,dn,pl,ps⟩=nxG nxPf (nxs (K) la+2 * st.length+totM tt+hw.length+tw.length+th.length+3 * vo.length+3 * go.length+dn.length+5 * pl.length) ps from rfl)
 rw [HT.out] at hle ⊢
 clear HT
 obtain ⟨ada,cpa,eb⟩:=hra.shape
 subst eb
 have hra:RdA w (.slice ada (mkAs (K) la).length cpa) (mkAs (K) la):=hra
 obtain ⟨na,hma⟩:∃ x,(mkAs (K) la).length=x:=⟨_,rfl⟩
 rw [hma] at hra
 have hva:(Value.slice ada (mlNd K ⟨nm,ep,be,la,st,tt,rd,vd,hr,hb,hw,tr,tw,th,ld,vo,go,dn,pl,ps⟩).la.length cpa)=.slice ada na cpa:=by rw [<- hma];rfl
 obtain ⟨ads,cps,eb⟩:=hrs.shape
 subst eb
 have hrs:RdV w (.slice ads (mkV (nxs (K) la) st.length).length cps) (mkV (nxs (K) la) st.length):=hrs
 obtain ⟨ns,hms⟩:∃ x,(mkV (nxs (K) la) st.length).length=x:=⟨_,rfl⟩
 rw [hms] at hrs
 have hvs:(Value.slice ads (mlNd K ⟨nm,ep,be,la,st,tt,rd,vd,hr,hb,hw,tr,tw,th,ld,vo,go,dn,pl,ps⟩).st.length cps)=.slice ads ns cps:=by rw [<- hms];rfl
 obtain ⟨adt,cpt,eb⟩:=hrt.shape
 subst eb
 have hrt:RdKs w (.slice adt (mkLk (nxs (K) la+2 * st.length) tt).length cpt) (mkLk (nxs (K) la+2 * st.length) tt):=hrt
 obtain ⟨nt,hmt⟩:∃ x,(mkLk (nxs (K) la+2 * st.length) tt).length=x:=⟨_,rfl⟩
 rw [hmt] at hrt
 have hvt:(Value.slice adt (mlNd K ⟨nm,ep,be,la,st,tt,rd,vd,hr,hb,hw,tr,tw,th,ld,vo,go,dn,pl,ps⟩).tt.length cpt)=.slice adt nt cpt:=by rw [<- hmt];rfl
 obtain ⟨adw,cpw,eb⟩:=hrw.shape
 subst eb
 have hrw:RdS w (.slice adw (mkS (nxs (K) la+2 * st.length+totM tt) hw.length).length cpw) (mkS (nxs (K) la+2 * st.length+totM tt) hw.length):=hrw
 obtain ⟨nw,hmw⟩:∃ x,(mkS (nxs (K) la+2 * st.length+totM tt) hw.length).length=x:=⟨_,rfl⟩
 rw [hmw] at hrw
 have hvw:(Value.slice adw (mlNd K ⟨nm,ep,be,la,st,tt,rd,vd,hr,hb,hw,tr,tw,th,ld,vo,go,dn,pl,ps⟩).hw.length cpw)=.slice adw nw cpw:=by rw [<- hmw];rfl
 obtain ⟨adx,cpx,eb⟩:=hrx.shape
 subst eb
 have hrx:RdS w (.slice adx (mkS (nxs (K) la+2 * st.length+totM tt+hw.length) tw.length).length cpx) (mkS (nxs (K) la+2 * st.length+totM tt+hw.length) tw.length):=hrx
 obtain ⟨nx,hmx⟩:∃ x,(mkS (nxs (K) la+2 * st.length+totM tt+hw.length) tw.length).length=x:=⟨_,rfl⟩
 rw [hmx] at hrx
 have hvx:(Value.slice adx (mlNd K ⟨nm,ep,be,la,st,tt,rd,vd,hr,hb,hw,tr,tw,th,ld,vo,go,dn,pl,ps⟩).tw.length cpx)=.slice adx nx cpx:=by rw [<- hmx];rfl
 obtain ⟨adh,cph,eb⟩:=hrh.shape
 subst eb
 have hrh:RdI w (.slice adh (mkI (nxs (K) la+2 * st.length+totM tt+hw.length+tw.length) th.length).length cph) (mkI (nxs (K) la+2 * st.length+totM tt+hw.length+tw.length) th.length):=hrh
 obtain ⟨nh,hmh⟩:∃ x,(mkI (nxs (K) la+2 * st.length+totM tt+hw.length+tw.length) th.length).length=x:=⟨_,rfl⟩
 rw [hmh] at hrh
 have hvh:(Value.slice adh (mlNd K ⟨nm,ep,be,la,st,tt,rd,vd,hr,hb,hw,tr,tw,th,ld,vo,go,dn,pl,ps⟩).th.length cph)=.slice adh nh cph:=by rw [<- hmh];rfl
 obtain ⟨adv,cpv,eb⟩:=hrv.shape
 subst eb
 have hrv:RdR w (.slice adv (mkR (nxs (K) la+2 * st.length+totM tt+hw.length+tw.length+th.length) vo.length).length cpv) (mkR (nxs (K) la+2 * st.length+totM tt+hw.length+tw.length+th.length) vo.length):=hrv
 obtain ⟨nv,hmv⟩:∃ x,(mkR (nxs (K) la+2 * st.length+totM tt+hw.length+tw.length+th.length) vo.length).length=x:=⟨_,rfl⟩
 rw [hmv] at hrv
 have hvv:(Value.slice adv (mlNd K ⟨nm,ep,be,la,st,tt,rd,vd,hr,hb,hw,tr,tw,th,ld,vo,go,dn,pl,ps⟩).vo.length cpv)=.slice adv nv cpv:=by rw [<- hmv];rfl
 obtain ⟨adg,cpg,eb⟩:=hrg.shape
 subst eb
 have hrg:RdR w (.slice adg (mkR (nxs (K) la+2 * st.length+totM tt+hw.length+tw.length+th.length+3 * vo.length) go.length).length cpg) (mkR (nxs (K) la+2 * st.length+totM tt+hw.length+tw.length+th.length+3 * vo.length) go.length):=hrg
 obtain ⟨ng,hmg⟩:∃ x,(mkR (nxs (K) la+2 * st.length+totM tt+hw.length+tw.length+th.length+3 * vo.length) go.length).length=x:=⟨_,rfl⟩
 rw [hmg] at hrg
 have hvg:(Value.slice adg (mlNd K ⟨nm,ep,be,la,st,tt,rd,vd,hr,hb,hw,tr,tw,th,ld,vo,go,dn,pl,ps⟩).go.length cpg)=.slice adg ng cpg:=by rw [<- hmg];rfl
 obtain ⟨add,cpd,eb⟩:=hrd.shape
 subst eb
 have hrd:RdI w (.slice add (mkI (nxs (K) la+2 * st.length+totM tt+hw.length+tw.length+th.length+3 * vo.length+3 * go.length) dn.length).length cpd) (mkI (nxs (K) la+2 * st.length+totM tt+hw.length+tw.length+th.length+3 * vo.length+3 * go.length) dn.length):=hrd
 obtain ⟨nd,hmd⟩:∃ x,(mkI (nxs (K) la+2 * st.length+totM tt+hw.length+tw.length+th.length+3 * vo.length+3 * go.length) dn.length).length=x:=⟨_,rfl⟩
 rw [hmd] at hrd
 have hvd:(Value.slice add (mlNd K ⟨nm,ep,be,la,st,tt,rd,vd,hr,hb,hw,tr,tw,th,ld,vo,go,dn,pl,ps⟩).dn.length cpd)=.slice add nd cpd:=by rw [<- hmd];rfl
 obtain ⟨adp,cpp,eb⟩:=hrp.shape
 subst eb
 have hrp:RdT w (.slice adp (mkT (nxs (K) la+2 * st.length+totM tt+hw.length+tw.length+th.length+3 * vo.length+3 * go.length+dn.length) pl.length).length cpp) (mkT (nxs (K) la+2 * st.length+totM tt+hw.length+tw.length+th.length+3 * vo.length+3 * go.length+dn.length) pl.length):=hrp
 obtain ⟨np,hmp⟩:∃ x,(mkT (nxs (K) la+2 * st.length+totM tt+hw.length+tw.length+th.length+3 * vo.length+3 * go.length+dn.length) pl.length).length=x:=⟨_,rfl⟩
 rw [hmp] at hrp
 have hvp:(Value.slice adp (mlNd K ⟨nm,ep,be,la,st,tt,rd,vd,hr,hb,hw,tr,tw,th,ld,vo,go,dn,pl,ps⟩).pl.length cpp)=.slice adp np cpp:=by rw [<- hmp];rfl
 obtain ⟨adq,cpq,eb⟩:=hrq.shape
 subst eb
 have hrq:RdPs w (.slice adq (mkG mkPf nxPf (nxs (K) la+2 * st.length+totM tt+hw.length+tw.length+th.length+3 * vo.length+3 * go.length+dn.length+5 * pl.length) ps).length cpq) (mkG mkPf nxPf (nxs (K) la+2 * st.length+totM tt+hw.length+tw.length+th.length+3 * vo.length+3 * go.length+dn.length+5 * pl.length) ps):=hrq
 obtain ⟨nq,hmq⟩:∃ x,(mkG mkPf nxPf (nxs (K) la+2 * st.length+totM tt+hw.length+tw.length+th.length+3 * vo.length+3 * go.length+dn.length+5 * pl.length) ps).length=x:=⟨_,rfl⟩
 rw [hmq] at hrq
 have hvq:(Value.slice adq (mlNd K ⟨nm,ep,be,la,st,tt,rd,vd,hr,hb,hw,tr,tw,th,ld,vo,go,dn,pl,ps⟩).ps.length cpq)=.slice adq nq cpq:=by rw [<- hmq];rfl
 simp only [noV] at *
 rw [hva]
 clear hva hma
 rw [hvs]
 clear hvs hms
 rw [hvt]
 clear hvt hmt
 rw [hvw]
 clear hvw hmw
 rw [hvx]
 clear hvx hmx
 rw [hvh]
 clear hvh hmh
 rw [hvv]
 clear hvv hmv
 rw [hvg]
 clear hvg hmg
 rw [hvd]
 clear hvd hmd
 rw [hvp]
 clear hvp hmp
 rw [hvq]
 clear hvq hmq
 obtain ⟨w0,hw0⟩:∃ x,w.alloc (.cells #[.string nm,.int .i64 ep,.int .i64 be,.slice ada na cpa,.slice ads ns cps,.slice adt nt cpt,.int .i64 rd,.int .i64 vd,.int .i64 hr,.int .i64 hb,.slice adw nw cpw,.int .i64 tr,.slice adx nx cpx,.slice adh nh cph,.int .i64 ld,.slice adv nv cpv,.slice adg ng cpg,.slice add nd cpd,.slice adp np cpp,.slice adq nq cpq] 55)=x:=⟨_,rfl⟩
 have b0:Below w.heap.size w w0:=by rw [<- hw0];exact (br_ _ w).alloc (nr_ _) _
 have K0:=a_ (show Blk w0 w.heap.size 55 [.string nm,.int .i64 ep,.int .i64 be,.slice ada na cpa,.slice ads ns cps,.slice adt nt cpt,.int .i64 rd,.int .i64 vd,.int .i64 hr,.int .i64 hb,.slice adw nw cpw,.int .i64 tr,.slice adx nx cpx,.slice adh nh cph,.int .i64 ld,.slice adv nv cpv,.slice adg ng cpg,.slice add nd cpd,.slice adp np cpp,.slice adq nq cpq] from by rw [<- hw0];exact Blk.new w _ _)
 have gea:=nxs_ge (K) la
 have geq:=x_ v_ (nxs (K) la+2 * st.length+totM tt+hw.length+tw.length+th.length+3 * vo.length+3 * go.length+dn.length+5 * pl.length) ps
 have HA1:=a_ (fun V (hV:Below w.heap.size w V)=>dR_ be (.slice ada na cpa) la (K) V (hra.below hV (nr_ _)) (by omega) (fun a ha=>by have:=hfa a ha;omega) (by omega) (by omega))
 simp only [lgV] at HA1
 have HA2:=a_ (fun V (hV:Below w.heap.size w V)=>bV_ (.slice ads ns cps) (nxs (K) la) st.length V (hrs.below hV (nr_ _)) (by omega) (by omega) (by omega))
 have HA3:=a_ (fun V (hV:Below w.heap.size w V)=>bh_ (.slice adt nt cpt) tt (nxs (K) la+2 * st.length) V (hrt.below hV (nr_ _)) (by omega) (fun b hb=>by have f:=hft b hb;exact ⟨f.q,f.w,f.h,f.t,f.n⟩) (by omega) (by omega))
 have HA4:=a_ (fun V (hV:Below w.heap.size w V)=>hy_ hr hb (.slice adw nw cpw) (nxs (K) la+2 * st.length+totM tt) hw.length V (hrw.below hV (nr_ _)) hnw (by omega) (by omega))
 simp only [qcV] at HA4
 have HA5:=a_ (fun V (hV:Below w.heap.size w V)=>hP_ tr (.slice adx nx cpx) (.slice adh nh cph) (nxs (K) la+2 * st.length+totM tt+hw.length) tw.length th.length V (hrx.below hV (nr_ _)) (hrh.below hV (nr_ _)) hnx hnh (by omega) (by omega))
 simp only [tcV] at HA5
 have HA6:=a_ (fun V (hV:Below w.heap.size w V)=>eN_ (.slice adv nv cpv) (nxs (K) la+2 * st.length+totM tt+hw.length+tw.length+th.length) vo.length V (hrv.below hV (nr_ _)) (by omega) (by omega) (by omega))
 have HA7:=a_ (fun V (hV:Below w.heap.size w V)=>eH_ (.slice adg ng cpg) (nxs (K) la+2 * st.length+totM tt+hw.length+tw.length+th.length+3 * vo.length) go.length V (hrg.below hV (nr_ _)) (by omega) (by omega) (by omega))
 have HA8:=a_ (fun V (hV:Below w.heap.size w V)=>aI_ (.slice add nd cpd) (nxs (K) la+2 * st.length+totM tt+hw.length+tw.length+th.length+3 * vo.length+3 * go.length) dn.length V (hrd.below hV (nr_ _)) (by omega) (by omega) (by omega))
 have HA9:=a_ (fun V (hV:Below w.heap.size w V)=>cs_ (.slice adp np cpp) (nxs (K) la+2 * st.length+totM tt+hw.length+tw.length+th.length+3 * vo.length+3 * go.length+dn.length) pl.length V (hrp.below hV (nr_ _)) (by omega) (by omega) (by omega))
 have HA10:=a_ (fun V (hV:Below w.heap.size w V)=>dJ_ (.slice adq nq cpq) ps (nxs (K) la+2 * st.length+totM tt+hw.length+tw.length+th.length+3 * vo.length+3 * go.length+dn.length+5 * pl.length) V (hrq.below hV (nr_ _)) hnq hfq (by omega) (by omega))
 have Hb:=a_ b0
 clear b0 hra hrs hrt hrw hrx hrh hrv hrg hrd hrp hrq gea geq
 obtain ⟨Q1,hQ1⟩:∃ x:Nat,nxs (K) la=x:=⟨_,rfl⟩
 rw [hQ1] at hle HA1 HA2 HA3 HA4 HA5 HA6 HA7 HA8 HA9 HA10 ⊢
 have hb1:Q1<=40000000:=by have:=x_ v_ (Q1+2 * st.length+totM tt+hw.length+tw.length+th.length+3 * vo.length+3 * go.length+dn.length+5 * pl.length) ps;omega
 clear hQ1
 obtain ⟨Q2,hQ2⟩:∃ x:Nat,Q1+2 * st.length=x:=⟨_,rfl⟩
 rw [hQ2] at hle HA2 HA3 HA4 HA5 HA6 HA7 HA8 HA9 HA10 ⊢
 have hb2:Q2<=40000000:=by have:=x_ v_ (Q2+totM tt+hw.length+tw.length+th.length+3 * vo.length+3 * go.length+dn.length+5 * pl.length) ps;omega
 clear hQ2
 obtain ⟨Q3,hQ3⟩:∃ x:Nat,Q2+totM tt=x:=⟨_,rfl⟩
 rw [hQ3] at hle HA3 HA4 HA5 HA6 HA7 HA8 HA9 HA10 ⊢
 have hb3:Q3<=40000000:=by have:=x_ v_ (Q3+hw.length+tw.length+th.length+3 * vo.length+3 * go.length+dn.length+5 * pl.length) ps;omega
 clear hQ3
 obtain ⟨Q4,hQ4⟩:∃ x:Nat,Q3+hw.length=x:=⟨_,rfl⟩
 rw [hQ4] at hle HA4 HA5 HA6 HA7 HA8 HA9 HA10 ⊢
 have hb4:Q4<=40000000:=by have:=x_ v_ (Q4+tw.length+th.length+3 * vo.length+3 * go.length+dn.length+5 * pl.length) ps;omega
 clear hQ4
 obtain ⟨Q5,hQ5⟩:∃ x:Nat,Q4+tw.length+th.length=x:=⟨_,rfl⟩
 rw [hQ5] at hle HA5 HA6 HA7 HA8 HA9 HA10 ⊢
 have hb5:Q5<=40000000:=by have:=x_ v_ (Q5+3 * vo.length+3 * go.length+dn.length+5 * pl.length) ps;omega
 clear hQ5
 obtain ⟨Q6,hQ6⟩:∃ x:Nat,Q5+3 * vo.length=x:=⟨_,rfl⟩
 rw [hQ6] at hle HA6 HA7 HA8 HA9 HA10 ⊢
 have hb6:Q6<=40000000:=by have:=x_ v_ (Q6+3 * go.length+dn.length+5 * pl.length) ps;omega
 clear hQ6
 obtain ⟨Q7,hQ7⟩:∃ x:Nat,Q6+3 * go.length=x:=⟨_,rfl⟩
 rw [hQ7] at hle HA7 HA8 HA9 HA10 ⊢
 have hb7:Q7<=40000000:=by have:=x_ v_ (Q7+dn.length+5 * pl.length) ps;omega
 clear hQ7
 obtain ⟨Q8,hQ8⟩:∃ x:Nat,Q7+dn.length=x:=⟨_,rfl⟩
 rw [hQ8] at hle HA8 HA9 HA10 ⊢
 have hb8:Q8<=40000000:=by have:=x_ v_ (Q8+5 * pl.length) ps;omega
 clear hQ8
 obtain ⟨Q9,hQ9⟩:∃ x:Nat,Q8+5 * pl.length=x:=⟨_,rfl⟩
 rw [hQ9] at hle HA9 HA10 ⊢
 have hb9:Q9<=40000000:=by have:=x_ v_ (Q9) ps;omega
 clear hQ9
 obtain ⟨Q10,hQ10⟩:∃ x:Nat,nxG nxPf (Q9) ps=x:=⟨_,rfl⟩
 rw [hQ10] at hle HA10 ⊢
 have hb10:Q10<=40000000:=by omega
 clear hQ10
 go_enter Tryz.func12,Tryz.ntmps12
 have kk:=K0.out
 have c2:=kk.cell 2
 have c3:=kk.cell 3
 simp only [gz_,gs_] at c2 c3
 clear kk
 have HX:=a_ (HA1.out _ Hb.out)
 clear HA1
 go_wp2_with fail
 (try rw [hw0])
 clear hw0
 refine HX.out.mono ?_
 rintro e w1 ⟨rfl,hx⟩
 have Kn:=a_ (K0.out.below hx K0.out.lt)
 clear K0
 have K0:=Kn
 clear Kn
 have Hn:=a_ (Hb.out.trans (hx.mono Hb.out.size))
 clear Hb
 have Hb:=Hn
 clear Hn
 clear hx HX c2 c3
 have kk:=K0.out
 have c4:=kk.cell 4
 simp only [gz_,gs_] at c4
 clear kk
 have HX:=a_ (HA2.out _ Hb.out)
 clear HA2
 go_wp2_with fail
 refine HX.out.mono ?_
 rintro e w2 ⟨rfl,hx⟩
 have Kn:=a_ (K0.out.below hx K0.out.lt)
 clear K0
 have K0:=Kn
 clear Kn
 have Hn:=a_ (Hb.out.trans (hx.mono Hb.out.size))
 clear Hb
 have Hb:=Hn
 clear Hn
 clear hx HX c4
 have kk:=K0.out
 have c5:=kk.cell 5
 simp only [gz_,gs_] at c5
 clear kk
 have HX:=a_ (HA3.out _ Hb.out)
 clear HA3
 go_wp2_with fail
 refine HX.out.mono ?_
 rintro e w3 ⟨rfl,hx⟩
 have Kn:=a_ (K0.out.below hx K0.out.lt)
 clear K0
 have K0:=Kn
 clear Kn
 have Hn:=a_ (Hb.out.trans (hx.mono Hb.out.size))
 clear Hb
 have Hb:=Hn
 clear Hn
 clear hx HX c5
 have kk:=K0.out
 have c8:=kk.cell 8
 have c9:=kk.cell 9
 have c10:=kk.cell 10
 simp only [gz_,gs_] at c8 c9 c10
 clear kk
 have HX:=a_ (HA4.out _ Hb.out)
 clear HA4
 go_wp2_with fail
 refine HX.out.mono ?_
 rintro e w4 ⟨rfl,hx⟩
 have Kn:=a_ (K0.out.below hx K0.out.lt)
 clear K0
 have K0:=Kn
 clear Kn
 have Hn:=a_ (Hb.out.trans (hx.mono Hb.out.size))
 clear Hb
 have Hb:=Hn
 clear Hn
 clear hx HX c8 c9 c10
 have kk:=K0.out
 have c11:=kk.cell 11
 have c12:=kk.cell 12
 have c13:=kk.cell 13
 simp only [gz_,gs_] at c11 c12 c13
 clear kk
 have HX:=a_ (HA5.out _ Hb.out)
 clear HA5
 go_wp2_with fail
 refine HX.out.mono ?_
 rintro e w5 ⟨rfl,hx⟩
 have Kn:=a_ (K0.out.below hx K0.out.lt)
 clear K0
 have K0:=Kn
 clear Kn
 have Hn:=a_ (Hb.out.trans (hx.mono Hb.out.size))
 clear Hb
 have Hb:=Hn
 clear Hn
 clear hx HX c11 c12 c13
 have kk:=K0.out
 have c15:=kk.cell 15
 simp only [gz_,gs_] at c15
 clear kk
 have HX:=a_ (HA6.out _ Hb.out)
 clear HA6
 go_wp2_with fail
 refine HX.out.mono ?_
 rintro e w6 ⟨rfl,hx⟩
 have Kn:=a_ (K0.out.below hx K0.out.lt)
 clear K0
 have K0:=Kn
 clear Kn
 have Hn:=a_ (Hb.out.trans (hx.mono Hb.out.size))
 clear Hb
 have Hb:=Hn
 clear Hn
 clear hx HX c15
 have kk:=K0.out
 have c16:=kk.cell 16
 simp only [gz_,gs_] at c16
 clear kk
 have HX:=a_ (HA7.out _ Hb.out)
 clear HA7
 go_wp2_with fail
 refine HX.out.mono ?_
 rintro e w7 ⟨rfl,hx⟩
 have Kn:=a_ (K0.out.below hx K0.out.lt)
 clear K0
 have K0:=Kn
 clear Kn
 have Hn:=a_ (Hb.out.trans (hx.mono Hb.out.size))
 clear Hb
 have Hb:=Hn
 clear Hn
 clear hx HX c16
 have kk:=K0.out
 have c17:=kk.cell 17
 simp only [gz_,gs_] at c17
 clear kk
 have HX:=a_ (HA8.out _ Hb.out)
 clear HA8
 go_wp2_with fail
 refine HX.out.mono ?_
 rintro e w8 ⟨rfl,hx⟩
 have Kn:=a_ (K0.out.below hx K0.out.lt)
 clear K0
 have K0:=Kn
 clear Kn
 have Hn:=a_ (Hb.out.trans (hx.mono Hb.out.size))
 clear Hb
 have Hb:=Hn
 clear Hn
 clear hx HX c17
 have kk:=K0.out
 have c18:=kk.cell 18
 simp only [gz_,gs_] at c18
 clear kk
 have HX:=a_ (HA9.out _ Hb.out)
 clear HA9
 go_wp2_with fail
 refine HX.out.mono ?_
 rintro e w9 ⟨rfl,hx⟩
 have Kn:=a_ (K0.out.below hx K0.out.lt)
 clear K0
 have K0:=Kn
 clear Kn
 have Hn:=a_ (Hb.out.trans (hx.mono Hb.out.size))
 clear Hb
 have Hb:=Hn
 clear Hn
 clear hx HX c18
 have kk:=K0.out
 have c19:=kk.cell 19
 simp only [gz_,gs_] at c19
 clear kk
 have HX:=a_ (HA10.out _ Hb.out)
 clear HA10
 go_wp2_with fail
 refine HX.out.mono ?_
 rintro e w10 ⟨rfl,hx⟩
 have Kn:=a_ (K0.out.below hx K0.out.lt)
 clear K0
 have K0:=Kn
 clear Kn
 have Hn:=a_ (Hb.out.trans (hx.mono Hb.out.size))
 clear Hb
 have Hb:=Hn
 clear Hn
 clear hx HX c19
 go_wp2
 go_ret
 exact ⟨rfl,Hb.out⟩
open Go.RowKit
def SzdW (P:Prop) (W m:Nat) (w:World) (e:Ending) (w':World):Prop:=∃ r:Int,e=.returned (.int .i64 r)/\(0<=r->P/\(W:Int)+r<=(m:Int))/\Below w.heap.size w w'
def totG {α:Type} (f:α->Nat) (l:List α):Nat:=(l.map f).sum
theorem iz_ {α:Type} {f:α->Nat} {l:List α} {k:Nat} (h:k < l.length):totG f (l.take (k+1))=totG f (l.take k)+f l[k]:=by
 unfold totG
 rw [List.take_succ_eq_append_getElem h,List.map_append,List.sum_append]
 simp
theorem jH_ {α β:Type} (g:α->β) (f:β->Nat) (l:List α):totG f (l.map g)=totG (fun a=>f (g a)) l:=by
 unfold totG
 rw [List.map_map]
 rfl
theorem szwVal (v:Value) (l:List Vl) (m:Nat) (w:World) (hr:RdV w v l) (hm:m<=4000000) (hl:l.length<=maxLen) (hs:∀ a ∈ l,a.1.size<=maxLen) :
  Calls Tryz.prog 14 #[v,.int .i64 (m:Int)] w fun en w'=>SzdW (l.length<=4000000) (l.length) m w en w':=by
 have em:maxLen<=9223372036854775807:=by unfold maxLen;omega
 refine (cY_ v l m w hr (by omega) (by omega) (fun a ha=>by have:=hs a ha;omega)).mono ?_
 rintro en w' ⟨r,h1,h2,h3⟩
 exact ⟨r,h1,fun h=>by have:=h2 h;exact ⟨by omega,by omega⟩,h3⟩
theorem fi_ (v:Value) (l:List Bk) (m:Nat) (w:World) (hr:RdKs w v l) (hm:m<=4000000) (hl:l.length<=maxLen) (hs:∀ b ∈ l,FitK b) :
  Calls Tryz.prog 15 #[v,.int .i64 (m:Int)] w fun en w'=>SzdW (l.length<=4000000/\∀ b ∈ l,FewK b) ((l.length+totK l)) m w en w':=by
 refine (eO_ v l m w hr (by omega) hl hs).mono ?_
 rintro en w' ⟨r,h1,h2,h3⟩
 exact ⟨r,h1,fun h=>by
  have a:=h2 h
  exact ⟨⟨by omega,fun b hb=>by
   have t:=totK_at l b hb
   have f:=hs b hb
   unfold wgK at t
   exact ⟨by omega,by omega,by omega,by omega,by omega,f.qs,f.ws,f.ts,f.ns,f.ms,f.rs⟩⟩,by omega⟩,h3⟩
theorem szwQc (r b:Int) (v:Value) (l:List ByteArray) (m:Nat) (w:World) (hr:RdS w v l) (hm:m<=4000000) (hl:l.length<=maxLen) (hs:∀ s ∈ l,s.size<=maxLen) :
  Calls Tryz.prog 16 #[qcV r b v,.int .i64 (m:Int)] w fun en w'=>SzdW (l.length<=4000000) (l.length) m w en w':=by
 have em:maxLen<=9223372036854775807:=by unfold maxLen;omega
 refine (ev_ r b v l m w hr (by omega) (by omega) (fun a ha=>by have:=hs a ha;omega)).mono ?_
 rintro en w' ⟨r,h1,h2,h3⟩
 exact ⟨r,h1,fun h=>by have:=h2 h;exact ⟨by omega,by omega⟩,h3⟩
theorem szwTc (r:Int) (v u:Value) (l:List ByteArray) (n:List Int) (m:Nat) (w:World) (hr:RdS w v l) (hi:RdI w u n) (hm:m<=4000000) (hl:l.length<=maxLen) (hs:∀ s ∈ l,s.size<=maxLen) (hn:n.length<=maxLen) :
  Calls Tryz.prog 17 #[tcV r v u,.int .i64 (m:Int)] w fun en w'=>SzdW (l.length<=4000000/\n.length<=4000000) ((l.length+n.length)) m w en w':=by
 have em:maxLen<=9223372036854775807:=by unfold maxLen;omega
 refine (er_ r v u l n m w hr hi (by omega) (by omega) (fun a ha=>by have:=hs a ha;omega) (by omega)).mono ?_
 rintro en w' ⟨r,h1,h2,h3⟩
 exact ⟨r,h1,fun h=>by have:=h2 h;exact ⟨⟨by omega,by omega⟩,by omega⟩,h3⟩
theorem kk_ (v:Value) (l:List Tr) (m:Nat) (w:World) (hr:RdR w v l) (hm:m<=4000000) (hl:l.length<=maxLen) (hs:∀ a ∈ l,a.2.2.size<=maxLen) :
  Calls Tryz.prog 18 #[v,.int .i64 (m:Int)] w fun en w'=>SzdW (l.length<=4000000/\l.length<=m) (0) m w en w':=by
 have em:maxLen<=9223372036854775807:=by unfold maxLen;omega
 refine (go_ v l m w hr (by omega) (by omega) (fun a ha=>by have:=hs a ha;omega)).mono ?_
 rintro en w' ⟨r,h1,h2,h3⟩
 exact ⟨r,h1,fun h=>by have:=h2 h;exact ⟨⟨by omega,by omega⟩,by omega⟩,h3⟩
theorem ko_ (v:Value) (l:List Tr) (m:Nat) (w:World) (hr:RdR w v l) (hm:m<=4000000) (hl:l.length<=maxLen) (hs:∀ a ∈ l,a.2.2.size<=maxLen) :
  Calls Tryz.prog 19 #[v,.int .i64 (m:Int)] w fun en w'=>SzdW (l.length<=4000000/\l.length<=m) (0) m w en w':=by
 have em:maxLen<=9223372036854775807:=by unfold maxLen;omega
 refine (gu_ v l m w hr (by omega) (by omega) (fun a ha=>by have:=hs a ha;omega)).mono ?_
 rintro en w' ⟨r,h1,h2,h3⟩
 exact ⟨r,h1,fun h=>by have:=h2 h;exact ⟨⟨by omega,by omega⟩,by omega⟩,h3⟩
theorem szwInt (v:Value) (l:List Int) (m:Nat) (w:World) (hr:RdI w v l) (hm:m<=4000000) (hl:l.length<=maxLen) :
  Calls Tryz.prog 20 #[v,.int .i64 (m:Int)] w fun en w'=>SzdW (l.length<=4000000) (l.length) m w en w':=by
 have em:maxLen<=9223372036854775807:=by unfold maxLen;omega
 refine (dg_ v l m w hr (by omega) (by omega)).mono ?_
 rintro en w' ⟨r,h1,h2,h3⟩
 exact ⟨r,h1,fun h=>by have:=h2 h;exact ⟨by omega,by omega⟩,by rw [h3];exact br_ _ _⟩
theorem szwTx (v:Value) (l:List Tx5) (m:Nat) (w:World) (hr:RdT w v l) (hm:m<=4000000) (hl:l.length<=maxLen) (hs:∀ t ∈ l,t.2.1.size<=maxLen/\t.2.2.1.size<=maxLen) :
  Calls Tryz.prog 21 #[v,.int .i64 (m:Int)] w fun en w'=>SzdW (l.length<=4000000) (l.length) m w en w':=by
 have em:maxLen<=9223372036854775807:=by unfold maxLen;omega
 refine (eC_ v l m w hr (by omega) (by omega) (fun a ha=>by have:=hs a ha;omega)).mono ?_
 rintro en w' ⟨r,h1,h2,h3⟩
 exact ⟨r,h1,fun h=>by have:=h2 h;exact ⟨by omega,by omega⟩,h3⟩
theorem ir_ (e:Int) (v:Value) (l:List Ac) (m:Nat) (w:World) (hr:RdA w v l) (hm:m<=4000000) (hl:l.length<=maxLen) (hs:∀ a ∈ l,a.1.size<=maxLen/\a.2.2.2.2.length<=maxLen) :
  Calls Tryz.prog 13 #[lgV e v,.int .i64 (m:Int)] w fun en w'=>SzdW ((l.length<=4000000/\∀ a ∈ l,a.2.2.2.2.length<=4000000)/\l.length+totA l<=m) 0 m w en w':=by
 have em:maxLen<=9223372036854775807:=by unfold maxLen;omega
 refine (fH_ e v l m w hr (by omega) (by omega) (fun a ha=>by have:=hs a ha;omega)).mono ?_
 rintro en w' ⟨r,h1,h2,h3⟩
 exact ⟨r,h1,fun h=>by
  obtain ⟨a,b⟩:=h2 h
  exact ⟨⟨⟨by omega,fun x hx=>by have:=totA_at l x hx;unfold wgA at this;omega⟩,by omega⟩,by omega⟩,h3⟩
end Go.Proofs.YtamljhcmiphdgaaGreatDoor
