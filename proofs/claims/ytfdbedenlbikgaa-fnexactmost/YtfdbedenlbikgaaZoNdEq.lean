/- A node. -/
import Derived.Test.YtfdbedenlbikgaaZoPfEq
set_option maxRecDepth 20000
set_option maxHeartbeats 8000000
namespace Go.Proofs.Ytfdbedenlbikgaa
open Go.RowKit
set_option linter.unusedVariables false
theorem equLedger (e:Int) (v1 v2:Value) (l:List Ac) (w:World) (h1:RdA w v1 l) (h2:RdA w v2 l) (hl:l.length<=4000000) (ha:∀ a ∈ l,a.2.2.2.2.length<=4000000) :
    Calls Try.prog 26 #[lgV e v1,lgV e v2] w fun en w'=>en=.returned (.bool true)/\Below w.heap.size w w':=by
  refine (eqLedger_any e e v1 v2 l l w h1 h2 hl hl ha ha).mono ?_
  rintro en w' ⟨h1,h2⟩
  exact ⟨by simpa using h1,h2⟩
theorem equVal (v1 v2:Value) (l:List Vl) (w:World) (h1:RdV w v1 l) (h2:RdV w v2 l) (hl:l.length<=4000000) :
    Calls Try.prog 71 #[v1,v2] w fun en w'=>en=.returned (.bool true)/\Below w.heap.size w w':=by
  refine (eqValS_any v1 v2 l l w h1 h2 hl hl).mono ?_
  rintro en w' ⟨h1,h2⟩
  exact ⟨by simpa using h1,h2⟩
theorem equVote (v1 v2:Value) (l:List Tr) (w:World) (h1:RdR w v1 l) (h2:RdR w v2 l) (hl:l.length<=4000000) :
    Calls Try.prog 74 #[v1,v2] w fun en w'=>en=.returned (.bool true)/\Below w.heap.size w w':=by
  refine (eqVoteS_any v1 v2 l l w h1 h2 hl hl).mono ?_
  rintro en w' ⟨h1,h2⟩
  exact ⟨by simpa using h1,h2⟩
theorem equGone (v1 v2:Value) (l:List Tr) (w:World) (h1:RdR w v1 l) (h2:RdR w v2 l) (hl:l.length<=4000000) :
    Calls Try.prog 75 #[v1,v2] w fun en w'=>en=.returned (.bool true)/\Below w.heap.size w w':=by
  refine (eqGoneS_any v1 v2 l l w h1 h2 hl hl).mono ?_
  rintro en w' ⟨h1,h2⟩
  exact ⟨by simpa using h1,h2⟩
theorem equInt (v1 v2:Value) (l:List Int) (w:World) (h1:RdI w v1 l) (h2:RdI w v2 l) (hl:l.length<=4000000) :
    Calls Try.prog 76 #[v1,v2] w fun en w'=>en=.returned (.bool true)/\Below w.heap.size w w':=by
  refine (eqIntS_any v1 v2 l l w h1 h2 hl hl).mono ?_
  rintro en w' ⟨h1,h2⟩
  exact ⟨by simpa using h1,h2 _⟩
theorem equString (v1 v2:Value) (l:List ByteArray) (w:World) (h1:RdS w v1 l) (h2:RdS w v2 l) (hl:l.length<=4000000) :
    Calls Try.prog 27 #[v1,v2] w fun en w'=>en=.returned (.bool true)/\Below w.heap.size w w':=by
  refine (eqStringS_any v1 v2 l l w h1 h2 hl hl).mono ?_
  rintro en w' ⟨h1,h2⟩
  exact ⟨by simpa using h1,h2 _⟩
theorem eqNode_same (p:Nd) (u t:Nv) (w:World) (hr:RdNd w p u) (ht:RdNd w p t) (hf:FewNd p) :
    Calls Try.prog 44 #[noV p u,noV p t] w fun e w'=>e=.returned (.bool true)/\Below w.heap.size w w':=by
  have hna:=hf.na
  have hfa:=hf.fa
  have hns:=hf.ns
  have hnt:=hf.nt
  have hft:=hf.ft
  have hnw:=hf.nw
  have hnx:=hf.nx
  have hnh:=hf.nh
  have hnv:=hf.nv
  have hng:=hf.ng
  have hnd:=hf.nd
  have hnp:=hf.np
  have hnq:=hf.nq
  have hfq:=hf.fq
  clear hf
  obtain ⟨nm,ep,be,la,st,tt,rd,vd,hr,hb,hw,tr,tw,th,ld,vo,go,dn,pl,ps⟩:=p
  obtain ⟨ya,ys,yt,yw,yx,yh,yv,yg,yd,yp,yq⟩:=u
  obtain ⟨hya,hys,hyt,hyw,hyx,hyh,hyv,hyg,hyd,hyp,hyq⟩:=hr
  simp only at *
  obtain ⟨ada,cpa,rfl⟩:=hya.shape
  obtain ⟨ads,cps,rfl⟩:=hys.shape
  obtain ⟨adt,cpt,rfl⟩:=hyt.shape
  obtain ⟨adw,cpw,rfl⟩:=hyw.shape
  obtain ⟨adx,cpx,rfl⟩:=hyx.shape
  obtain ⟨adh,cph,rfl⟩:=hyh.shape
  obtain ⟨adv,cpv,rfl⟩:=hyv.shape
  obtain ⟨adg,cpg,rfl⟩:=hyg.shape
  obtain ⟨add,cpd,rfl⟩:=hyd.shape
  obtain ⟨adp,cpp,rfl⟩:=hyp.shape
  obtain ⟨adq,cpq,rfl⟩:=hyq.shape
  obtain ⟨za,zs,zt,zw,zx,zh,zv,zg,zd,zp,zq⟩:=t
  obtain ⟨jya,jys,jyt,jyw,jyx,jyh,jyv,jyg,jyd,jyp,jyq⟩:=ht
  simp only at *
  obtain ⟨bda,bpa,rfl⟩:=jya.shape
  obtain ⟨bds,bps,rfl⟩:=jys.shape
  obtain ⟨bdt,bpt,rfl⟩:=jyt.shape
  obtain ⟨bdw,bpw,rfl⟩:=jyw.shape
  obtain ⟨bdx,bpx,rfl⟩:=jyx.shape
  obtain ⟨bdh,bph,rfl⟩:=jyh.shape
  obtain ⟨bdv,bpv,rfl⟩:=jyv.shape
  obtain ⟨bdg,bpg,rfl⟩:=jyg.shape
  obtain ⟨bdd,bpd,rfl⟩:=jyd.shape
  obtain ⟨bdp,bpp,rfl⟩:=jyp.shape
  obtain ⟨bdq,bpq,rfl⟩:=jyq.shape
  have E1:=hide (fun V (hV:Below w.heap.size w V)=>equLedger be (.slice ada la.length cpa) (.slice bda la.length bpa) la V (hya.below hV (Nat.le_refl _)) (jya.below hV (Nat.le_refl _)) hna hfa)
  have E2:=hide (fun V (hV:Below w.heap.size w V)=>equVal (.slice ads st.length cps) (.slice bds st.length bps) st V (hys.below hV (Nat.le_refl _)) (jys.below hV (Nat.le_refl _)) hns)
  have E3:=hide (fun V (hV:Below w.heap.size w V)=>eqBlockS_any (.slice adt tt.length cpt) (.slice bdt tt.length bpt) tt V (hyt.below hV (Nat.le_refl _)) (jyt.below hV (Nat.le_refl _)) hnt hft)
  have E4:=hide (fun V (hV:Below w.heap.size w V)=>eqQc_any hr hb (.slice adw hw.length cpw) (.slice bdw hw.length bpw) hw V (hyw.below hV (Nat.le_refl _)) (jyw.below hV (Nat.le_refl _)) hnw)
  have E5:=hide (fun V (hV:Below w.heap.size w V)=>eqTc_any tr (.slice adx tw.length cpx) (.slice adh th.length cph) (.slice bdx tw.length bpx) (.slice bdh th.length bph) tw th V (hyx.below hV (Nat.le_refl _)) (hyh.below hV (Nat.le_refl _)) (jyx.below hV (Nat.le_refl _)) (jyh.below hV (Nat.le_refl _)) hnx hnh)
  have E6:=hide (fun V (hV:Below w.heap.size w V)=>equVote (.slice adv vo.length cpv) (.slice bdv vo.length bpv) vo V (hyv.below hV (Nat.le_refl _)) (jyv.below hV (Nat.le_refl _)) hnv)
  have E7:=hide (fun V (hV:Below w.heap.size w V)=>equGone (.slice adg go.length cpg) (.slice bdg go.length bpg) go V (hyg.below hV (Nat.le_refl _)) (jyg.below hV (Nat.le_refl _)) hng)
  have E8:=hide (fun V (hV:Below w.heap.size w V)=>equInt (.slice add dn.length cpd) (.slice bdd dn.length bpd) dn V (hyd.below hV (Nat.le_refl _)) (jyd.below hV (Nat.le_refl _)) hnd)
  have E9:=hide (fun V (hV:Below w.heap.size w V)=>eqTxS_any (.slice adp pl.length cpp) (.slice bdp pl.length bpp) pl pl V (hyp.below hV (Nat.le_refl _)) (jyp.below hV (Nat.le_refl _)) hnp hnp rfl)
  have E10:=hide (fun V (hV:Below w.heap.size w V)=>eqProofS_any (.slice adq ps.length cpq) (.slice bdq ps.length bpq) ps V (hyq.below hV (Nat.le_refl _)) (jyq.below hV (Nat.le_refl _)) hnq hfq)
  clear hya hys hyt hyw hyx hyh hyv hyg hyd hyp hyq jya jys jyt jyw jyx jyh jyv jyg jyd jyp jyq
  clear hfa
  clear hft
  clear hfq
  simp only [noV,qcV,tcV,lgV] at *
  obtain ⟨S0,hS0⟩:∃ x,(w.alloc (.cells #[.string nm,.int .i64 ep,.int .i64 be,.slice ada la.length cpa,.slice ads st.length cps,.slice adt tt.length cpt,.int .i64 rd,.int .i64 vd,.int .i64 hr,.int .i64 hb,.slice adw hw.length cpw,.int .i64 tr,.slice adx tw.length cpx,.slice adh th.length cph,.int .i64 ld,.slice adv vo.length cpv,.slice adg go.length cpg,.slice add dn.length cpd,.slice adp pl.length cpp,.slice adq ps.length cpq] 63)).alloc (.cells #[.string nm,.int .i64 ep,.int .i64 be,.slice bda la.length bpa,.slice bds st.length bps,.slice bdt tt.length bpt,.int .i64 rd,.int .i64 vd,.int .i64 hr,.int .i64 hb,.slice bdw hw.length bpw,.int .i64 tr,.slice bdx tw.length bpx,.slice bdh th.length bph,.int .i64 ld,.slice bdv vo.length bpv,.slice bdg go.length bpg,.slice bdd dn.length bpd,.slice bdp pl.length bpp,.slice bdq ps.length bpq] 63)=x:=⟨_,rfl⟩
  have kA0:Blk S0 w.heap.size 63 [.string nm,.int .i64 ep,.int .i64 be,.slice ada la.length cpa,.slice ads st.length cps,.slice adt tt.length cpt,.int .i64 rd,.int .i64 vd,.int .i64 hr,.int .i64 hb,.slice adw hw.length cpw,.int .i64 tr,.slice adx tw.length cpx,.slice adh th.length cph,.int .i64 ld,.slice adv vo.length cpv,.slice adg go.length cpg,.slice add dn.length cpd,.slice adp pl.length cpp,.slice adq ps.length cpq]:=by rw [<- hS0];exact (Blk.new w _ _).below ((Below.refl (w.heap.size+1) _).alloc (by simp) _) (by omega)
  have kB0:Blk S0 (w.heap.size+1) 63 [.string nm,.int .i64 ep,.int .i64 be,.slice bda la.length bpa,.slice bds st.length bps,.slice bdt tt.length bpt,.int .i64 rd,.int .i64 vd,.int .i64 hr,.int .i64 hb,.slice bdw hw.length bpw,.int .i64 tr,.slice bdx tw.length bpx,.slice bdh th.length bph,.int .i64 ld,.slice bdv vo.length bpv,.slice bdg go.length bpg,.slice bdd dn.length bpd,.slice bdp pl.length bpp,.slice bdq ps.length bpq]:=by rw [<- hS0];exact Blk.newR _ _ [.string nm,.int .i64 ep,.int .i64 be,.slice bda la.length bpa,.slice bds st.length bps,.slice bdt tt.length bpt,.int .i64 rd,.int .i64 vd,.int .i64 hr,.int .i64 hb,.slice bdw hw.length bpw,.int .i64 tr,.slice bdx tw.length bpx,.slice bdh th.length bph,.int .i64 ld,.slice bdv vo.length bpv,.slice bdg go.length bpg,.slice bdd dn.length bpd,.slice bdp pl.length bpp,.slice bdq ps.length bpq] _ (by simp)
  have b0:Below w.heap.size w S0:=by rw [<- hS0];exact ((Below.refl _ w).alloc (Nat.le_refl _) _).alloc (by simp) _
  have x0:=kA0.cell 0
  have x1:=kA0.cell 1
  have x2:=kA0.cell 2
  have x3:=kA0.cell 3
  simp only [List.getElem?_cons_zero,List.getElem?_cons_succ] at x0 x1 x2 x3
  have y0:=kB0.cell 0
  have y1:=kB0.cell 1
  have y2:=kB0.cell 2
  have y3:=kB0.cell 3
  simp only [List.getElem?_cons_zero,List.getElem?_cons_succ] at y0 y1 y2 y3
  have KA0:=hide kA0
  have KB0:=hide kB0
  clear kA0 kB0
  go_enter Try.func44,Try.ntmps44
  go_wp2_with fail
  (try rw [hS0])
  clear hS0
  refine (E1.out _ b0).mono ?_
  rintro e w1 ⟨rfl,hb1⟩
  have b1:=b0.trans (hb1.mono b0.size)
  have kA1:=KA0.out.below hb1 KA0.out.lt
  have kB1:=KB0.out.below hb1 KB0.out.lt
  clear x0 x1 x2 x3 y0 y1 y2 y3 KA0 KB0 b0 hb1 E1
  have x4:=kA1.cell 4
  simp only [List.getElem?_cons_zero,List.getElem?_cons_succ] at x4
  have y4:=kB1.cell 4
  simp only [List.getElem?_cons_zero,List.getElem?_cons_succ] at y4
  have KA1:=hide kA1
  have KB1:=hide kB1
  clear kA1 kB1
  go_wp2_with fail
  refine (E2.out _ b1).mono ?_
  rintro e w2 ⟨rfl,hb2⟩
  have b2:=b1.trans (hb2.mono b1.size)
  have kA2:=KA1.out.below hb2 KA1.out.lt
  have kB2:=KB1.out.below hb2 KB1.out.lt
  clear x4 y4 KA1 KB1 b1 hb2 E2
  have x5:=kA2.cell 5
  simp only [List.getElem?_cons_zero,List.getElem?_cons_succ] at x5
  have y5:=kB2.cell 5
  simp only [List.getElem?_cons_zero,List.getElem?_cons_succ] at y5
  have KA2:=hide kA2
  have KB2:=hide kB2
  clear kA2 kB2
  go_wp2_with fail
  refine (E3.out _ b2).mono ?_
  rintro e w3 ⟨rfl,hb3⟩
  have b3:=b2.trans (hb3.mono b2.size)
  have kA3:=KA2.out.below hb3 KA2.out.lt
  have kB3:=KB2.out.below hb3 KB2.out.lt
  clear x5 y5 KA2 KB2 b2 hb3 E3
  have x6:=kA3.cell 6
  have x7:=kA3.cell 7
  have x8:=kA3.cell 8
  have x9:=kA3.cell 9
  have x10:=kA3.cell 10
  simp only [List.getElem?_cons_zero,List.getElem?_cons_succ] at x6 x7 x8 x9 x10
  have y6:=kB3.cell 6
  have y7:=kB3.cell 7
  have y8:=kB3.cell 8
  have y9:=kB3.cell 9
  have y10:=kB3.cell 10
  simp only [List.getElem?_cons_zero,List.getElem?_cons_succ] at y6 y7 y8 y9 y10
  have KA3:=hide kA3
  have KB3:=hide kB3
  clear kA3 kB3
  go_wp2_with fail
  refine (E4.out _ b3).mono ?_
  rintro e w4 ⟨rfl,hb4⟩
  have b4:=b3.trans (hb4.mono b3.size)
  have kA4:=KA3.out.below hb4 KA3.out.lt
  have kB4:=KB3.out.below hb4 KB3.out.lt
  clear x6 x7 x8 x9 x10 y6 y7 y8 y9 y10 KA3 KB3 b3 hb4 E4
  have x11:=kA4.cell 11
  have x12:=kA4.cell 12
  have x13:=kA4.cell 13
  simp only [List.getElem?_cons_zero,List.getElem?_cons_succ] at x11 x12 x13
  have y11:=kB4.cell 11
  have y12:=kB4.cell 12
  have y13:=kB4.cell 13
  simp only [List.getElem?_cons_zero,List.getElem?_cons_succ] at y11 y12 y13
  have KA4:=hide kA4
  have KB4:=hide kB4
  clear kA4 kB4
  go_wp2_with fail
  refine (E5.out _ b4).mono ?_
  rintro e w5 ⟨rfl,hb5⟩
  have b5:=b4.trans (hb5.mono b4.size)
  have kA5:=KA4.out.below hb5 KA4.out.lt
  have kB5:=KB4.out.below hb5 KB4.out.lt
  clear x11 x12 x13 y11 y12 y13 KA4 KB4 b4 hb5 E5
  have x14:=kA5.cell 14
  have x15:=kA5.cell 15
  simp only [List.getElem?_cons_zero,List.getElem?_cons_succ] at x14 x15
  have y14:=kB5.cell 14
  have y15:=kB5.cell 15
  simp only [List.getElem?_cons_zero,List.getElem?_cons_succ] at y14 y15
  have KA5:=hide kA5
  have KB5:=hide kB5
  clear kA5 kB5
  go_wp2_with fail
  refine (E6.out _ b5).mono ?_
  rintro e w6 ⟨rfl,hb6⟩
  have b6:=b5.trans (hb6.mono b5.size)
  have kA6:=KA5.out.below hb6 KA5.out.lt
  have kB6:=KB5.out.below hb6 KB5.out.lt
  clear x14 x15 y14 y15 KA5 KB5 b5 hb6 E6
  have x16:=kA6.cell 16
  simp only [List.getElem?_cons_zero,List.getElem?_cons_succ] at x16
  have y16:=kB6.cell 16
  simp only [List.getElem?_cons_zero,List.getElem?_cons_succ] at y16
  have KA6:=hide kA6
  have KB6:=hide kB6
  clear kA6 kB6
  go_wp2_with fail
  refine (E7.out _ b6).mono ?_
  rintro e w7 ⟨rfl,hb7⟩
  have b7:=b6.trans (hb7.mono b6.size)
  have kA7:=KA6.out.below hb7 KA6.out.lt
  have kB7:=KB6.out.below hb7 KB6.out.lt
  clear x16 y16 KA6 KB6 b6 hb7 E7
  have x17:=kA7.cell 17
  simp only [List.getElem?_cons_zero,List.getElem?_cons_succ] at x17
  have y17:=kB7.cell 17
  simp only [List.getElem?_cons_zero,List.getElem?_cons_succ] at y17
  have KA7:=hide kA7
  have KB7:=hide kB7
  clear kA7 kB7
  go_wp2_with fail
  refine (E8.out _ b7).mono ?_
  rintro e w8 ⟨rfl,hb8⟩
  have b8:=b7.trans (hb8.mono b7.size)
  have kA8:=KA7.out.below hb8 KA7.out.lt
  have kB8:=KB7.out.below hb8 KB7.out.lt
  clear x17 y17 KA7 KB7 b7 hb8 E8
  have x18:=kA8.cell 18
  simp only [List.getElem?_cons_zero,List.getElem?_cons_succ] at x18
  have y18:=kB8.cell 18
  simp only [List.getElem?_cons_zero,List.getElem?_cons_succ] at y18
  have KA8:=hide kA8
  have KB8:=hide kB8
  clear kA8 kB8
  go_wp2_with fail
  refine (E9.out _ b8).mono ?_
  rintro e w9 ⟨rfl,hb9⟩
  have b9:=b8.trans (hb9.mono b8.size)
  have kA9:=KA8.out.below hb9 KA8.out.lt
  have kB9:=KB8.out.below hb9 KB8.out.lt
  clear x18 y18 KA8 KB8 b8 hb9 E9
  have x19:=kA9.cell 19
  simp only [List.getElem?_cons_zero,List.getElem?_cons_succ] at x19
  have y19:=kB9.cell 19
  simp only [List.getElem?_cons_zero,List.getElem?_cons_succ] at y19
  have KA9:=hide kA9
  have KB9:=hide kB9
  clear kA9 kB9
  go_wp2_with fail
  refine (E10.out _ b9).mono ?_
  rintro e w10 ⟨rfl,hb10⟩
  have b10:=b9.trans (hb10.mono b9.size)
  have kA10:=KA9.out.below hb10 KA9.out.lt
  have kB10:=KB9.out.below hb10 KB9.out.lt
  clear x19 y19 KA9 KB9 b9 hb10 E10
  clear kA10 kB10
  go_wp2
  go_ret
  exact ⟨rfl,b10⟩
theorem Try.infoENd:(Try.prog.info? 63).map (·.size)=some 20:=by kernel_rfl
theorem eqNodeS_any (v1 v2:Value) (l:List Nd) (w:World) (hr1:RdNs w v1 l) (hr2:RdNs w v2 l) (hl:l.length<=4000000) (hall:∀ a ∈ l,FewNd a) :
    Calls Try.prog 28 #[v1,v2] w fun e w'=>e=.returned (.bool true)/\Below w.heap.size w w':=by
  obtain ⟨Z1,rfl,hr1⟩:=hr1
  obtain ⟨Z2,hZ,hr2⟩:=hr2
  have hl':Z1.length<=4000000:=by simpa using hl
  have hN2:Z2.length=Z1.length:=by have:=congrArg List.length hZ;simpa using this
  have hel:∀ i (h1:i < Z1.length) (h2:i < Z2.length),Z2[i].1=Z1[i].1:=fun i h1 h2=>by
    have:=List.getElem_of_eq hZ (show i < (Z2.map (·.1)).length by simpa using h2)
    simpa using this
  rcases hr1 with ⟨a,cap,rfl,rfl,-⟩ | ⟨b,off,cap,h0,rfl,h1,h2,h3,h4⟩
  · obtain ⟨a2,cap2,rfl⟩:=hr2.shape
    rw [hN2]
    clear hr2 hel hN2 hZ
    go_enter Try.func28,Try.ntmps28
    go_wp2
    refine wp_loop_rounds 1 ?_
    rw [rounds_succ]
    go_wp2
    go_ret
    exact ⟨rfl,Below.refl _ _⟩
  · rcases hr2 with ⟨a2,cap2,rfl,e0,-⟩ | ⟨b2,off2,cap2,g0,rfl,g1,g2,g3,g4⟩
    · subst e0;exact absurd (List.length_eq_zero_iff.1 hN2.symm) h0
    · obtain ⟨N,hN⟩:∃ N,Z1.length=N:=⟨_,rfl⟩
      rw [hN] at h1 hl' hN2 ⊢
      rw [hN2] at g1 ⊢
      have HN:=hide hN
      have HN2:=hide hN2
      have H4:=hide h4
      have G4:=hide g4
      have HA:=hide hall
      have HE:=hide hel
      have hlen:((N:Int) != (N:Int))=false:=by simp
      clear hN hN2 h4 g4 hall hel hZ hl h0 g0
      go_enter Try.func28,Try.ntmps28
      go_wp2
      go_loopw [5] (fun i wr=>∃ k:Nat,k<=N/\i=.int .i64 k/\Below w.heap.size w wr) (fun i _=>N - (intOf i).toNat)
      case atStart=>exact ⟨0,Nat.zero_le _,rfl,Below.refl _ _⟩
      case round =>
        obtain ⟨k,hk,rfl,hb⟩:=hrel
        by_cases hlt:k < N
        · have hk1:k < Z1.length:=by rw [HN.out];exact hlt
          have hk2:k < Z2.length:=by rw [HN2.out];exact hlt
          have hbD:=hb.drew
          have hS0:(fun W:World=>W.rangeAt b (off+k * 20) (noC Z1[k].1 Z1[k].2)/\W.rangeAt b2 (off2+k * 20) (noC Z2[k].1 Z2[k].2)) wr.drew:=⟨range_below (H4.out k hk1).1 hbD h3,range_below (G4.out k hk2).1 hbD g3⟩
          have HS:Hid (∀ V,Below w.heap.size w V->(V.rangeAt b (off+k * 20) (noC Z1[k].1 Z1[k].2)/\V.rangeAt b2 (off2+k * 20) (noC Z2[k].1 Z2[k].2))):=hide (fun V hV=>⟨range_below (H4.out k hk1).1 hV h3,range_below (G4.out k hk2).1 hV g3⟩)
          have HT:=hide (eqNode_same Z1[k].1 Z1[k].2 Z2[k].2 wr.drew ((H4.out k hk1).2.below hbD (Nat.le_refl _)) (by rw [<- HE.out k hk1 hk2];exact (G4.out k hk2).2.below hbD (Nat.le_refl _)) (HA.out _ (List.mem_map.2 ⟨_,List.getElem_mem hk1,rfl⟩)))
          rw [HE.out k hk1 hk2] at hS0 HS
          rw [show noV Z1[k].1 Z1[k].2=.agg (noC Z1[k].1 Z1[k].2).toArray from rfl,show noV Z1[k].1 Z2[k].2=.agg (noC Z1[k].1 Z2[k].2).toArray from rfl] at HT
          have Hi1:=hide (show (Try.prog.info? 63).map (·.size)=some (noC Z1[k].1 Z1[k].2).length from Try.infoENd)
          have Hi2:=hide (show (Try.prog.info? 63).map (·.size)=some (noC Z1[k].1 Z2[k].2).length from Try.infoENd)
          have hli:(k:Int) < (N:Int):=by omega
          have hk0:(0:Int)<=(k:Int):=by omega
          have HB:=hide hb
          have HBD:=hide hbD
          clear hb hbD
          generalize noC Z1[k].1 Z1[k].2=cs at hS0 HS HT Hi1
          generalize noC Z1[k].1 Z2[k].2=ds at hS0 HS HT Hi2
          go_wp2
          refine wp_region_held_drew (S:=fun W=>W.rangeAt b (off+k * 20) cs/\W.rangeAt b2 (off2+k * 20) ds) (by kernel_rfl) hS0 (fun hHeld=>?_)
          refine wpAnyH_take (i:=0) (v:=.slice (some ⟨b,off,none⟩) N cap) rfl (by kernel_rfl) (by kernel_rfl) (by kernel_rfl) (fun _ _ _ h=>h) (Or.inl ⟨by rfl,fun W hW=>by go_simp⟩) (by assumption) ?_
          change wpAnyH Try.prog _ _ _ _ _ _ (Act.put _ (some 17) _) _
          simp only [Act.put,List.setIfInBounds_toArray,List.set_cons_zero,List.set_cons_succ]
          refine wpAnyH_take (i:=1) (v:=.int .i64 (k:Int)) rfl (by kernel_rfl) (by kernel_rfl) (by kernel_rfl) (fun _ _ _ h=>h) (Or.inl ⟨by rfl,fun W hW=>by go_simp⟩) (by assumption) ?_
          change wpAnyH Try.prog _ _ _ _ _ _ (Act.put _ (some 18) _) _
          simp only [Act.put,List.setIfInBounds_toArray,List.set_cons_zero,List.set_cons_succ]
          refine wpAnyH_take (i:=2) (v:=.pointer (some ⟨b,off+k * 20,none⟩)) rfl (by kernel_rfl) (by kernel_rfl) (by kernel_rfl) (fun _ _ _ h=>h) (Or.inl ⟨by rfl,fun W hW=>by go_simp⟩) (by assumption) ?_
          change wpAnyH Try.prog _ _ _ _ _ _ (Act.put _ (some 19) _) _
          simp only [Act.put,List.setIfInBounds_toArray,List.set_cons_zero,List.set_cons_succ]
          refine wpAnyH_take (i:=3) (v:=.agg cs.toArray) rfl (by kernel_rfl) (by kernel_rfl) (by kernel_rfl) (fun _ _ _ h=>h) (yieldsIf_load_mid (by rfl) 63 _ rfl b (off+k * 20) rfl cs _ (fun W hW=>hW.1) Try.underlying63 rfl Hi1.out) (by assumption) ?_
          change wpAnyH Try.prog _ _ _ _ _ _ (Act.put _ (some 20) _) _
          simp only [Act.put,List.setIfInBounds_toArray,List.set_cons_zero,List.set_cons_succ]
          refine wpAnyH_take (i:=4) (v:=.slice (some ⟨b2,off2,none⟩) N cap2) rfl (by kernel_rfl) (by kernel_rfl) (by kernel_rfl) (fun _ _ _ h=>h) (Or.inl ⟨by rfl,fun W hW=>by go_simp⟩) (by assumption) ?_
          change wpAnyH Try.prog _ _ _ _ _ _ (Act.put _ (some 21) _) _
          simp only [Act.put,List.setIfInBounds_toArray,List.set_cons_zero,List.set_cons_succ]
          refine wpAnyH_take (i:=5) (v:=.int .i64 (k:Int)) rfl (by kernel_rfl) (by kernel_rfl) (by kernel_rfl) (fun _ _ _ h=>h) (Or.inl ⟨by rfl,fun W hW=>by go_simp⟩) (by assumption) ?_
          change wpAnyH Try.prog _ _ _ _ _ _ (Act.put _ (some 22) _) _
          simp only [Act.put,List.setIfInBounds_toArray,List.set_cons_zero,List.set_cons_succ]
          refine wpAnyH_take (i:=6) (v:=.pointer (some ⟨b2,off2+k * 20,none⟩)) rfl (by kernel_rfl) (by kernel_rfl) (by kernel_rfl) (fun _ _ _ h=>h) (Or.inl ⟨by rfl,fun W hW=>by go_simp⟩) (by assumption) ?_
          change wpAnyH Try.prog _ _ _ _ _ _ (Act.put _ (some 23) _) _
          simp only [Act.put,List.setIfInBounds_toArray,List.set_cons_zero,List.set_cons_succ]
          refine wpAnyH_take (i:=7) (v:=.agg ds.toArray) rfl (by kernel_rfl) (by kernel_rfl) (by kernel_rfl) (fun _ _ _ h=>h) (yieldsIf_load_mid (by rfl) 63 _ rfl b2 (off2+k * 20) rfl ds _ (fun W hW=>hW.2) Try.underlying63 rfl Hi2.out) (by assumption) ?_
          change wpAnyH Try.prog _ _ _ _ _ _ (Act.put _ (some 24) _) _
          simp only [Act.put,List.setIfInBounds_toArray,List.set_cons_zero,List.set_cons_succ]
          refine wpAnyH_ready (rs:=[8]) (by kernel_rfl) (by simp) ?_
          refine AllReadyH.cons rfl (fun K hK=>?_) AllReadyH.nil
          go_simp
          go_wp2_with (go_at_call 44;(with_reducible refine HT.out.mono ?_);rintro e w2 ⟨rfl,hb2⟩;have hB2:=HBD.out.trans (hb2.mono HBD.out.size);have hS2:=HS.out _ hB2)
          refine hK.out _ _ hS2 (fun hHeld=>?_)
          try simp only [Act.put,List.setIfInBounds_toArray,List.set_cons_zero,List.set_cons_succ]
          refine wpAnyH_take (i:=9) (v:=.bool false) rfl (by kernel_rfl) (by kernel_rfl) (by kernel_rfl) (fun _ _ _ h=>h) (Or.inl ⟨by rfl,fun W hW=>by go_simp⟩) (by assumption) ?_
          change wpAnyH Try.prog _ _ _ _ _ _ (Act.put _ (some 26) _) _
          simp only [Act.put,List.setIfInBounds_toArray,List.set_cons_zero,List.set_cons_succ]
          refine wpAnyH_done (by kernel_rfl) ?_ _
          clear hS0 hS2 hb2
          go_wp2
          go_roundw
          case rel=>exact ⟨k+1,by omega,by go_num,hB2⟩
          case measure=>simp [intOf];omega
        · go_wp2
          go_ret
          exact ⟨rfl,hb⟩
end Go.Proofs.Ytfdbedenlbikgaa
