/- Rows of structs, half way through a change. -/
import Derived.Test.YtaidhenkijjcfaaGreatZrEqU
set_option maxRecDepth 20000
set_option maxHeartbeats 8000000
namespace Go.Proofs.YtaidhenkijjcfaaGreat
open Go.RowKit
set_option linter.unusedVariables false
theorem eqNode_same (p:Nd) (u t:Nv) (w:World) (hr:RdNd w p u) (ht:RdNd w p t) (hf:FewNd p) :
    Calls Tryz.prog 21 #[noV p u,noV p t] w fun e w'=>e=.returned (.bool true)/\Below w.heap.size w w':=by
  have hna:=hf.na
  have hfa:=hf.fa
  have hns:=hf.ns
  have hnt:=hf.nt
  have hft:=hf.ft
  have hnw:=hf.nw
  have hnx:=hf.nx
  have hnh:=hf.nh
  have hnv:=hf.nv
  have hng:=hf.ng
  have hnd:=hf.nd
  have hnp:=hf.np
  have hnq:=hf.nq
  have hfq:=hf.fq
  clear hf
  obtain ⟨nm,ep,be,la,st,tt,rd,vd,hr,hb,hw,tr,tw,th,ld,vo,go,dn,pl,ps⟩:=p
  obtain ⟨ya,ys,yt,yw,yx,yh,yv,yg,yd,yp,yq⟩:=u
  obtain ⟨hya,hys,hyt,hyw,hyx,hyh,hyv,hyg,hyd,hyp,hyq⟩:=hr
  simp only at *
  obtain ⟨ada,cpa,rfl⟩:=hya.shape
  obtain ⟨ads,cps,rfl⟩:=hys.shape
  obtain ⟨adt,cpt,rfl⟩:=hyt.shape
  obtain ⟨adw,cpw,rfl⟩:=hyw.shape
  obtain ⟨adx,cpx,rfl⟩:=hyx.shape
  obtain ⟨adh,cph,rfl⟩:=hyh.shape
  obtain ⟨adv,cpv,rfl⟩:=hyv.shape
  obtain ⟨adg,cpg,rfl⟩:=hyg.shape
  obtain ⟨add,cpd,rfl⟩:=hyd.shape
  obtain ⟨adp,cpp,rfl⟩:=hyp.shape
  obtain ⟨adq,cpq,rfl⟩:=hyq.shape
  obtain ⟨za,zs,zt,zw,zx,zh,zv,zg,zd,zp,zq⟩:=t
  obtain ⟨jya,jys,jyt,jyw,jyx,jyh,jyv,jyg,jyd,jyp,jyq⟩:=ht
  simp only at *
  obtain ⟨bda,bpa,rfl⟩:=jya.shape
  obtain ⟨bds,bps,rfl⟩:=jys.shape
  obtain ⟨bdt,bpt,rfl⟩:=jyt.shape
  obtain ⟨bdw,bpw,rfl⟩:=jyw.shape
  obtain ⟨bdx,bpx,rfl⟩:=jyx.shape
  obtain ⟨bdh,bph,rfl⟩:=jyh.shape
  obtain ⟨bdv,bpv,rfl⟩:=jyv.shape
  obtain ⟨bdg,bpg,rfl⟩:=jyg.shape
  obtain ⟨bdd,bpd,rfl⟩:=jyd.shape
  obtain ⟨bdp,bpp,rfl⟩:=jyp.shape
  obtain ⟨bdq,bpq,rfl⟩:=jyq.shape
  have E1:=hide (fun V (hV:Below w.heap.size w V)=>equLedger be (.slice ada la.length cpa) (.slice bda la.length bpa) la V (hya.below hV (Nat.le_refl _)) (jya.below hV (Nat.le_refl _)) hna hfa)
  have E2:=hide (fun V (hV:Below w.heap.size w V)=>equVal (.slice ads st.length cps) (.slice bds st.length bps) st V (hys.below hV (Nat.le_refl _)) (jys.below hV (Nat.le_refl _)) hns)
  have E3:=hide (fun V (hV:Below w.heap.size w V)=>eqBlockS_any (.slice adt tt.length cpt) (.slice bdt tt.length bpt) tt V (hyt.below hV (Nat.le_refl _)) (jyt.below hV (Nat.le_refl _)) hnt hft)
  have E4:=hide (fun V (hV:Below w.heap.size w V)=>eqQc_any hr hb (.slice adw hw.length cpw) (.slice bdw hw.length bpw) hw V (hyw.below hV (Nat.le_refl _)) (jyw.below hV (Nat.le_refl _)) hnw)
  have E5:=hide (fun V (hV:Below w.heap.size w V)=>eqTc_any tr (.slice adx tw.length cpx) (.slice adh th.length cph) (.slice bdx tw.length bpx) (.slice bdh th.length bph) tw th V (hyx.below hV (Nat.le_refl _)) (hyh.below hV (Nat.le_refl _)) (jyx.below hV (Nat.le_refl _)) (jyh.below hV (Nat.le_refl _)) hnx hnh)
  have E6:=hide (fun V (hV:Below w.heap.size w V)=>equVote (.slice adv vo.length cpv) (.slice bdv vo.length bpv) vo V (hyv.below hV (Nat.le_refl _)) (jyv.below hV (Nat.le_refl _)) hnv)
  have E7:=hide (fun V (hV:Below w.heap.size w V)=>equGone (.slice adg go.length cpg) (.slice bdg go.length bpg) go V (hyg.below hV (Nat.le_refl _)) (jyg.below hV (Nat.le_refl _)) hng)
  have E8:=hide (fun V (hV:Below w.heap.size w V)=>equInt (.slice add dn.length cpd) (.slice bdd dn.length bpd) dn V (hyd.below hV (Nat.le_refl _)) (jyd.below hV (Nat.le_refl _)) hnd)
  have E9:=hide (fun V (hV:Below w.heap.size w V)=>eqTxS_any (.slice adp pl.length cpp) (.slice bdp pl.length bpp) pl pl V (hyp.below hV (Nat.le_refl _)) (jyp.below hV (Nat.le_refl _)) hnp hnp rfl)
  have E10:=hide (fun V (hV:Below w.heap.size w V)=>eqProofS_any (.slice adq ps.length cpq) (.slice bdq ps.length bpq) ps V (hyq.below hV (Nat.le_refl _)) (jyq.below hV (Nat.le_refl _)) hnq hfq)
  clear hya hys hyt hyw hyx hyh hyv hyg hyd hyp hyq jya jys jyt jyw jyx jyh jyv jyg jyd jyp jyq
  clear hfa
  clear hft
  clear hfq
  simp only [noV,qcV,tcV,lgV] at *
  obtain ⟨S0,hS0⟩:∃ x,(w.alloc (.cells #[.string nm,.int .i64 ep,.int .i64 be,.slice ada la.length cpa,.slice ads st.length cps,.slice adt tt.length cpt,.int .i64 rd,.int .i64 vd,.int .i64 hr,.int .i64 hb,.slice adw hw.length cpw,.int .i64 tr,.slice adx tw.length cpx,.slice adh th.length cph,.int .i64 ld,.slice adv vo.length cpv,.slice adg go.length cpg,.slice add dn.length cpd,.slice adp pl.length cpp,.slice adq ps.length cpq] 73)).alloc (.cells #[.string nm,.int .i64 ep,.int .i64 be,.slice bda la.length bpa,.slice bds st.length bps,.slice bdt tt.length bpt,.int .i64 rd,.int .i64 vd,.int .i64 hr,.int .i64 hb,.slice bdw hw.length bpw,.int .i64 tr,.slice bdx tw.length bpx,.slice bdh th.length bph,.int .i64 ld,.slice bdv vo.length bpv,.slice bdg go.length bpg,.slice bdd dn.length bpd,.slice bdp pl.length bpp,.slice bdq ps.length bpq] 73)=x:=⟨_,rfl⟩
  have kA0:Blk S0 w.heap.size 73 [.string nm,.int .i64 ep,.int .i64 be,.slice ada la.length cpa,.slice ads st.length cps,.slice adt tt.length cpt,.int .i64 rd,.int .i64 vd,.int .i64 hr,.int .i64 hb,.slice adw hw.length cpw,.int .i64 tr,.slice adx tw.length cpx,.slice adh th.length cph,.int .i64 ld,.slice adv vo.length cpv,.slice adg go.length cpg,.slice add dn.length cpd,.slice adp pl.length cpp,.slice adq ps.length cpq]:=by rw [<- hS0];exact (Blk.new w _ _).below ((Below.refl (w.heap.size+1) _).alloc (by simp) _) (by omega)
  have kB0:Blk S0 (w.heap.size+1) 73 [.string nm,.int .i64 ep,.int .i64 be,.slice bda la.length bpa,.slice bds st.length bps,.slice bdt tt.length bpt,.int .i64 rd,.int .i64 vd,.int .i64 hr,.int .i64 hb,.slice bdw hw.length bpw,.int .i64 tr,.slice bdx tw.length bpx,.slice bdh th.length bph,.int .i64 ld,.slice bdv vo.length bpv,.slice bdg go.length bpg,.slice bdd dn.length bpd,.slice bdp pl.length bpp,.slice bdq ps.length bpq]:=by rw [<- hS0];exact Blk.newR _ _ [.string nm,.int .i64 ep,.int .i64 be,.slice bda la.length bpa,.slice bds st.length bps,.slice bdt tt.length bpt,.int .i64 rd,.int .i64 vd,.int .i64 hr,.int .i64 hb,.slice bdw hw.length bpw,.int .i64 tr,.slice bdx tw.length bpx,.slice bdh th.length bph,.int .i64 ld,.slice bdv vo.length bpv,.slice bdg go.length bpg,.slice bdd dn.length bpd,.slice bdp pl.length bpp,.slice bdq ps.length bpq] _ (by simp)
  have b0:Below w.heap.size w S0:=by rw [<- hS0];exact ((Below.refl _ w).alloc (Nat.le_refl _) _).alloc (by simp) _
  have x0:=kA0.cell 0
  have x1:=kA0.cell 1
  have x2:=kA0.cell 2
  have x3:=kA0.cell 3
  simp only [List.getElem?_cons_zero,List.getElem?_cons_succ] at x0 x1 x2 x3
  have y0:=kB0.cell 0
  have y1:=kB0.cell 1
  have y2:=kB0.cell 2
  have y3:=kB0.cell 3
  simp only [List.getElem?_cons_zero,List.getElem?_cons_succ] at y0 y1 y2 y3
  have KA0:=hide kA0
  have KB0:=hide kB0
  clear kA0 kB0
  go_enter Tryz.func21,Tryz.ntmps21
  go_wp2_with fail
  (try rw [hS0])
  clear hS0
  refine (E1.out _ b0).mono ?_
  rintro e w1 ⟨rfl,hb1⟩
  have b1:=b0.trans (hb1.mono b0.size)
  have kA1:=KA0.out.below hb1 KA0.out.lt
  have kB1:=KB0.out.below hb1 KB0.out.lt
  clear x0 x1 x2 x3 y0 y1 y2 y3 KA0 KB0 b0 hb1 E1
  have x4:=kA1.cell 4
  simp only [List.getElem?_cons_zero,List.getElem?_cons_succ] at x4
  have y4:=kB1.cell 4
  simp only [List.getElem?_cons_zero,List.getElem?_cons_succ] at y4
  have KA1:=hide kA1
  have KB1:=hide kB1
  clear kA1 kB1
  go_wp2_with fail
  refine (E2.out _ b1).mono ?_
  rintro e w2 ⟨rfl,hb2⟩
  have b2:=b1.trans (hb2.mono b1.size)
  have kA2:=KA1.out.below hb2 KA1.out.lt
  have kB2:=KB1.out.below hb2 KB1.out.lt
  clear x4 y4 KA1 KB1 b1 hb2 E2
  have x5:=kA2.cell 5
  simp only [List.getElem?_cons_zero,List.getElem?_cons_succ] at x5
  have y5:=kB2.cell 5
  simp only [List.getElem?_cons_zero,List.getElem?_cons_succ] at y5
  have KA2:=hide kA2
  have KB2:=hide kB2
  clear kA2 kB2
  go_wp2_with fail
  refine (E3.out _ b2).mono ?_
  rintro e w3 ⟨rfl,hb3⟩
  have b3:=b2.trans (hb3.mono b2.size)
  have kA3:=KA2.out.below hb3 KA2.out.lt
  have kB3:=KB2.out.below hb3 KB2.out.lt
  clear x5 y5 KA2 KB2 b2 hb3 E3
  have x6:=kA3.cell 6
  have x7:=kA3.cell 7
  have x8:=kA3.cell 8
  have x9:=kA3.cell 9
  have x10:=kA3.cell 10
  simp only [List.getElem?_cons_zero,List.getElem?_cons_succ] at x6 x7 x8 x9 x10
  have y6:=kB3.cell 6
  have y7:=kB3.cell 7
  have y8:=kB3.cell 8
  have y9:=kB3.cell 9
  have y10:=kB3.cell 10
  simp only [List.getElem?_cons_zero,List.getElem?_cons_succ] at y6 y7 y8 y9 y10
  have KA3:=hide kA3
  have KB3:=hide kB3
  clear kA3 kB3
  go_wp2_with fail
  refine (E4.out _ b3).mono ?_
  rintro e w4 ⟨rfl,hb4⟩
  have b4:=b3.trans (hb4.mono b3.size)
  have kA4:=KA3.out.below hb4 KA3.out.lt
  have kB4:=KB3.out.below hb4 KB3.out.lt
  clear x6 x7 x8 x9 x10 y6 y7 y8 y9 y10 KA3 KB3 b3 hb4 E4
  have x11:=kA4.cell 11
  have x12:=kA4.cell 12
  have x13:=kA4.cell 13
  simp only [List.getElem?_cons_zero,List.getElem?_cons_succ] at x11 x12 x13
  have y11:=kB4.cell 11
  have y12:=kB4.cell 12
  have y13:=kB4.cell 13
  simp only [List.getElem?_cons_zero,List.getElem?_cons_succ] at y11 y12 y13
  have KA4:=hide kA4
  have KB4:=hide kB4
  clear kA4 kB4
  go_wp2_with fail
  refine (E5.out _ b4).mono ?_
  rintro e w5 ⟨rfl,hb5⟩
  have b5:=b4.trans (hb5.mono b4.size)
  have kA5:=KA4.out.below hb5 KA4.out.lt
  have kB5:=KB4.out.below hb5 KB4.out.lt
  clear x11 x12 x13 y11 y12 y13 KA4 KB4 b4 hb5 E5
  have x14:=kA5.cell 14
  have x15:=kA5.cell 15
  simp only [List.getElem?_cons_zero,List.getElem?_cons_succ] at x14 x15
  have y14:=kB5.cell 14
  have y15:=kB5.cell 15
  simp only [List.getElem?_cons_zero,List.getElem?_cons_succ] at y14 y15
  have KA5:=hide kA5
  have KB5:=hide kB5
  clear kA5 kB5
  go_wp2_with fail
  refine (E6.out _ b5).mono ?_
  rintro e w6 ⟨rfl,hb6⟩
  have b6:=b5.trans (hb6.mono b5.size)
  have kA6:=KA5.out.below hb6 KA5.out.lt
  have kB6:=KB5.out.below hb6 KB5.out.lt
  clear x14 x15 y14 y15 KA5 KB5 b5 hb6 E6
  have x16:=kA6.cell 16
  simp only [List.getElem?_cons_zero,List.getElem?_cons_succ] at x16
  have y16:=kB6.cell 16
  simp only [List.getElem?_cons_zero,List.getElem?_cons_succ] at y16
  have KA6:=hide kA6
  have KB6:=hide kB6
  clear kA6 kB6
  go_wp2_with fail
  refine (E7.out _ b6).mono ?_
  rintro e w7 ⟨rfl,hb7⟩
  have b7:=b6.trans (hb7.mono b6.size)
  have kA7:=KA6.out.below hb7 KA6.out.lt
  have kB7:=KB6.out.below hb7 KB6.out.lt
  clear x16 y16 KA6 KB6 b6 hb7 E7
  have x17:=kA7.cell 17
  simp only [List.getElem?_cons_zero,List.getElem?_cons_succ] at x17
  have y17:=kB7.cell 17
  simp only [List.getElem?_cons_zero,List.getElem?_cons_succ] at y17
  have KA7:=hide kA7
  have KB7:=hide kB7
  clear kA7 kB7
  go_wp2_with fail
  refine (E8.out _ b7).mono ?_
  rintro e w8 ⟨rfl,hb8⟩
  have b8:=b7.trans (hb8.mono b7.size)
  have kA8:=KA7.out.below hb8 KA7.out.lt
  have kB8:=KB7.out.below hb8 KB7.out.lt
  clear x17 y17 KA7 KB7 b7 hb8 E8
  have x18:=kA8.cell 18
  simp only [List.getElem?_cons_zero,List.getElem?_cons_succ] at x18
  have y18:=kB8.cell 18
  simp only [List.getElem?_cons_zero,List.getElem?_cons_succ] at y18
  have KA8:=hide kA8
  have KB8:=hide kB8
  clear kA8 kB8
  go_wp2_with fail
  refine (E9.out _ b8).mono ?_
  rintro e w9 ⟨rfl,hb9⟩
  have b9:=b8.trans (hb9.mono b8.size)
  have kA9:=KA8.out.below hb9 KA8.out.lt
  have kB9:=KB8.out.below hb9 KB8.out.lt
  clear x18 y18 KA8 KB8 b8 hb9 E9
  have x19:=kA9.cell 19
  simp only [List.getElem?_cons_zero,List.getElem?_cons_succ] at x19
  have y19:=kB9.cell 19
  simp only [List.getElem?_cons_zero,List.getElem?_cons_succ] at y19
  have KA9:=hide kA9
  have KB9:=hide kB9
  clear kA9 kB9
  go_wp2_with fail
  refine (E10.out _ b9).mono ?_
  rintro e w10 ⟨rfl,hb10⟩
  have b10:=b9.trans (hb10.mono b9.size)
  have kA10:=KA9.out.below hb10 KA9.out.lt
  have kB10:=KB9.out.below hb10 KB9.out.lt
  clear x19 y19 KA9 KB9 b9 hb10 E10
  clear kA10 kB10
  go_wp2
  go_ret
  exact ⟨rfl,b10⟩
section
variable {α:Type}
structure MidR (T:TypeId) (sz:Nat) (O:Nat->Nat->World->α->Prop) (lo hi:Nat) (w:World) (g n cap:Nat) (Y:List Value) (Z:List α):Prop where
  row:w.ownsRow lo T sz (.slice (some ⟨g,0,none⟩) n cap) n Y
  top:g < hi
  parts:Parts O lo hi (some g) w Z
theorem MidR.at {T:TypeId} {sz lo hi:Nat} {O:Nat->Nat->World->α->Prop} {w:World} {g n cap:Nat} {Y:List Value} {Z:List α} (h:MidR T sz O lo hi w g n cap Y Z) (hO:∀ a b q (w w':World),Kept a b w w'->O a b w q->O a b w' q) {j:Nat} (hj:j < Z.length) :
    ∃ a b,lo<=a/\a<=b/\b<=hi/\¬ (a<=g/\g < b)/\O a b w Z[j]/\∀ (w':World) (Y':List Value) (q:α),w'.ownsRow lo T sz (.slice (some ⟨g,0,none⟩) n cap) n Y'->Oth (fun x=>x=g\/a<=x/\x < b) w w'->O a b w' q->MidR T sz O lo hi w' g n cap Y' (Z.set j q):=by
  obtain ⟨c,d,h1,h2⟩:=h.parts
  obtain ⟨a1,a2,a3,a4,a5⟩:=h1 j hj
  refine ⟨c j,d j,a1,a2,a3,a4 g rfl,a5,fun w' Y' q hr ho hq=>⟨hr,h.top,c,d,fun i hi=>?_,fun i k hik hk=>h2 i k hik (by simpa using hk)⟩⟩
  have hi':i < Z.length:=by simpa using hi
  obtain ⟨e1,e2,e3,e4,e5⟩:=h1 i hi'
  refine ⟨e1,e2,e3,e4,?_⟩
  by_cases e:i=j
  · subst e
    rw [List.getElem_set_self]
    exact hq
  · rw [List.getElem_set_ne (fun x=>e x.symm)]
    refine hO _ _ _ _ _ (Kept.of_oth ho (fun k k1 k2 k3=>?_)) e5
    rcases k3 with rfl | ⟨k3,k4⟩
    · exact e4 k rfl ⟨k1,k2⟩
    · rcases Nat.lt_or_gt_of_ne e with l | l
      · have:=h2 i j l hj;omega
      · have:=h2 j i l hi';omega
theorem MidR.of {T:TypeId} {sz lo hi:Nat} {C:α->List Value} {O:Nat->Nat->World->α->Prop} {w:World} {g cap:Nat} {Z:List α} (h:OwnRow T sz C O lo hi w (.slice (some ⟨g,0,none⟩) Z.length cap) Z):MidR T sz O lo hi w g Z.length cap (Z.map C).flatten Z:=⟨h.1,h.2.1 g rfl,h.2.2⟩
theorem MidR.to {T:TypeId} {sz lo hi:Nat} {C:α->List Value} {O:Nat->Nat->World->α->Prop} {w:World} {g n cap:Nat} {Z:List α} (h:MidR T sz O lo hi w g n cap (Z.map C).flatten Z) (hn:n=Z.length):OwnRow T sz C O lo hi w (.slice (some ⟨g,0,none⟩) Z.length cap) Z:=by
  subst hn
  exact ⟨h.row,fun k e=>by cases e;exact h.top,h.parts⟩
theorem MidR.oth {T:TypeId} {sz lo hi:Nat} {O:Nat->Nat->World->α->Prop} {w:World} {g n cap:Nat} {Y:List Value} {Z:List α} (h:MidR T sz O lo hi w g n cap Y Z):lo<=g/\g < hi:=⟨(World.ownsRow.lt h.row g rfl).1,h.top⟩
theorem row_stepN {base g n cap sz:Nat} {w:World} {T:TypeId} {Y:List Value} (h:w.ownsRow base T sz (.slice (some ⟨g,0,none⟩) n cap) n Y) (i:Nat) (hi:i < Y.length) :
    w.cell? ⟨g,i,none⟩=some Y[i]/\w.frozen? ⟨g,i,none⟩=false/\∀ u,(w.setCell ⟨g,i,none⟩ u).ownsRow base T sz (.slice (some ⟨g,0,none⟩) n cap) n (Y.set i u) :=
  ⟨by rw [h.cellAt i (by have:=h.1;omega)];exact List.getElem?_eq_getElem hi,h.frozenAt i,fun u=>(h.stored i u).1⟩
end
structure RowSt (lo:Nat) (T:TypeId) (sz:Nat) (S:Nat->Prop) (w W:World) (g n cap:Nat) (Y:List Value):Prop where
  row:W.ownsRow lo T sz (.slice (some ⟨g,0,none⟩) n cap) n Y
  oth:Oth S w W
theorem RowSt.set {lo sz g n cap:Nat} {T:TypeId} {S:Nat->Prop} {w W:World} {Y:List Value} (h:RowSt lo T sz S w W g n cap Y) (hS:S g) (p:Nat) (u:Value):RowSt lo T sz S w (W.setCell ⟨g,p,none⟩ u) g n cap (Y.set p u):=⟨(h.row.stored p u).1,h.oth.set hS p u⟩
theorem RowSt.by_ {lo sz g n cap:Nat} {T:TypeId} {S Q:Nat->Prop} {w W W':World} {Y:List Value} (h:RowSt lo T sz S w W g n cap Y) (hb:Oth Q W W') (hg:¬ Q g) (hQ:∀ x,Q x->S x):RowSt lo T sz S w W' g n cap Y:=⟨row_oth h.row hb (fun k e=>by cases e;exact hg),h.oth.trans (hb.mono hQ)⟩
theorem RowSt.at {lo sz g n cap:Nat} {T:TypeId} {S:Nat->Prop} {w W:World} {Y:List Value} (h:RowSt lo T sz S w W g n cap Y) (i:Nat) (hi:i < Y.length):(∃ y,W.cell? ⟨g,i,none⟩=some y)/\W.frozen? ⟨g,i,none⟩=false/\W.cell? ⟨g,i,none⟩=Y[i]?:=by
  have a:=row_stepN h.row i hi
  exact ⟨⟨_,a.1⟩,a.2.1,by rw [a.1];exact (List.getElem?_eq_getElem hi).symm⟩
section
variable {α:Type}
def nxG (nx:Nat->α->Nat):Nat->List α->Nat
  | k,[]=>k
  | k,a :: t=>nxG nx (nx k a) t
def mkG (mk:Nat->α->α) (nx:Nat->α->Nat):Nat->List α->List α
  | _,[]=>[]
  | k,a :: t=>mk k a :: mkG mk nx (nx k a) t
theorem mkG_len (mk:Nat->α->α) (nx:Nat->α->Nat):∀ (k:Nat) (l:List α),(mkG mk nx k l).length=l.length
  | _,[]=>rfl
  | k,a :: t=>by simp [mkG,mkG_len mk nx _ t]
theorem nxG_snoc (nx:Nat->α->Nat):∀ (k:Nat) (l:List α) (a:α),nxG nx k (l ++ [a])=nx (nxG nx k l) a
  | _,[],_=>rfl
  | k,x :: l,a=>by simp [nxG,nxG_snoc nx (nx k x) l a]
theorem mkG_snoc (mk:Nat->α->α) (nx:Nat->α->Nat):∀ (k:Nat) (l:List α) (a:α),mkG mk nx k (l ++ [a])=mkG mk nx k l ++ [mk (nxG nx k l) a]
  | _,[],_=>rfl
  | k,x :: l,a=>by simp [mkG,nxG,mkG_snoc mk nx (nx k x) l a]
theorem nxG_take {nx:Nat->α->Nat} {l:List α} {j:Nat} (hj:j < l.length) (k:Nat):nxG nx k (l.take (j+1))=nx (nxG nx k (l.take j)) l[j]:=by
  rw [List.take_succ_eq_append_getElem hj,nxG_snoc]
theorem nxG_ge {nx:Nat->α->Nat} (h:∀ k a,k<=nx k a):∀ (k:Nat) (l:List α),k<=nxG nx k l
  | _,[]=>Nat.le_refl _
  | k,a :: t=>Nat.le_trans (h k a) (nxG_ge h (nx k a) t)
theorem nxG_app (nx:Nat->α->Nat):∀ (k:Nat) (l m:List α),nxG nx k (l ++ m)=nxG nx (nxG nx k l) m
  | _,[],_=>rfl
  | k,x :: l,m=>by simp [nxG,nxG_app nx (nx k x) l m]
theorem nxG_le {nx:Nat->α->Nat} (h:∀ k a,k<=nx k a) (k:Nat) (l:List α) (j:Nat):nxG nx k (l.take j)<=nxG nx k l:=by
  have e:=nxG_app nx k (l.take j) (l.drop j)
  rw [List.take_append_drop] at e
  rw [e]
  exact nxG_ge h _ _
def mixG (mk:Nat->α->α) (nx:Nat->α->Nat) (k:Nat) (Z:List α) (j:Nat):List α:=mkG mk nx k (Z.take j) ++ Z.drop j
theorem mixG_len (mk:Nat->α->α) (nx:Nat->α->Nat) (k:Nat) (Z:List α) (j:Nat) (hj:j<=Z.length):(mixG mk nx k Z j).length=Z.length:=by
  unfold mixG
  rw [List.length_append,mkG_len,List.length_take,List.length_drop]
  omega
theorem mixG_now (mk:Nat->α->α) (nx:Nat->α->Nat) (k:Nat) (Z:List α) (j:Nat) (hj:j < Z.length) (h2:j < (mixG mk nx k Z j).length):(mixG mk nx k Z j)[j]=Z[j]:=by
  rw [<- Option.some_inj,<- List.getElem?_eq_getElem h2]
  unfold mixG
  rw [List.getElem?_append_right (by rw [mkG_len,List.length_take];omega),mkG_len,List.length_take,Nat.min_eq_left (Nat.le_of_lt hj),Nat.sub_self,List.getElem?_drop,Nat.add_zero,List.getElem?_eq_getElem hj]
theorem mixG_next (mk:Nat->α->α) (nx:Nat->α->Nat) (k:Nat) (Z:List α) (j:Nat) (hj:j < Z.length):(mixG mk nx k Z j).set j (mk (nxG nx k (Z.take j)) Z[j])=mixG mk nx k Z (j+1):=by
  unfold mixG
  rw [List.set_append_right _ _ (by rw [mkG_len,List.length_take];omega),mkG_len,List.length_take,Nat.min_eq_left (Nat.le_of_lt hj),Nat.sub_self,List.drop_eq_getElem_cons hj,List.set_cons_zero,List.take_succ_eq_append_getElem hj,mkG_snoc,List.append_assoc]
  rfl
theorem mixG_zero (mk:Nat->α->α) (nx:Nat->α->Nat) (k:Nat) (Z:List α):mixG mk nx k Z 0=Z:=by simp [mixG,mkG]
theorem mixG_all (mk:Nat->α->α) (nx:Nat->α->Nat) (k:Nat) (Z:List α):mixG mk nx k Z Z.length=mkG mk nx k Z:=by simp [mixG]
end
section
variable {α β:Type}
theorem nxG_map (f:α->β) (nx:Nat->β->Nat):∀ (k:Nat) (l:List α),nxG nx k (l.map f)=nxG (fun k a=>nx k (f a)) k l
  | _,[]=>rfl
  | k,a :: t=>by simp [nxG,nxG_map f nx _ t]
theorem mkG_map (f:α->β) (mk:Nat->α->α) (mk':Nat->β->β) (nx:Nat->β->Nat) (h:∀ k a,f (mk k a)=mk' k (f a)):∀ (k:Nat) (l:List α),(mkG mk (fun k a=>nx k (f a)) k l).map f=mkG mk' nx k (l.map f)
  | _,[]=>rfl
  | k,a :: t=>by simp [mkG,h,mkG_map f mk mk' nx h _ t]
end
end Go.Proofs.YtaidhenkijjcfaaGreat
