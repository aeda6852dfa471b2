/- A word (the datum is MgMem's). Its size, as the laws ask. -/
import Derived.Test.YtfdbedenlbikgaaZlPfSz
import Derived.Test.YtfdbedenlbikgaaZlWdTo
set_option maxRecDepth 20000
set_option maxHeartbeats 8000000
namespace Go.Proofs.Ytfdbedenlbikgaa
open Go.RowKit
set_option linter.unusedVariables false
structure FitNd (p:Nd):Prop where
  znm:p.nm.size<=maxLen
  wep:(Lit.int .i64 p.ep).wf=true
  wbe:(Lit.int .i64 p.be).wf=true
  la:p.la.length<=maxLen
  ga:∀ a ∈ p.la,a.1.size<=maxLen/\a.2.2.2.2.length<=maxLen
  ls:p.st.length<=maxLen
  gs:∀ a ∈ p.st,a.1.size<=maxLen
  lt:p.tt.length<=maxLen
  gt:∀ b ∈ p.tt,FitK b
  wrd:(Lit.int .i64 p.rd).wf=true
  wvd:(Lit.int .i64 p.vd).wf=true
  whr:(Lit.int .i64 p.hr).wf=true
  whb:(Lit.int .i64 p.hb).wf=true
  lw:p.hw.length<=maxLen
  gw:∀ a ∈ p.hw,a.size<=maxLen
  wtr:(Lit.int .i64 p.tr).wf=true
  lx:p.tw.length<=maxLen
  gx:∀ a ∈ p.tw,a.size<=maxLen
  lh:p.th.length<=maxLen
  wld:(Lit.int .i64 p.ld).wf=true
  lv:p.vo.length<=maxLen
  gv:∀ a ∈ p.vo,a.2.2.size<=maxLen
  lg:p.go.length<=maxLen
  gg:∀ a ∈ p.go,a.2.2.size<=maxLen
  ld:p.dn.length<=maxLen
  lp:p.pl.length<=maxLen
  gp:∀ a ∈ p.pl,a.2.1.size<=maxLen/\a.2.2.1.size<=maxLen
  lq:p.ps.length<=maxLen
  gq:∀ q ∈ p.ps,FitPf q
theorem szNode_any (p:Nd) (u:Nv) (m:Nat) (w:World) (hr:RdNd w p u) (hm:m<=4000000) (hf:FitNd p) :
    Calls Try.prog 34 #[noV p u,.int .i64 (m:Int)] w fun e w'=>Szd (FewNd p) m w e w':=by
  have hznm:=hf.znm
  have hla:=hf.la
  have hga:=hf.ga
  have hls:=hf.ls
  have hgs:=hf.gs
  have hlt:=hf.lt
  have hgt:=hf.gt
  have hlw:=hf.lw
  have hgw:=hf.gw
  have hlx:=hf.lx
  have hgx:=hf.gx
  have hlh:=hf.lh
  have hlv:=hf.lv
  have hgv:=hf.gv
  have hlg:=hf.lg
  have hgg:=hf.gg
  have hld:=hf.ld
  have hlp:=hf.lp
  have hgp:=hf.gp
  have hlq:=hf.lq
  have hgq:=hf.gq
  clear hf
  obtain ⟨nm,ep,be,la,st,tt,rd,vd,hr,hb,hw,tr,tw,th,ld,vo,go,dn,pl,ps⟩:=p
  obtain ⟨ya,ys,yt,yw,yx,yh,yv,yg,yd,yp,yq⟩:=u
  obtain ⟨hya,hys,hyt,hyw,hyx,hyh,hyv,hyg,hyd,hyp,hyq⟩:=hr
  simp only at *
  obtain ⟨ada,cpa,rfl⟩:=hya.shape
  obtain ⟨ads,cps,rfl⟩:=hys.shape
  obtain ⟨adt,cpt,rfl⟩:=hyt.shape
  obtain ⟨adw,cpw,rfl⟩:=hyw.shape
  obtain ⟨adx,cpx,rfl⟩:=hyx.shape
  obtain ⟨adh,cph,rfl⟩:=hyh.shape
  obtain ⟨adv,cpv,rfl⟩:=hyv.shape
  obtain ⟨adg,cpg,rfl⟩:=hyg.shape
  obtain ⟨add,cpd,rfl⟩:=hyd.shape
  obtain ⟨adp,cpp,rfl⟩:=hyp.shape
  obtain ⟨adq,cpq,rfl⟩:=hyq.shape
  have E2:=hide (fun (k:Nat) (hk:k<=4000000) V (hV:Below w.heap.size w V)=>szuLedger be (.slice ada la.length cpa) la k V (hya.below hV (Nat.le_refl _)) hk hla hga)
  have E3:=hide (fun (k:Nat) (hk:k<=4000000) V (hV:Below w.heap.size w V)=>szuVal (.slice ads st.length cps) st k V (hys.below hV (Nat.le_refl _)) hk hls hgs)
  have E4:=hide (fun (k:Nat) (hk:k<=4000000) V (hV:Below w.heap.size w V)=>szuBlock (.slice adt tt.length cpt) tt k V (hyt.below hV (Nat.le_refl _)) hk hlt hgt)
  have E5:=hide (fun (k:Nat) (hk:k<=4000000) V (hV:Below w.heap.size w V)=>szuQc hr hb (.slice adw hw.length cpw) hw k V (hyw.below hV (Nat.le_refl _)) hk hlw hgw)
  have E6:=hide (fun (k:Nat) (hk:k<=4000000) V (hV:Below w.heap.size w V)=>szuTc tr (.slice adx tw.length cpx) (.slice adh th.length cph) tw th k V (hyx.below hV (Nat.le_refl _)) (hyh.below hV (Nat.le_refl _)) hk hlx hgx hlh)
  have E7:=hide (fun (k:Nat) (hk:k<=4000000) V (hV:Below w.heap.size w V)=>szuVote (.slice adv vo.length cpv) vo k V (hyv.below hV (Nat.le_refl _)) hk hlv hgv)
  have E8:=hide (fun (k:Nat) (hk:k<=4000000) V (hV:Below w.heap.size w V)=>szuGone (.slice adg go.length cpg) go k V (hyg.below hV (Nat.le_refl _)) hk hlg hgg)
  have E9:=hide (fun (k:Nat) (hk:k<=4000000) V (hV:Below w.heap.size w V)=>szuInt (.slice add dn.length cpd) dn k V (hyd.below hV (Nat.le_refl _)) hk hld)
  have E10:=hide (fun (k:Nat) (hk:k<=4000000) V (hV:Below w.heap.size w V)=>szuTx (.slice adp pl.length cpp) pl k V (hyp.below hV (Nat.le_refl _)) hk hlp hgp)
  have E11:=hide (fun (k:Nat) (hk:k<=4000000) V (hV:Below w.heap.size w V)=>szProofS_any (.slice adq ps.length cpq) ps k V (hyq.below hV (Nat.le_refl _)) hk hlq hgq)
  clear hya hla hga
  clear hys hls hgs
  clear hyt hlt hgt
  clear hyw hlw hgw
  clear hyx hlx hgx
  clear hyh hlh
  clear hyv hlv hgv
  clear hyg hlg hgg
  clear hyd hld
  clear hyp hlp hgp
  clear hyq hlq hgq
  simp only [noV,qcV,tcV,lgV] at *
  obtain ⟨S0,hS0⟩:∃ x,w.alloc (.cells #[.string nm,.int .i64 ep,.int .i64 be,.slice ada la.length cpa,.slice ads st.length cps,.slice adt tt.length cpt,.int .i64 rd,.int .i64 vd,.int .i64 hr,.int .i64 hb,.slice adw hw.length cpw,.int .i64 tr,.slice adx tw.length cpx,.slice adh th.length cph,.int .i64 ld,.slice adv vo.length cpv,.slice adg go.length cpg,.slice add dn.length cpd,.slice adp pl.length cpp,.slice adq ps.length cpq] 88)=x:=⟨_,rfl⟩
  have k0:Blk S0 w.heap.size 88 [.string nm,.int .i64 ep,.int .i64 be,.slice ada la.length cpa,.slice ads st.length cps,.slice adt tt.length cpt,.int .i64 rd,.int .i64 vd,.int .i64 hr,.int .i64 hb,.slice adw hw.length cpw,.int .i64 tr,.slice adx tw.length cpx,.slice adh th.length cph,.int .i64 ld,.slice adv vo.length cpv,.slice adg go.length cpg,.slice add dn.length cpd,.slice adp pl.length cpp,.slice adq ps.length cpq]:=by rw [<- hS0];exact Blk.new w _ _
  have b0:Below w.heap.size w S0:=by rw [<- hS0];exact (Below.refl _ w).alloc (Nat.le_refl _) _
  obtain ⟨m0,em0⟩:∃ k:Nat,k=m:=⟨_,rfl⟩
  rw [<- em0]
  have hm0:m0<=4000000:=by omega
  have W0:=hide (show (m0:Int)<=(m0:Int) from by omega)
  clear em0 hm
  have x0:=k0.cell 0
  simp only [List.getElem?_cons_zero] at x0
  have K0:=hide k0
  clear k0
  go_enter Try.func34,Try.ntmps34
  by_cases hz:m0 < nm.size
  · have hzi:(m0:Int) - (nm.size:Int) < 0:=by omega
    have hwz:IntKind.i64.wrap ((m0:Int) - (nm.size:Int))=(m0:Int) - (nm.size:Int):=by rw [IntKind.wrap_i64];unfold maxLen at *;omega
    clear hz
    go_wp2
    go_ret
    exact ⟨_,rfl,fun h=>by omega,b0⟩
  obtain ⟨m1,hm1q⟩:∃ k,m0 - nm.size=k:=⟨_,rfl⟩
  have hwz1:IntKind.i64.wrap ((m0:Int) - (nm.size:Int))=(m1:Int):=by rw [IntKind.wrap_i64];omega
  have hm1:m1<=4000000:=by omega
  have W1:=hide (show (m1:Int)<=(m0:Int) from by have:=W0.out;omega)
  have hnn1:¬ (m1:Int) < 0:=by omega
  clear hz hm1q
  have k0:=K0.out
  have x2:=k0.cell 2
  have x3:=k0.cell 3
  simp only [List.getElem?_cons_zero,List.getElem?_cons_succ] at x2 x3
  have K0:=hide k0
  clear k0
  go_wp2_with fail
  (try rw [hS0])
  clear hS0
  refine (E2.out m1 hm1 _ b0).mono ?_
  rintro e w2 ⟨q2,rfl,f2,hb2⟩
  have k2:=K0.out.below hb2 K0.out.lt
  have b2:=b0.trans (hb2.mono b0.size)
  clear x2 x3 K0 b0 hb2 E2
  by_cases zq2:q2 < 0
  · clear f2 k2
    go_wp2
    go_ret
    exact ⟨_,rfl,fun h=>by omega,b2⟩
  obtain ⟨m2,em2⟩:∃ k:Nat,q2=(k:Int):=⟨q2.toNat,by omega⟩
  subst em2
  obtain ⟨fa2,fb2⟩:=f2 (by omega)
  have X2:=hide fa2
  have hm2:m2<=4000000:=by omega
  have W2:=hide (show (m2:Int)<=(m0:Int) from by have:=W1.out;omega)
  clear f2 fa2 fb2 W1
  have x4:=k2.cell 4
  simp only [List.getElem?_cons_zero,List.getElem?_cons_succ] at x4
  have K2:=hide k2
  clear k2
  go_wp2_with fail
  refine (E3.out m2 hm2 _ b2).mono ?_
  rintro e w3 ⟨q3,rfl,f3,hb3⟩
  have k3:=K2.out.below hb3 K2.out.lt
  have b3:=b2.trans (hb3.mono b2.size)
  clear x4 K2 b2 hb3 E3
  by_cases zq3:q3 < 0
  · clear f3 k3
    go_wp2
    go_ret
    exact ⟨_,rfl,fun h=>by omega,b3⟩
  obtain ⟨m3,em3⟩:∃ k:Nat,q3=(k:Int):=⟨q3.toNat,by omega⟩
  subst em3
  obtain ⟨fa3,fb3⟩:=f3 (by omega)
  have X3:=hide fa3
  have hm3:m3<=4000000:=by omega
  have W3:=hide (show (m3:Int)<=(m0:Int) from by have:=W2.out;omega)
  clear f3 fa3 fb3 W2
  have x5:=k3.cell 5
  simp only [List.getElem?_cons_zero,List.getElem?_cons_succ] at x5
  have K3:=hide k3
  clear k3
  go_wp2_with fail
  refine (E4.out m3 hm3 _ b3).mono ?_
  rintro e w4 ⟨q4,rfl,f4,hb4⟩
  have k4:=K3.out.below hb4 K3.out.lt
  have b4:=b3.trans (hb4.mono b3.size)
  clear x5 K3 b3 hb4 E4
  by_cases zq4:q4 < 0
  · clear f4 k4
    go_wp2
    go_ret
    exact ⟨_,rfl,fun h=>by omega,b4⟩
  obtain ⟨m4,em4⟩:∃ k:Nat,q4=(k:Int):=⟨q4.toNat,by omega⟩
  subst em4
  obtain ⟨fa4,fb4⟩:=f4 (by omega)
  have X4:=hide fa4
  have hm4:m4<=4000000:=by omega
  have W4:=hide (show (m4:Int)<=(m0:Int) from by have:=W3.out;omega)
  clear f4 fa4 fb4 W3
  have x8:=k4.cell 8
  have x9:=k4.cell 9
  have x10:=k4.cell 10
  simp only [List.getElem?_cons_zero,List.getElem?_cons_succ] at x8 x9 x10
  have K4:=hide k4
  clear k4
  go_wp2_with fail
  refine (E5.out m4 hm4 _ b4).mono ?_
  rintro e w5 ⟨q5,rfl,f5,hb5⟩
  have k5:=K4.out.below hb5 K4.out.lt
  have b5:=b4.trans (hb5.mono b4.size)
  clear x8 x9 x10 K4 b4 hb5 E5
  by_cases zq5:q5 < 0
  · clear f5 k5
    go_wp2
    go_ret
    exact ⟨_,rfl,fun h=>by omega,b5⟩
  obtain ⟨m5,em5⟩:∃ k:Nat,q5=(k:Int):=⟨q5.toNat,by omega⟩
  subst em5
  obtain ⟨fa5,fb5⟩:=f5 (by omega)
  have X5:=hide fa5
  have hm5:m5<=4000000:=by omega
  have W5:=hide (show (m5:Int)<=(m0:Int) from by have:=W4.out;omega)
  clear f5 fa5 fb5 W4
  have x11:=k5.cell 11
  have x12:=k5.cell 12
  have x13:=k5.cell 13
  simp only [List.getElem?_cons_zero,List.getElem?_cons_succ] at x11 x12 x13
  have K5:=hide k5
  clear k5
  go_wp2_with fail
  refine (E6.out m5 hm5 _ b5).mono ?_
  rintro e w6 ⟨q6,rfl,f6,hb6⟩
  have k6:=K5.out.below hb6 K5.out.lt
  have b6:=b5.trans (hb6.mono b5.size)
  clear x11 x12 x13 K5 b5 hb6 E6
  by_cases zq6:q6 < 0
  · clear f6 k6
    go_wp2
    go_ret
    exact ⟨_,rfl,fun h=>by omega,b6⟩
  obtain ⟨m6,em6⟩:∃ k:Nat,q6=(k:Int):=⟨q6.toNat,by omega⟩
  subst em6
  obtain ⟨fa6,fb6⟩:=f6 (by omega)
  have X6:=hide fa6
  have hm6:m6<=4000000:=by omega
  have W6:=hide (show (m6:Int)<=(m0:Int) from by have:=W5.out;omega)
  clear f6 fa6 fb6 W5
  have x15:=k6.cell 15
  simp only [List.getElem?_cons_zero,List.getElem?_cons_succ] at x15
  have K6:=hide k6
  clear k6
  go_wp2_with fail
  refine (E7.out m6 hm6 _ b6).mono ?_
  rintro e w7 ⟨q7,rfl,f7,hb7⟩
  have k7:=K6.out.below hb7 K6.out.lt
  have b7:=b6.trans (hb7.mono b6.size)
  clear x15 K6 b6 hb7 E7
  by_cases zq7:q7 < 0
  · clear f7 k7
    go_wp2
    go_ret
    exact ⟨_,rfl,fun h=>by omega,b7⟩
  obtain ⟨m7,em7⟩:∃ k:Nat,q7=(k:Int):=⟨q7.toNat,by omega⟩
  subst em7
  obtain ⟨fa7,fb7⟩:=f7 (by omega)
  have X7:=hide fa7
  have hm7:m7<=4000000:=by omega
  have W7:=hide (show (m7:Int)<=(m0:Int) from by have:=W6.out;omega)
  clear f7 fa7 fb7 W6
  have x16:=k7.cell 16
  simp only [List.getElem?_cons_zero,List.getElem?_cons_succ] at x16
  have K7:=hide k7
  clear k7
  go_wp2_with fail
  refine (E8.out m7 hm7 _ b7).mono ?_
  rintro e w8 ⟨q8,rfl,f8,hb8⟩
  have k8:=K7.out.below hb8 K7.out.lt
  have b8:=b7.trans (hb8.mono b7.size)
  clear x16 K7 b7 hb8 E8
  by_cases zq8:q8 < 0
  · clear f8 k8
    go_wp2
    go_ret
    exact ⟨_,rfl,fun h=>by omega,b8⟩
  obtain ⟨m8,em8⟩:∃ k:Nat,q8=(k:Int):=⟨q8.toNat,by omega⟩
  subst em8
  obtain ⟨fa8,fb8⟩:=f8 (by omega)
  have X8:=hide fa8
  have hm8:m8<=4000000:=by omega
  have W8:=hide (show (m8:Int)<=(m0:Int) from by have:=W7.out;omega)
  clear f8 fa8 fb8 W7
  have x17:=k8.cell 17
  simp only [List.getElem?_cons_zero,List.getElem?_cons_succ] at x17
  have K8:=hide k8
  clear k8
  go_wp2_with fail
  refine (E9.out m8 hm8 _ b8).mono ?_
  rintro e w9 ⟨q9,rfl,f9,hb9⟩
  have k9:=K8.out.below hb9 K8.out.lt
  have b9:=b8.trans (hb9.mono b8.size)
  clear x17 K8 b8 hb9 E9
  by_cases zq9:q9 < 0
  · clear f9 k9
    go_wp2
    go_ret
    exact ⟨_,rfl,fun h=>by omega,b9⟩
  obtain ⟨m9,em9⟩:∃ k:Nat,q9=(k:Int):=⟨q9.toNat,by omega⟩
  subst em9
  obtain ⟨fa9,fb9⟩:=f9 (by omega)
  have X9:=hide fa9
  have hm9:m9<=4000000:=by omega
  have W9:=hide (show (m9:Int)<=(m0:Int) from by have:=W8.out;omega)
  clear f9 fa9 fb9 W8
  have x18:=k9.cell 18
  simp only [List.getElem?_cons_zero,List.getElem?_cons_succ] at x18
  have K9:=hide k9
  clear k9
  go_wp2_with fail
  refine (E10.out m9 hm9 _ b9).mono ?_
  rintro e w10 ⟨q10,rfl,f10,hb10⟩
  have k10:=K9.out.below hb10 K9.out.lt
  have b10:=b9.trans (hb10.mono b9.size)
  clear x18 K9 b9 hb10 E10
  by_cases zq10:q10 < 0
  · clear f10 k10
    go_wp2
    go_ret
    exact ⟨_,rfl,fun h=>by omega,b10⟩
  obtain ⟨m10,em10⟩:∃ k:Nat,q10=(k:Int):=⟨q10.toNat,by omega⟩
  subst em10
  obtain ⟨fa10,fb10⟩:=f10 (by omega)
  have X10:=hide fa10
  have hm10:m10<=4000000:=by omega
  have W10:=hide (show (m10:Int)<=(m0:Int) from by have:=W9.out;omega)
  clear f10 fa10 fb10 W9
  have x19:=k10.cell 19
  simp only [List.getElem?_cons_zero,List.getElem?_cons_succ] at x19
  have K10:=hide k10
  clear k10
  go_wp2_with fail
  refine (E11.out m10 hm10 _ b10).mono ?_
  rintro e w11 ⟨q11,rfl,f11,hb11⟩
  have k11:=K10.out.below hb11 K10.out.lt
  have b11:=b10.trans (hb11.mono b10.size)
  clear x19 K10 b10 hb11 E11
  by_cases zq11:q11 < 0
  · clear f11 k11
    go_wp2
    go_ret
    exact ⟨_,rfl,fun h=>by omega,b11⟩
  obtain ⟨m11,em11⟩:∃ k:Nat,q11=(k:Int):=⟨q11.toNat,by omega⟩
  subst em11
  obtain ⟨fa11,fb11⟩:=f11 (by omega)
  have X11:=hide fa11
  have hm11:m11<=4000000:=by omega
  have W11:=hide (show (m11:Int)<=(m0:Int) from by have:=W10.out;omega)
  clear f11 fa11 fb11 W10
  clear k11
  go_wp2
  go_ret
  exact ⟨_,rfl,fun _=>⟨⟨X2.out.1,X2.out.2,X3.out,X4.out.1,X4.out.2,X5.out,X6.out.1,X6.out.2,X7.out,X8.out,X9.out,X10.out,X11.out.1,X11.out.2⟩,W11.out⟩,b11⟩
theorem Try.infoSNd:(Try.prog.info? 88).map (·.size)=some 20:=by kernel_rfl
theorem szNodeS_any (v:Value) (l:List Nd) (m:Nat) (w:World) (hr:RdNs w v l) (hm:m<=4000000) (hl:l.length<=maxLen) (hs:∀ q ∈ l,FitNd q) :
    Calls Try.prog 14 #[v,.int .i64 (m:Int)] w fun e w'=>Szd (l.length<=4000000/\∀ q ∈ l,FewNd q) m w e w':=by
  have em:maxLen<=9223372036854775807:=by unfold maxLen;omega
  obtain ⟨Z,rfl,hr⟩:=hr
  have hl':Z.length<=maxLen:=by simpa using hl
  by_cases hn:m < Z.length
  · obtain ⟨a,cap,rfl⟩:=hr.shape
    clear hr hs
    go_enter Try.func14,Try.ntmps14
    go_wp2
    go_ret
    exact ⟨_,rfl,fun h=>by omega,Below.refl _ _⟩
  · rcases hr with ⟨a,cap,rfl,rfl,-⟩ | ⟨b,off,cap,h0,rfl,h1,h2,h3,h4⟩
    · go_enter Try.func14,Try.ntmps14
      go_wp2
      refine wp_loop_rounds 1 ?_
      rw [rounds_succ]
      go_wp2
      go_ret
      exact ⟨_,rfl,fun _=>⟨⟨by simp,by simp⟩,by omega⟩,Below.refl _ _⟩
    · have H4 := hide h4
      have HS:=hide (show ∀ i (h:i < Z.length),FitNd Z[i].1 from fun i h=>hs _ (List.mem_map.2 ⟨_,List.getElem_mem h,rfl⟩))
      have HL:=hide (show (Z.map (·.1)).length<=4000000 from by simp;omega)
      obtain ⟨N,hN⟩:∃ N,Z.length=N:=⟨_,rfl⟩
      rw [hN] at h1 hl' hn ⊢
      have HN:=hide hN
      clear h4 hs hN hl h0
      go_enter Try.func14,Try.ntmps14
      go_wp2
      go_loopw [1,5] (fun mv iv wr=>∃ k r:Nat,k<=N/\iv=.int .i64 (k:Int)/\mv=.int .i64 (r:Int)/\r<=m/\(∀ i (h:i < Z.length),i < k->FewNd Z[i].1)/\Below w.heap.size w wr) (fun _ iv _=>N - (intOf iv).toNat)
      case atStart=>exact ⟨0,m - N,Nat.zero_le _,rfl,by go_num,by omega,(fun i _ h=>by omega),Below.refl _ _⟩
      case round =>
        obtain ⟨k,r,hk,rfl,rfl,hrm,hfw,hb⟩:=hrel
        have HF:=hide hfw
        clear hfw
        by_cases hlt:k < N
        · have hk1:k < Z.length:=by rw [HN.out];exact hlt
          have hrg:=range_below (H4.out k hk1).1 hb h3
          have HT:=hide (szNode_any Z[k].1 Z[k].2 r wr ((H4.out k hk1).2.below hb (Nat.le_refl _)) (by omega) (HS.out k hk1))
          have hil:(Try.prog.info? 88).map (·.size)=some (noC Z[k].1 Z[k].2).length:=Try.infoSNd
          rw [show noV Z[k].1 Z[k].2=.agg (noC Z[k].1 Z[k].2).toArray from rfl] at HT
          have Hil:=hide hil
          have Hrg:=hide hrg
          have HB:=hide hb
          have hli:(k:Int) < (N:Int):=by omega
          clear hrg hil hb
          generalize noC Z[k].1 Z[k].2=cs at HT Hil Hrg
          go_wp2_with (first
            | (refine wpList_load_mid rfl 88 _ rfl b (off+k * 20) rfl cs _ Hrg.out Try.underlying88 rfl Hil.out ?_)
            | fail)
          refine HT.out.mono ?_
          rintro e w2 ⟨q,rfl,hq,hb2⟩
          have HB2:=hide (HB.out.trans (hb2.mono HB.out.size))
          have Hq:=hide hq
          clear hq hb2 HT Hrg Hil
          by_cases hneg:q < 0
          · go_wp2
            go_ret
            exact ⟨_,rfl,fun h=>by omega,HB2.out⟩
          · obtain ⟨r2,hr2⟩:∃ r2:Nat,q=(r2:Int):=⟨q.toNat,by omega⟩
            subst hr2
            go_wp2
            go_roundw
            case rel =>
              obtain ⟨hfew,hle⟩:=Hq.out (by omega)
              exact ⟨k+1,r2,by omega,by go_num,rfl,by omega,(fun i h hi=>by
                by_cases e:i=k
                · subst e;exact hfew
                · exact HF.out i h (by omega)),HB2.out⟩
            case measure=>simp [intOf];omega
        · have HX:=hide (show ∀ q ∈ Z.map (·.1),FewNd q from fun q hq=>by
            obtain ⟨x,hx,rfl⟩:=List.mem_map.1 hq
            obtain ⟨i,hi,rfl⟩:=List.mem_iff_getElem.1 hx
            exact HF.out i hi (by have:=HN.out;omega))
          go_wp2
          go_ret
          exact ⟨_,rfl,fun _=>⟨⟨HL.out,HX.out⟩,by omega⟩,hb⟩
structure FitMg (p:Mg):Prop where
  wkd:(Lit.int .i64 p.kd).wf=true
  ztn:p.tn.size<=maxLen
  wep:(Lit.int .i64 p.ep).wf=true
  lb:p.bs.length<=maxLen
  gb:∀ b ∈ p.bs,FitK b
  wvr:(Lit.int .i64 p.vr).wf=true
  wvb:(Lit.int .i64 p.vb).wf=true
  zvw:p.vw.size<=maxLen
  wgr:(Lit.int .i64 p.gr).wf=true
  wgh:(Lit.int .i64 p.gh).wf=true
  zgw:p.gw.size<=maxLen
  wqr:(Lit.int .i64 p.qr).wf=true
  wqb:(Lit.int .i64 p.qb).wf=true
  lq:p.qw.length<=maxLen
  gq:∀ a ∈ p.qw,a.size<=maxLen
  wtr:(Lit.int .i64 p.tr).wf=true
  lw:p.tw.length<=maxLen
  gw:∀ a ∈ p.tw,a.size<=maxLen
  lh:p.th.length<=maxLen
theorem szMsg_any (p:Mg) (u:Mv) (m:Nat) (w:World) (hr:RdMg w p u) (hm:m<=4000000) (hf:FitMg p) :
    Calls Try.prog 37 #[mgV p u,.int .i64 (m:Int)] w fun e w'=>Szd (FewMg p) m w e w':=by
  have hztn:=hf.ztn
  have hlb:=hf.lb
  have hgb:=hf.gb
  have hzvw:=hf.zvw
  have hzgw:=hf.zgw
  have hlq:=hf.lq
  have hgq:=hf.gq
  have hlw:=hf.lw
  have hgw:=hf.gw
  have hlh:=hf.lh
  clear hf
  obtain ⟨kd,tn,ep,bs,vr,vb,vw,gr,gh,gw,qr,qb,qw,tr,tw,th⟩:=p
  obtain ⟨yb,yq,yw,yh⟩:=u
  obtain ⟨hyb,hyq,hyw,hyh⟩:=hr
  simp only at *
  obtain ⟨adb,cpb,rfl⟩:=hyb.shape
  obtain ⟨adq,cpq,rfl⟩:=hyq.shape
  obtain ⟨adw,cpw,rfl⟩:=hyw.shape
  obtain ⟨adh,cph,rfl⟩:=hyh.shape
  have E2:=hide (fun (k:Nat) (hk:k<=4000000) V (hV:Below w.heap.size w V)=>szuBlock (.slice adb bs.length cpb) bs k V (hyb.below hV (Nat.le_refl _)) hk hlb hgb)
  have E3:=hide (fun (k:Nat) (hk:k<=4000000) V (hV:Below w.heap.size w V)=>szuVt vr vb vw k V hk hzvw)
  have E4:=hide (fun (k:Nat) (hk:k<=4000000) V (hV:Below w.heap.size w V)=>szuGn gr gh gw k V hk hzgw)
  have E5:=hide (fun (k:Nat) (hk:k<=4000000) V (hV:Below w.heap.size w V)=>szuQc qr qb (.slice adq qw.length cpq) qw k V (hyq.below hV (Nat.le_refl _)) hk hlq hgq)
  have E6:=hide (fun (k:Nat) (hk:k<=4000000) V (hV:Below w.heap.size w V)=>szuTc tr (.slice adw tw.length cpw) (.slice adh th.length cph) tw th k V (hyw.below hV (Nat.le_refl _)) (hyh.below hV (Nat.le_refl _)) hk hlw hgw hlh)
  clear hyb hlb hgb
  clear hyq hlq hgq
  clear hyw hlw hgw
  clear hyh hlh
  simp only [mgV,qcV,tcV] at *
  obtain ⟨S0,hS0⟩:∃ x,w.alloc (.cells #[.int .i64 kd,.string tn,.int .i64 ep,.slice adb bs.length cpb,.int .i64 vr,.int .i64 vb,.string vw,.int .i64 gr,.int .i64 gh,.string gw,.int .i64 qr,.int .i64 qb,.slice adq qw.length cpq,.int .i64 tr,.slice adw tw.length cpw,.slice adh th.length cph] 101)=x:=⟨_,rfl⟩
  have k0:Blk S0 w.heap.size 101 [.int .i64 kd,.string tn,.int .i64 ep,.slice adb bs.length cpb,.int .i64 vr,.int .i64 vb,.string vw,.int .i64 gr,.int .i64 gh,.string gw,.int .i64 qr,.int .i64 qb,.slice adq qw.length cpq,.int .i64 tr,.slice adw tw.length cpw,.slice adh th.length cph]:=by rw [<- hS0];exact Blk.new w _ _
  have b0:Below w.heap.size w S0:=by rw [<- hS0];exact (Below.refl _ w).alloc (Nat.le_refl _) _
  obtain ⟨m0,em0⟩:∃ k:Nat,k=m:=⟨_,rfl⟩
  rw [<- em0]
  have hm0:m0<=4000000:=by omega
  have W0:=hide (show (m0:Int)<=(m0:Int) from by omega)
  clear em0 hm
  have x1:=k0.cell 1
  simp only [List.getElem?_cons_zero,List.getElem?_cons_succ] at x1
  have K0:=hide k0
  clear k0
  go_enter Try.func37,Try.ntmps37
  by_cases hz:m0 < tn.size
  · have hzi:(m0:Int) - (tn.size:Int) < 0:=by omega
    have hwz:IntKind.i64.wrap ((m0:Int) - (tn.size:Int))=(m0:Int) - (tn.size:Int):=by rw [IntKind.wrap_i64];unfold maxLen at *;omega
    clear hz
    go_wp2
    go_ret
    exact ⟨_,rfl,fun h=>by omega,b0⟩
  obtain ⟨m1,hm1q⟩:∃ k,m0 - tn.size=k:=⟨_,rfl⟩
  have hwz1:IntKind.i64.wrap ((m0:Int) - (tn.size:Int))=(m1:Int):=by rw [IntKind.wrap_i64];omega
  have hm1:m1<=4000000:=by omega
  have W1:=hide (show (m1:Int)<=(m0:Int) from by have:=W0.out;omega)
  have hnn1:¬ (m1:Int) < 0:=by omega
  clear hz hm1q
  have k0:=K0.out
  have x3:=k0.cell 3
  simp only [List.getElem?_cons_zero,List.getElem?_cons_succ] at x3
  have K0:=hide k0
  clear k0
  go_wp2_with fail
  (try rw [hS0])
  clear hS0
  refine (E2.out m1 hm1 _ b0).mono ?_
  rintro e w2 ⟨q2,rfl,f2,hb2⟩
  have k2:=K0.out.below hb2 K0.out.lt
  have b2:=b0.trans (hb2.mono b0.size)
  clear x3 K0 b0 hb2 E2
  by_cases zq2:q2 < 0
  · clear f2 k2
    go_wp2
    go_ret
    exact ⟨_,rfl,fun h=>by omega,b2⟩
  obtain ⟨m2,em2⟩:∃ k:Nat,q2=(k:Int):=⟨q2.toNat,by omega⟩
  subst em2
  obtain ⟨fa2,fb2⟩:=f2 (by omega)
  have X2:=hide fa2
  have hm2:m2<=4000000:=by omega
  have W2:=hide (show (m2:Int)<=(m0:Int) from by have:=W1.out;omega)
  clear f2 fa2 fb2 W1
  have x4:=k2.cell 4
  have x5:=k2.cell 5
  have x6:=k2.cell 6
  simp only [List.getElem?_cons_zero,List.getElem?_cons_succ] at x4 x5 x6
  have K2:=hide k2
  clear k2
  go_wp2_with fail
  refine (E3.out m2 hm2 _ b2).mono ?_
  rintro e w3 ⟨q3,rfl,f3,hb3⟩
  have k3:=K2.out.below hb3 K2.out.lt
  have b3:=b2.trans (hb3.mono b2.size)
  clear x4 x5 x6 K2 b2 hb3 E3
  by_cases zq3:q3 < 0
  · clear f3 k3
    go_wp2
    go_ret
    exact ⟨_,rfl,fun h=>by omega,b3⟩
  obtain ⟨m3,em3⟩:∃ k:Nat,q3=(k:Int):=⟨q3.toNat,by omega⟩
  subst em3
  obtain ⟨fa3,fb3⟩:=f3 (by omega)
  have X3:=hide fa3
  have hm3:m3<=4000000:=by omega
  have W3:=hide (show (m3:Int)<=(m0:Int) from by have:=W2.out;omega)
  clear f3 fa3 fb3 W2
  have x7:=k3.cell 7
  have x8:=k3.cell 8
  have x9:=k3.cell 9
  simp only [List.getElem?_cons_zero,List.getElem?_cons_succ] at x7 x8 x9
  have K3:=hide k3
  clear k3
  go_wp2_with fail
  refine (E4.out m3 hm3 _ b3).mono ?_
  rintro e w4 ⟨q4,rfl,f4,hb4⟩
  have k4:=K3.out.below hb4 K3.out.lt
  have b4:=b3.trans (hb4.mono b3.size)
  clear x7 x8 x9 K3 b3 hb4 E4
  by_cases zq4:q4 < 0
  · clear f4 k4
    go_wp2
    go_ret
    exact ⟨_,rfl,fun h=>by omega,b4⟩
  obtain ⟨m4,em4⟩:∃ k:Nat,q4=(k:Int):=⟨q4.toNat,by omega⟩
  subst em4
  obtain ⟨fa4,fb4⟩:=f4 (by omega)
  have X4:=hide fa4
  have hm4:m4<=4000000:=by omega
  have W4:=hide (show (m4:Int)<=(m0:Int) from by have:=W3.out;omega)
  clear f4 fa4 fb4 W3
  have x10:=k4.cell 10
  have x11:=k4.cell 11
  have x12:=k4.cell 12
  simp only [List.getElem?_cons_zero,List.getElem?_cons_succ] at x10 x11 x12
  have K4:=hide k4
  clear k4
  go_wp2_with fail
  refine (E5.out m4 hm4 _ b4).mono ?_
  rintro e w5 ⟨q5,rfl,f5,hb5⟩
  have k5:=K4.out.below hb5 K4.out.lt
  have b5:=b4.trans (hb5.mono b4.size)
  clear x10 x11 x12 K4 b4 hb5 E5
  by_cases zq5:q5 < 0
  · clear f5 k5
    go_wp2
    go_ret
    exact ⟨_,rfl,fun h=>by omega,b5⟩
  obtain ⟨m5,em5⟩:∃ k:Nat,q5=(k:Int):=⟨q5.toNat,by omega⟩
  subst em5
  obtain ⟨fa5,fb5⟩:=f5 (by omega)
  have X5:=hide fa5
  have hm5:m5<=4000000:=by omega
  have W5:=hide (show (m5:Int)<=(m0:Int) from by have:=W4.out;omega)
  clear f5 fa5 fb5 W4
  have x13:=k5.cell 13
  have x14:=k5.cell 14
  have x15:=k5.cell 15
  simp only [List.getElem?_cons_zero,List.getElem?_cons_succ] at x13 x14 x15
  have K5:=hide k5
  clear k5
  go_wp2_with fail
  refine (E6.out m5 hm5 _ b5).mono ?_
  rintro e w6 ⟨q6,rfl,f6,hb6⟩
  have k6:=K5.out.below hb6 K5.out.lt
  have b6:=b5.trans (hb6.mono b5.size)
  clear x13 x14 x15 K5 b5 hb6 E6
  by_cases zq6:q6 < 0
  · clear f6 k6
    go_wp2
    go_ret
    exact ⟨_,rfl,fun h=>by omega,b6⟩
  obtain ⟨m6,em6⟩:∃ k:Nat,q6=(k:Int):=⟨q6.toNat,by omega⟩
  subst em6
  obtain ⟨fa6,fb6⟩:=f6 (by omega)
  have X6:=hide fa6
  have hm6:m6<=4000000:=by omega
  have W6:=hide (show (m6:Int)<=(m0:Int) from by have:=W5.out;omega)
  clear f6 fa6 fb6 W5
  clear k6
  go_wp2
  go_ret
  exact ⟨_,rfl,fun _=>⟨⟨X2.out.1,X2.out.2,X5.out,X6.out.1,X6.out.2⟩,W6.out⟩,b6⟩
theorem Try.infoSMg:(Try.prog.info? 101).map (·.size)=some 16:=by kernel_rfl
theorem szMsgS_any (v:Value) (l:List Mg) (m:Nat) (w:World) (hr:RdMs w v l) (hm:m<=4000000) (hl:l.length<=maxLen) (hs:∀ q ∈ l,FitMg q) :
    Calls Try.prog 17 #[v,.int .i64 (m:Int)] w fun e w'=>Szd (l.length<=4000000/\∀ q ∈ l,FewMg q) m w e w':=by
  have em:maxLen<=9223372036854775807:=by unfold maxLen;omega
  obtain ⟨Z,rfl,hr⟩:=hr
  have hl':Z.length<=maxLen:=by simpa using hl
  by_cases hn:m < Z.length
  · obtain ⟨a,cap,rfl⟩:=hr.shape
    clear hr hs
    go_enter Try.func17,Try.ntmps17
    go_wp2
    go_ret
    exact ⟨_,rfl,fun h=>by omega,Below.refl _ _⟩
  · rcases hr with ⟨a,cap,rfl,rfl,-⟩ | ⟨b,off,cap,h0,rfl,h1,h2,h3,h4⟩
    · go_enter Try.func17,Try.ntmps17
      go_wp2
      refine wp_loop_rounds 1 ?_
      rw [rounds_succ]
      go_wp2
      go_ret
      exact ⟨_,rfl,fun _=>⟨⟨by simp,by simp⟩,by omega⟩,Below.refl _ _⟩
    · have H4 := hide h4
      have HS:=hide (show ∀ i (h:i < Z.length),FitMg Z[i].1 from fun i h=>hs _ (List.mem_map.2 ⟨_,List.getElem_mem h,rfl⟩))
      have HL:=hide (show (Z.map (·.1)).length<=4000000 from by simp;omega)
      obtain ⟨N,hN⟩:∃ N,Z.length=N:=⟨_,rfl⟩
      rw [hN] at h1 hl' hn ⊢
      have HN:=hide hN
      clear h4 hs hN hl h0
      go_enter Try.func17,Try.ntmps17
      go_wp2
      go_loopw [1,5] (fun mv iv wr=>∃ k r:Nat,k<=N/\iv=.int .i64 (k:Int)/\mv=.int .i64 (r:Int)/\r<=m/\(∀ i (h:i < Z.length),i < k->FewMg Z[i].1)/\Below w.heap.size w wr) (fun _ iv _=>N - (intOf iv).toNat)
      case atStart=>exact ⟨0,m - N,Nat.zero_le _,rfl,by go_num,by omega,(fun i _ h=>by omega),Below.refl _ _⟩
      case round =>
        obtain ⟨k,r,hk,rfl,rfl,hrm,hfw,hb⟩:=hrel
        have HF:=hide hfw
        clear hfw
        by_cases hlt:k < N
        · have hk1:k < Z.length:=by rw [HN.out];exact hlt
          have hrg:=range_below (H4.out k hk1).1 hb h3
          have HT:=hide (szMsg_any Z[k].1 Z[k].2 r wr ((H4.out k hk1).2.below hb (Nat.le_refl _)) (by omega) (HS.out k hk1))
          have hil:(Try.prog.info? 101).map (·.size)=some (mgC Z[k].1 Z[k].2).length:=Try.infoSMg
          rw [show mgV Z[k].1 Z[k].2=.agg (mgC Z[k].1 Z[k].2).toArray from rfl] at HT
          have Hil:=hide hil
          have Hrg:=hide hrg
          have HB:=hide hb
          have hli:(k:Int) < (N:Int):=by omega
          clear hrg hil hb
          generalize mgC Z[k].1 Z[k].2=cs at HT Hil Hrg
          go_wp2_with (first
            | (refine wpList_load_mid rfl 101 _ rfl b (off+k * 16) rfl cs _ Hrg.out Try.underlying101 rfl Hil.out ?_)
            | fail)
          refine HT.out.mono ?_
          rintro e w2 ⟨q,rfl,hq,hb2⟩
          have HB2:=hide (HB.out.trans (hb2.mono HB.out.size))
          have Hq:=hide hq
          clear hq hb2 HT Hrg Hil
          by_cases hneg:q < 0
          · go_wp2
            go_ret
            exact ⟨_,rfl,fun h=>by omega,HB2.out⟩
          · obtain ⟨r2,hr2⟩:∃ r2:Nat,q=(r2:Int):=⟨q.toNat,by omega⟩
            subst hr2
            go_wp2
            go_roundw
            case rel =>
              obtain ⟨hfew,hle⟩:=Hq.out (by omega)
              exact ⟨k+1,r2,by omega,by go_num,rfl,by omega,(fun i h hi=>by
                by_cases e:i=k
                · subst e;exact hfew
                · exact HF.out i h (by omega)),HB2.out⟩
            case measure=>simp [intOf];omega
        · have HX:=hide (show ∀ q ∈ Z.map (·.1),FewMg q from fun q hq=>by
            obtain ⟨x,hx,rfl⟩:=List.mem_map.1 hq
            obtain ⟨i,hi,rfl⟩:=List.mem_iff_getElem.1 hx
            exact HF.out i hi (by have:=HN.out;omega))
          go_wp2
          go_ret
          exact ⟨_,rfl,fun _=>⟨⟨HL.out,HX.out⟩,by omega⟩,hb⟩
end Go.Proofs.Ytfdbedenlbikgaa
