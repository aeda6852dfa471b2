/- A world. -/
import Derived.Test.YtfdbedenlbikgaaZoNdEq
import Derived.Test.YtfdbedenlbikgaaZoMgEq
set_option maxRecDepth 20000
set_option maxHeartbeats 8000000
namespace Go.Proofs.Ytfdbedenlbikgaa
open Go.RowKit
set_option linter.unusedVariables false
theorem eqWorld_same (p:Wd) (u t:Wv) (w:World) (hr:RdWd w p u) (ht:RdWd w p t) (hf:FewWd p) :
    Calls Try.prog 9 #[wdV p u,wdV p t] w fun e w'=>e=.returned (.bool true)/\Below w.heap.size w w':=by
  have hna:=hf.na
  have hfa:=hf.fa
  have hnf:=hf.nf
  have hnn:=hf.nn
  have hfn:=hf.fn
  have hnb:=hf.nb
  have hfb:=hf.fb
  have hns:=hf.ns
  have hfs:=hf.fs
  have hnm:=hf.nm
  have hfm:=hf.fm
  clear hf
  obtain ⟨ep,la,fo,ns,bs,sg,ms⟩:=p
  obtain ⟨ya,yf,yn,yb,ys,ym⟩:=u
  obtain ⟨hya,hyf,hyn,hyb,hys,hym⟩:=hr
  simp only at *
  obtain ⟨ada,cpa,rfl⟩:=hya.shape
  obtain ⟨adf,cpf,rfl⟩:=hyf.shape
  obtain ⟨adn,cpn,rfl⟩:=hyn.shape
  obtain ⟨adb,cpb,rfl⟩:=hyb.shape
  obtain ⟨ads,cps,rfl⟩:=hys.shape
  obtain ⟨adm,cpm,rfl⟩:=hym.shape
  obtain ⟨za,zf,zn,zb,zs,zm⟩:=t
  obtain ⟨jya,jyf,jyn,jyb,jys,jym⟩:=ht
  simp only at *
  obtain ⟨bda,bpa,rfl⟩:=jya.shape
  obtain ⟨bdf,bpf,rfl⟩:=jyf.shape
  obtain ⟨bdn,bpn,rfl⟩:=jyn.shape
  obtain ⟨bdb,bpb,rfl⟩:=jyb.shape
  obtain ⟨bds,bps,rfl⟩:=jys.shape
  obtain ⟨bdm,bpm,rfl⟩:=jym.shape
  have E1:=hide (fun V (hV:Below w.heap.size w V)=>equLedger ep (.slice ada la.length cpa) (.slice bda la.length bpa) la V (hya.below hV (Nat.le_refl _)) (jya.below hV (Nat.le_refl _)) hna hfa)
  have E2:=hide (fun V (hV:Below w.heap.size w V)=>equString (.slice adf fo.length cpf) (.slice bdf fo.length bpf) fo V (hyf.below hV (Nat.le_refl _)) (jyf.below hV (Nat.le_refl _)) hnf)
  have E3:=hide (fun V (hV:Below w.heap.size w V)=>eqNodeS_any (.slice adn ns.length cpn) (.slice bdn ns.length bpn) ns V (hyn.below hV (Nat.le_refl _)) (jyn.below hV (Nat.le_refl _)) hnn hfn)
  have E4:=hide (fun V (hV:Below w.heap.size w V)=>eqBlockS_any (.slice adb bs.length cpb) (.slice bdb bs.length bpb) bs V (hyb.below hV (Nat.le_refl _)) (jyb.below hV (Nat.le_refl _)) hnb hfb)
  have E5:=hide (fun V (hV:Below w.heap.size w V)=>eqSigS_any (.slice ads sg.length cps) (.slice bds sg.length bps) sg V (hys.below hV (Nat.le_refl _)) (jys.below hV (Nat.le_refl _)) hns hfs)
  have E6:=hide (fun V (hV:Below w.heap.size w V)=>eqMsgS_any (.slice adm ms.length cpm) (.slice bdm ms.length bpm) ms V (hym.below hV (Nat.le_refl _)) (jym.below hV (Nat.le_refl _)) hnm hfm)
  clear hya hyf hyn hyb hys hym jya jyf jyn jyb jys jym
  clear hfa
  clear hfn
  clear hfb
  clear hfs
  clear hfm
  simp only [wdV,lgV] at *
  obtain ⟨S0,hS0⟩:∃ x,(w.alloc (.cells #[.int .i64 ep,.slice ada la.length cpa,.slice adf fo.length cpf,.slice adn ns.length cpn,.slice adb bs.length cpb,.slice ads sg.length cps,.slice adm ms.length cpm] 42)).alloc (.cells #[.int .i64 ep,.slice bda la.length bpa,.slice bdf fo.length bpf,.slice bdn ns.length bpn,.slice bdb bs.length bpb,.slice bds sg.length bps,.slice bdm ms.length bpm] 42)=x:=⟨_,rfl⟩
  have kA0:Blk S0 w.heap.size 42 [.int .i64 ep,.slice ada la.length cpa,.slice adf fo.length cpf,.slice adn ns.length cpn,.slice adb bs.length cpb,.slice ads sg.length cps,.slice adm ms.length cpm]:=by rw [<- hS0];exact (Blk.new w _ _).below ((Below.refl (w.heap.size+1) _).alloc (by simp) _) (by omega)
  have kB0:Blk S0 (w.heap.size+1) 42 [.int .i64 ep,.slice bda la.length bpa,.slice bdf fo.length bpf,.slice bdn ns.length bpn,.slice bdb bs.length bpb,.slice bds sg.length bps,.slice bdm ms.length bpm]:=by rw [<- hS0];exact Blk.newR _ _ [.int .i64 ep,.slice bda la.length bpa,.slice bdf fo.length bpf,.slice bdn ns.length bpn,.slice bdb bs.length bpb,.slice bds sg.length bps,.slice bdm ms.length bpm] _ (by simp)
  have b0:Below w.heap.size w S0:=by rw [<- hS0];exact ((Below.refl _ w).alloc (Nat.le_refl _) _).alloc (by simp) _
  have x0:=kA0.cell 0
  have x1:=kA0.cell 1
  simp only [List.getElem?_cons_zero,List.getElem?_cons_succ] at x0 x1
  have y0:=kB0.cell 0
  have y1:=kB0.cell 1
  simp only [List.getElem?_cons_zero,List.getElem?_cons_succ] at y0 y1
  have KA0:=hide kA0
  have KB0:=hide kB0
  clear kA0 kB0
  go_enter Try.func9,Try.ntmps9
  go_wp2_with fail
  (try rw [hS0])
  clear hS0
  refine (E1.out _ b0).mono ?_
  rintro e w1 ⟨rfl,hb1⟩
  have b1:=b0.trans (hb1.mono b0.size)
  have kA1:=KA0.out.below hb1 KA0.out.lt
  have kB1:=KB0.out.below hb1 KB0.out.lt
  clear x0 x1 y0 y1 KA0 KB0 b0 hb1 E1
  have x2:=kA1.cell 2
  simp only [List.getElem?_cons_zero,List.getElem?_cons_succ] at x2
  have y2:=kB1.cell 2
  simp only [List.getElem?_cons_zero,List.getElem?_cons_succ] at y2
  have KA1:=hide kA1
  have KB1:=hide kB1
  clear kA1 kB1
  go_wp2_with fail
  refine (E2.out _ b1).mono ?_
  rintro e w2 ⟨rfl,hb2⟩
  have b2:=b1.trans (hb2.mono b1.size)
  have kA2:=KA1.out.below hb2 KA1.out.lt
  have kB2:=KB1.out.below hb2 KB1.out.lt
  clear x2 y2 KA1 KB1 b1 hb2 E2
  have x3:=kA2.cell 3
  simp only [List.getElem?_cons_zero,List.getElem?_cons_succ] at x3
  have y3:=kB2.cell 3
  simp only [List.getElem?_cons_zero,List.getElem?_cons_succ] at y3
  have KA2:=hide kA2
  have KB2:=hide kB2
  clear kA2 kB2
  go_wp2_with fail
  refine (E3.out _ b2).mono ?_
  rintro e w3 ⟨rfl,hb3⟩
  have b3:=b2.trans (hb3.mono b2.size)
  have kA3:=KA2.out.below hb3 KA2.out.lt
  have kB3:=KB2.out.below hb3 KB2.out.lt
  clear x3 y3 KA2 KB2 b2 hb3 E3
  have x4:=kA3.cell 4
  simp only [List.getElem?_cons_zero,List.getElem?_cons_succ] at x4
  have y4:=kB3.cell 4
  simp only [List.getElem?_cons_zero,List.getElem?_cons_succ] at y4
  have KA3:=hide kA3
  have KB3:=hide kB3
  clear kA3 kB3
  go_wp2_with fail
  refine (E4.out _ b3).mono ?_
  rintro e w4 ⟨rfl,hb4⟩
  have b4:=b3.trans (hb4.mono b3.size)
  have kA4:=KA3.out.below hb4 KA3.out.lt
  have kB4:=KB3.out.below hb4 KB3.out.lt
  clear x4 y4 KA3 KB3 b3 hb4 E4
  have x5:=kA4.cell 5
  simp only [List.getElem?_cons_zero,List.getElem?_cons_succ] at x5
  have y5:=kB4.cell 5
  simp only [List.getElem?_cons_zero,List.getElem?_cons_succ] at y5
  have KA4:=hide kA4
  have KB4:=hide kB4
  clear kA4 kB4
  go_wp2_with fail
  refine (E5.out _ b4).mono ?_
  rintro e w5 ⟨rfl,hb5⟩
  have b5:=b4.trans (hb5.mono b4.size)
  have kA5:=KA4.out.below hb5 KA4.out.lt
  have kB5:=KB4.out.below hb5 KB4.out.lt
  clear x5 y5 KA4 KB4 b4 hb5 E5
  have x6:=kA5.cell 6
  simp only [List.getElem?_cons_zero,List.getElem?_cons_succ] at x6
  have y6:=kB5.cell 6
  simp only [List.getElem?_cons_zero,List.getElem?_cons_succ] at y6
  have KA5:=hide kA5
  have KB5:=hide kB5
  clear kA5 kB5
  go_wp2_with fail
  refine (E6.out _ b5).mono ?_
  rintro e w6 ⟨rfl,hb6⟩
  have b6:=b5.trans (hb6.mono b5.size)
  have kA6:=KA5.out.below hb6 KA5.out.lt
  have kB6:=KB5.out.below hb6 KB5.out.lt
  clear x6 y6 KA5 KB5 b5 hb6 E6
  clear kA6 kB6
  go_wp2
  go_ret
  exact ⟨rfl,b6⟩
end Go.Proofs.Ytfdbedenlbikgaa
