/- The model's ledgers that are right, and copies of them. -/
import Derived.Test.YteefibiikampbaaGreatDoorZfVtOpen
set_option maxRecDepth 20000
set_option maxHeartbeats 8000000
namespace Go.Proofs.YteefibiikampbaaGreatDoor
open Go.RowKit
set_option linter.unusedVariables false
theorem szuLedgerL (e:Int) (v:Value) (l:List Ac) (m:Nat) (w:World) (hr:RdA w v l) (hm:m<=4000000) (hl:l.length<=maxLen) (hs:∀ a ∈ l,a.1.size<=maxLen/\a.2.2.2.2.length<=maxLen) :
    Calls Tryz.prog 19 #[lgV e v,.int .i64 (m:Int)] w fun en w'=>Szd (l.length<=m/\∀ a ∈ l,a.2.2.2.2.length<=m) m w en w':=by
  have em:maxLen<=9223372036854775807:=by unfold maxLen;omega
  refine (szLedger_any e v l m w hr (by omega) (by omega) (fun a ha=>by have:=hs a ha;omega)).mono ?_
  rintro en w' ⟨r,h1,h2,h3⟩
  exact ⟨r,h1,fun h=>by
    obtain ⟨a,b⟩:=h2 h
    exact ⟨⟨by omega,fun x hx=>by have:=totA_at l x hx;unfold wgA at this;omega⟩,b⟩,h3⟩
theorem szWorldL_any (p:Wd) (u:Wv) (m:Nat) (w:World) (hr:RdWd w p u) (hm:m<=4000000) (hf:FitWd p) :
    Calls Tryz.prog 5 #[wdV p u,.int .i64 (m:Int)] w fun e w'=>Szd (FewWd p/\p.la.length<=m/\∀ a ∈ p.la,a.2.2.2.2.length<=m) m w e w':=by
  have hla:=hf.la
  have hga:=hf.ga
  have hlf:=hf.lf
  have hgf:=hf.gf
  have hln:=hf.ln
  have hgn:=hf.gn
  have hlb:=hf.lb
  have hgb:=hf.gb
  have hls:=hf.ls
  have hgs:=hf.gs
  have hlm:=hf.lm
  have hgm:=hf.gm
  clear hf
  obtain ⟨ep,la,fo,ns,bs,sg,ms⟩:=p
  obtain ⟨ya,yf,yn,yb,ys,ym⟩:=u
  obtain ⟨hya,hyf,hyn,hyb,hys,hym⟩:=hr
  simp only at *
  obtain ⟨ada,cpa,rfl⟩:=hya.shape
  obtain ⟨adf,cpf,rfl⟩:=hyf.shape
  obtain ⟨adn,cpn,rfl⟩:=hyn.shape
  obtain ⟨adb,cpb,rfl⟩:=hyb.shape
  obtain ⟨ads,cps,rfl⟩:=hys.shape
  obtain ⟨adm,cpm,rfl⟩:=hym.shape
  have E1:=hide (fun (k:Nat) (hk:k<=4000000) V (hV:Below w.heap.size w V)=>szuLedgerL ep (.slice ada la.length cpa) la k V (hya.below hV (Nat.le_refl _)) hk hla hga)
  have E2:=hide (fun (k:Nat) (hk:k<=4000000) V (hV:Below w.heap.size w V)=>szuStr (.slice adf fo.length cpf) fo k V (hyf.below hV (Nat.le_refl _)) hk hlf hgf)
  have E3:=hide (fun (k:Nat) (hk:k<=4000000) V (hV:Below w.heap.size w V)=>szNodeS_any (.slice adn ns.length cpn) ns k V (hyn.below hV (Nat.le_refl _)) hk hln hgn)
  have E4:=hide (fun (k:Nat) (hk:k<=4000000) V (hV:Below w.heap.size w V)=>szuBlock (.slice adb bs.length cpb) bs k V (hyb.below hV (Nat.le_refl _)) hk hlb hgb)
  have E5:=hide (fun (k:Nat) (hk:k<=4000000) V (hV:Below w.heap.size w V)=>szSigS_any (.slice ads sg.length cps) sg k V (hys.below hV (Nat.le_refl _)) hk hls hgs)
  have E6:=hide (fun (k:Nat) (hk:k<=4000000) V (hV:Below w.heap.size w V)=>szMsgS_any (.slice adm ms.length cpm) ms k V (hym.below hV (Nat.le_refl _)) hk hlm hgm)
  clear hya hla hga
  clear hyf hlf hgf
  clear hyn hln hgn
  clear hyb hlb hgb
  clear hys hls hgs
  clear hym hlm hgm
  simp only [wdV,lgV] at *
  obtain ⟨S0,hS0⟩:∃ x,w.alloc (.cells #[.int .i64 ep,.slice ada la.length cpa,.slice adf fo.length cpf,.slice adn ns.length cpn,.slice adb bs.length cpb,.slice ads sg.length cps,.slice adm ms.length cpm] 31)=x:=⟨_,rfl⟩
  have k0:Blk S0 w.heap.size 31 [.int .i64 ep,.slice ada la.length cpa,.slice adf fo.length cpf,.slice adn ns.length cpn,.slice adb bs.length cpb,.slice ads sg.length cps,.slice adm ms.length cpm]:=by rw [<- hS0];exact Blk.new w _ _
  have b0:Below w.heap.size w S0:=by rw [<- hS0];exact (Below.refl _ w).alloc (Nat.le_refl _) _
  obtain ⟨m0,em0⟩:∃ k:Nat,k=m:=⟨_,rfl⟩
  rw [<- em0]
  have hm0:m0<=4000000:=by omega
  have hm00:=hm0
  clear em0 hm
  have W0:=hide (show (m0:Int)<=(m0:Int) from by omega)
  have x0:=k0.cell 0
  have x1:=k0.cell 1
  simp only [List.getElem?_cons_zero,List.getElem?_cons_succ] at x0 x1
  have K0:=hide k0
  clear k0
  go_enter Tryz.func5,Tryz.ntmps5
  go_wp2_with fail
  (try rw [hS0])
  clear hS0
  refine (E1.out m0 hm0 _ b0).mono ?_
  rintro e w1 ⟨q1,rfl,f1,hb1⟩
  have k1:=K0.out.below hb1 K0.out.lt
  have b1:=b0.trans (hb1.mono b0.size)
  clear x0 x1 K0 b0 hb1 E1
  by_cases zq1:q1 < 0
  · clear f1 k1
    go_wp2
    go_ret
    exact ⟨_,rfl,fun h=>by omega,b1⟩
  obtain ⟨m1,em1⟩:∃ k:Nat,q1=(k:Int):=⟨q1.toNat,by omega⟩
  subst em1
  obtain ⟨fa1,fb1⟩:=f1 (by omega)
  have X1:=hide fa1
  have hm1:m1<=4000000:=by omega
  have W1:=hide (show (m1:Int)<=(m0:Int) from by have:=W0.out;omega)
  clear f1 fa1 fb1 W0
  have x2:=k1.cell 2
  simp only [List.getElem?_cons_zero,List.getElem?_cons_succ] at x2
  have K1:=hide k1
  clear k1
  go_wp2_with fail
  refine (E2.out m1 hm1 _ b1).mono ?_
  rintro e w2 ⟨q2,rfl,f2,hb2⟩
  have k2:=K1.out.below hb2 K1.out.lt
  have b2:=b1.trans (hb2.mono b1.size)
  clear x2 K1 b1 hb2 E2
  by_cases zq2:q2 < 0
  · clear f2 k2
    go_wp2
    go_ret
    exact ⟨_,rfl,fun h=>by omega,b2⟩
  obtain ⟨m2,em2⟩:∃ k:Nat,q2=(k:Int):=⟨q2.toNat,by omega⟩
  subst em2
  obtain ⟨fa2,fb2⟩:=f2 (by omega)
  have X2:=hide fa2
  have hm2:m2<=4000000:=by omega
  have W2:=hide (show (m2:Int)<=(m0:Int) from by have:=W1.out;omega)
  clear f2 fa2 fb2 W1
  have x3:=k2.cell 3
  simp only [List.getElem?_cons_zero,List.getElem?_cons_succ] at x3
  have K2:=hide k2
  clear k2
  go_wp2_with fail
  refine (E3.out m2 hm2 _ b2).mono ?_
  rintro e w3 ⟨q3,rfl,f3,hb3⟩
  have k3:=K2.out.below hb3 K2.out.lt
  have b3:=b2.trans (hb3.mono b2.size)
  clear x3 K2 b2 hb3 E3
  by_cases zq3:q3 < 0
  · clear f3 k3
    go_wp2
    go_ret
    exact ⟨_,rfl,fun h=>by omega,b3⟩
  obtain ⟨m3,em3⟩:∃ k:Nat,q3=(k:Int):=⟨q3.toNat,by omega⟩
  subst em3
  obtain ⟨fa3,fb3⟩:=f3 (by omega)
  have X3:=hide fa3
  have hm3:m3<=4000000:=by omega
  have W3:=hide (show (m3:Int)<=(m0:Int) from by have:=W2.out;omega)
  clear f3 fa3 fb3 W2
  have x4:=k3.cell 4
  simp only [List.getElem?_cons_zero,List.getElem?_cons_succ] at x4
  have K3:=hide k3
  clear k3
  go_wp2_with fail
  refine (E4.out m3 hm3 _ b3).mono ?_
  rintro e w4 ⟨q4,rfl,f4,hb4⟩
  have k4:=K3.out.below hb4 K3.out.lt
  have b4:=b3.trans (hb4.mono b3.size)
  clear x4 K3 b3 hb4 E4
  by_cases zq4:q4 < 0
  · clear f4 k4
    go_wp2
    go_ret
    exact ⟨_,rfl,fun h=>by omega,b4⟩
  obtain ⟨m4,em4⟩:∃ k:Nat,q4=(k:Int):=⟨q4.toNat,by omega⟩
  subst em4
  obtain ⟨fa4,fb4⟩:=f4 (by omega)
  have X4:=hide fa4
  have hm4:m4<=4000000:=by omega
  have W4:=hide (show (m4:Int)<=(m0:Int) from by have:=W3.out;omega)
  clear f4 fa4 fb4 W3
  have x5:=k4.cell 5
  simp only [List.getElem?_cons_zero,List.getElem?_cons_succ] at x5
  have K4:=hide k4
  clear k4
  go_wp2_with fail
  refine (E5.out m4 hm4 _ b4).mono ?_
  rintro e w5 ⟨q5,rfl,f5,hb5⟩
  have k5:=K4.out.below hb5 K4.out.lt
  have b5:=b4.trans (hb5.mono b4.size)
  clear x5 K4 b4 hb5 E5
  by_cases zq5:q5 < 0
  · clear f5 k5
    go_wp2
    go_ret
    exact ⟨_,rfl,fun h=>by omega,b5⟩
  obtain ⟨m5,em5⟩:∃ k:Nat,q5=(k:Int):=⟨q5.toNat,by omega⟩
  subst em5
  obtain ⟨fa5,fb5⟩:=f5 (by omega)
  have X5:=hide fa5
  have hm5:m5<=4000000:=by omega
  have W5:=hide (show (m5:Int)<=(m0:Int) from by have:=W4.out;omega)
  clear f5 fa5 fb5 W4
  have x6:=k5.cell 6
  simp only [List.getElem?_cons_zero,List.getElem?_cons_succ] at x6
  have K5:=hide k5
  clear k5
  go_wp2_with fail
  refine (E6.out m5 hm5 _ b5).mono ?_
  rintro e w6 ⟨q6,rfl,f6,hb6⟩
  have k6:=K5.out.below hb6 K5.out.lt
  have b6:=b5.trans (hb6.mono b5.size)
  clear x6 K5 b5 hb6 E6
  by_cases zq6:q6 < 0
  · clear f6 k6
    go_wp2
    go_ret
    exact ⟨_,rfl,fun h=>by omega,b6⟩
  obtain ⟨m6,em6⟩:∃ k:Nat,q6=(k:Int):=⟨q6.toNat,by omega⟩
  subst em6
  obtain ⟨fa6,fb6⟩:=f6 (by omega)
  have X6:=hide fa6
  have hm6:m6<=4000000:=by omega
  have W6:=hide (show (m6:Int)<=(m0:Int) from by have:=W5.out;omega)
  clear f6 fa6 fb6 W5
  clear k6
  go_wp2
  go_ret
  exact ⟨_,rfl,fun _=>⟨⟨⟨Nat.le_trans X1.out.1 hm00,fun a ha=>Nat.le_trans (X1.out.2 a ha) hm00,X2.out,X3.out.1,X3.out.2,X4.out.1,X4.out.2,X5.out.1,X5.out.2,X6.out.1,X6.out.2⟩,X1.out.1,X1.out.2⟩,W6.out⟩,b6⟩
def lgB (e:Int) (l:List Ac):Bool:=inB e 0 900 && acsB l
theorem specLedgerOk_any (e:Int) (v:Value) (l:List Ac) (w:World) (hr:RdA w v l) (hl:l.length<=4000000) (hall:∀ a ∈ l,a.1.size<=maxLen/\a.2.2.2.2.length<=4000000) :
    Calls Tryz.prog 60 #[lgV e v] w fun en w'=>en=.returned (.bool (lgB e l))/\Below w.heap.size w w':=by
  obtain ⟨a1,cv1,rfl⟩:=hr.shape
  simp only [lgV] at *
  have hb3:Below w.heap.size w (w.alloc (.cells #[.int .i64 e,.slice a1 l.length cv1] 36)):=(Below.refl _ w).alloc (Nat.le_refl _) _
  have HE:=hide (specAcctsOk_any _ l _ (hr.below hb3 (Nat.le_refl _)) hl hall)
  have Hb3:=hide hb3
  have Hx:Hid (lgB e l=(inB e 0 900 && acsB l)):=hide rfl
  clear hb3 hr hall
  generalize lgB e l=X at Hx
  generalize acsB l=A at Hx HE
  cases h0:inB e 0 900
  · rw [h0,Bool.false_and] at Hx
    go_enter Tryz.func60,Tryz.ntmps60
    go_wp2_with (go_at_call 26;refine (l1In_any _ _ _ _).mono ?_;rintro en w1 ⟨rfl,rfl⟩)
    go_ret
    exact ⟨ret_bool Hx.out.symm,Hb3.out⟩
  · rw [h0,Bool.true_and] at Hx
    go_enter Tryz.func60,Tryz.ntmps60
    go_wp2_with (first
      | (go_at_call 26;refine (l1In_any _ _ _ _).mono ?_;rintro en w1 ⟨rfl,rfl⟩)
      | (go_at_call 100;refine HE.out.mono ?_;rintro en w2 ⟨rfl,hb2⟩))
    go_ret
    exact ⟨ret_bool Hx.out.symm,Hb3.out.trans (hb2.mono Hb3.out.size)⟩
theorem keep2 {W:World} {B G:Nat} {x y u v:Value} (h:W.cell? ⟨B,0,none⟩=some x/\W.cell? ⟨B,1,none⟩=some y) (hne:B ≠ G):((W.setCell ⟨G,0,none⟩ u).setCell ⟨G,1,none⟩ v).cell? ⟨B,0,none⟩=some x/\((W.setCell ⟨G,0,none⟩ u).setCell ⟨G,1,none⟩ v).cell? ⟨B,1,none⟩=some y:=by
  have e:((W.setCell ⟨G,0,none⟩ u).setCell ⟨G,1,none⟩ v).heap[B]?=W.heap[B]?:=by
    rw [heap_setCell_other _ ⟨G,1,none⟩ B _ hne,heap_setCell_other _ ⟨G,0,none⟩ B _ hne]
  exact ⟨(World.cell?_of_block e).trans h.1,(World.cell?_of_block e).trans h.2⟩
theorem specL6Copy_any (e:Int) (v:Value) (l:List Ac) (w:World) (hr:RdA w v l) (hl:l.length<=4000000) (hall:∀ a ∈ l,a.2.2.2.2.length<=4000000) :
    Calls Tryz.prog 25 #[lgV e v] w fun en w'=>∃ v',en=.returned (lgV e v')/\OwnA w.heap.size w' v' l/\Below w.heap.size w w':=by
  obtain ⟨a1,cv1,rfl⟩:=hr.shape
  simp only [lgV] at *
  obtain ⟨w2,hw2⟩:∃ w2,(w.alloc (.cells #[.int .i64 e,.slice a1 l.length cv1] 36)).alloc (.cells #[.int .i64 0,.slice none 0 0] 36)=w2:=⟨_,rfl⟩
  have hb2:Below w.heap.size w w2.drew:=by rw [<- hw2];exact (((Below.refl _ w).alloc (Nat.le_refl _) _).alloc (by simp) _).drew
  have hs2:w2.heap.size=w.heap.size+2:=by rw [<- hw2];simp
  have kA:Blk w2 w.heap.size 36 [.int .i64 e,.slice a1 l.length cv1]:=by
    rw [<- hw2]
    exact (Blk.new w 36 [.int .i64 e,.slice a1 l.length cv1]).below ((Below.refl (w.heap.size+1) _).alloc (by simp) _) (by omega)
  have kR:Blk w2 (w.heap.size+1) 36 [.int .i64 0,.slice none 0 0]:=by
    rw [<- hw2]
    have h:=Blk.new (w.alloc (.cells #[.int .i64 e,.slice a1 l.length cv1] 36)) 36 [.int .i64 0,.slice none 0 0]
    simp only [World.size_alloc] at h
    exact h
  have HC:=hide (specCopy_any _ l w2.drew (hr.below hb2 (Nat.le_refl _)) hl hall)
  have hS2:w2.drew.cell? ⟨w.heap.size,0,none⟩=some (.int .i64 e)/\w2.drew.cell? ⟨w.heap.size,1,none⟩=some (.slice a1 l.length cv1):=⟨kA.cell 0,kA.cell 1⟩
  have Hb2:=hide hb2
  have KA:Hid (Blk w2.drew w.heap.size 36 [.int .i64 e,.slice a1 l.length cv1]):=hide kA
  have KR:Hid (Blk w2.drew (w.heap.size+1) 36 [.int .i64 0,.slice none 0 0]):=hide kR
  have hs3:w2.drew.heap.size=w.heap.size+2:=hs2
  clear hr hb2 kA kR
  go_enter Tryz.func25,Tryz.ntmps25
  go_wp2
  go_region_held_law (fun w'=>w'.cell? ⟨w.heap.size,0,none⟩=some (.int .i64 e)/\w'.cell? ⟨w.heap.size,1,none⟩=some (.slice a1 l.length cv1)) (first | exact hS2 | exact hS4 | exact keep2 hS4 (by omega)) ((go_at_call 58;refine HC.out.mono ?_;rintro en w4 ⟨v4,rfl,ho4,hb4⟩;have KA4:=KA.out.below hb4 (by omega);have KR4:=KR.out.below hb4 (by omega);have hS4:w4.cell? ⟨w.heap.size,0,none⟩=some (.int .i64 e)/\w4.cell? ⟨w.heap.size,1,none⟩=some (.slice a1 l.length cv1):=⟨KA4.cell 0,KA4.cell 1⟩;have r0:w4.cell? ⟨w.heap.size+1,0,none⟩=some (.int .i64 0):=KR4.cell 0;have r1:w4.cell? ⟨w.heap.size+1,1,none⟩=some (.slice none 0 0):=KR4.cell 1;have q0:=KR4.frozen 0;have q1:=KR4.frozen 1;have hsh:=ho4.rd.shape;obtain ⟨a4,cv4,hv4⟩:=hsh;subst hv4))
  have Ho:=hide (((ho4.older (g:=w.heap.size+1) (by omega) 0 (.int .i64 e)).older (g:=w.heap.size+1) (by omega) 1 (.slice a4 l.length cv4)).mono (show w.heap.size<=_ by omega))
  have HB:=hide (((Hb2.out.trans (hb4.mono Hb2.out.size)).setCell (p:=⟨w.heap.size+1,0,none⟩) (show w.heap.size<=w.heap.size+1 by omega) (.int .i64 e)).setCell (p:=⟨w.heap.size+1,1,none⟩) (show w.heap.size<=w.heap.size+1 by omega) (.slice a4 l.length cv4))
  clear ho4 hb4 KA4
  go_wp2
  refine bodyPost_ret (v:=.agg #[.int .i64 e,.slice a4 l.length cv4]) (by simp [results,Tryz.f25,go_sem,r0,r1]) rfl ?_
  exact ⟨_,rfl,Ho.out,HB.out⟩
end Go.Proofs.YteefibiikampbaaGreatDoor
