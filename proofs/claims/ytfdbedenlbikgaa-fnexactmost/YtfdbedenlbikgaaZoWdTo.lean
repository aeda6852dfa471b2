/- A world. -/
import Derived.Test.YtfdbedenlbikgaaZoWdMem
import Derived.Test.YtfdbedenlbikgaaZoSnTo
set_option maxRecDepth 20000
set_option maxHeartbeats 8000000
namespace Go.Proofs.Ytfdbedenlbikgaa
open Go.RowKit
set_option linter.unusedVariables false
structure FewMg (p:Mg):Prop where
  nb:p.bs.length<=4000000
  fb:∀ b ∈ p.bs,FewK b
  nq:p.qw.length<=4000000
  nw:p.tw.length<=4000000
  nh:p.th.length<=4000000
theorem Try.infoMg:(Try.prog.info? 112).map (·.size)=some 16:=by kernel_rfl
theorem res_toMsg {X:World} {a:Act} {R:Ending->World->Prop} {F:List Value} (g:Nat) (h:X.rangeAt g 0 F) (h2:a.tmps[2]?.getD undef=.pointer (some ⟨g,0,none⟩)) (hs:(Try.prog.info? 112).map (·.size)=some F.length) (hd:a.defers=[]) (hR:R (.returned (.agg F.toArray)) X):bodyPost Try.prog Try.f42 R .ret a X:=by
  have hl:=run_loadVar_mid (P:=Try.prog) X g 0 112 F _ h Try.underlying112 rfl hs
  refine bodyPost_ret (v:=.agg F.toArray) ?_ hd hR
  simp [results,Try.f42,h2,asAddr,hl]
theorem toMsg_any (p:Mg) (u:Mv) (w:World) (hr:RdMg w p u) (hf:FewMg p) :
    Calls Try.prog 42 #[mgV p u] w fun e w'=>∃ u',e=.returned (mgV p u')/\OwnMg w.heap.size w'.heap.size w' p u'/\Below w.heap.size w w':=by
  have hnb:=hf.nb
  have hfb:=hf.fb
  have hnq:=hf.nq
  have hnw:=hf.nw
  have hnh:=hf.nh
  clear hf
  obtain ⟨kd,tn,ep,bs,vr,vb,vw,gr,gh,gw,qr,qb,qw,tr,tw,th⟩:=p
  obtain ⟨yb,yq,yw,yh⟩:=u
  obtain ⟨hyb,hyq,hyw,hyh⟩:=hr
  simp only at *
  obtain ⟨adb,cpb,rfl⟩:=hyb.shape
  obtain ⟨adq,cpq,rfl⟩:=hyq.shape
  obtain ⟨adw,cpw,rfl⟩:=hyw.shape
  obtain ⟨adh,cph,rfl⟩:=hyh.shape
  have E1:=hide (fun V (hV:Below w.heap.size w V)=>toBlockS_any (.slice adb bs.length cpb) bs V (hyb.below hV (Nat.le_refl _)) hnb hfb)
  have E2:=hide (fun V (hV:Below w.heap.size w V)=>toVote_any vr vb vw V)
  have E3:=hide (fun V (hV:Below w.heap.size w V)=>toGone_any gr gh gw V)
  have E4:=hide (fun V (hV:Below w.heap.size w V)=>toQc_any qr qb (.slice adq qw.length cpq) qw V (hyq.below hV (Nat.le_refl _)) hnq)
  have E5:=hide (fun V (hV:Below w.heap.size w V)=>toTc_any tr (.slice adw tw.length cpw) (.slice adh th.length cph) tw th V (hyw.below hV (Nat.le_refl _)) (hyh.below hV (Nat.le_refl _)) hnw hnh)
  clear hyb hyq hyw hyh
  clear hfb
  simp only [mgV,qcV,tcV] at *
  go_enter Try.func42,Try.ntmps42
  go_wp2_with fail
  obtain ⟨S0,hS0⟩:∃ x,((w.alloc (.cells #[.int .i64 kd,.string tn,.int .i64 ep,.slice adb bs.length cpb,.int .i64 vr,.int .i64 vb,.string vw,.int .i64 gr,.int .i64 gh,.string gw,.int .i64 qr,.int .i64 qb,.slice adq qw.length cpq,.int .i64 tr,.slice adw tw.length cpw,.slice adh th.length cph] 101)).alloc (.cells #[.int .i64 0,.string { data:=#[] },.int .i64 0,.slice none 0 0,.int .i64 0,.int .i64 0,.string { data:=#[] },.int .i64 0,.int .i64 0,.string { data:=#[] },.int .i64 0,.int .i64 0,.slice none 0 0,.int .i64 0,.slice none 0 0,.slice none 0 0] 112)).alloc (.cells #[.int .i64 kd,.string tn,.int .i64 ep,.slice none 0 0,.int .i64 0,.int .i64 0,.string { data:=#[] },.int .i64 0,.int .i64 0,.string { data:=#[] },.int .i64 0,.int .i64 0,.slice none 0 0,.int .i64 0,.slice none 0 0,.slice none 0 0] 112)=x:=⟨_,rfl⟩
  rw [hS0]
  have C0:=hide (show Tg 101 112 [.int .i64 0,.string { data:=#[] },.int .i64 0,.slice none 0 0,.int .i64 0,.int .i64 0,.string { data:=#[] },.int .i64 0,.int .i64 0,.string { data:=#[] },.int .i64 0,.int .i64 0,.slice none 0 0,.int .i64 0,.slice none 0 0,.slice none 0 0] [.int .i64 kd,.string tn,.int .i64 ep,.slice adb bs.length cpb,.int .i64 vr,.int .i64 vb,.string vw,.int .i64 gr,.int .i64 gh,.string gw,.int .i64 qr,.int .i64 qb,.slice adq qw.length cpq,.int .i64 tr,.slice adw tw.length cpw,.slice adh th.length cph] w S0 [.int .i64 kd,.string tn,.int .i64 ep,.slice none 0 0,.int .i64 0,.int .i64 0,.string { data:=#[] },.int .i64 0,.int .i64 0,.string { data:=#[] },.int .i64 0,.int .i64 0,.slice none 0 0,.int .i64 0,.slice none 0 0,.slice none 0 0] from by
    rw [<- hS0]
    exact ⟨(Blk.new w _ _).below (((Below.refl (w.heap.size+1) _).alloc (by simp) _).alloc (by simp) _) (by omega),(Blk.newR _ _ [.int .i64 0,.string { data:=#[] },.int .i64 0,.slice none 0 0,.int .i64 0,.int .i64 0,.string { data:=#[] },.int .i64 0,.int .i64 0,.string { data:=#[] },.int .i64 0,.int .i64 0,.slice none 0 0,.int .i64 0,.slice none 0 0,.slice none 0 0] _ (by simp)).below ((Below.refl (w.heap.size+2) _).alloc (by simp) _) (by omega),Blk.newR _ _ [.int .i64 kd,.string tn,.int .i64 ep,.slice none 0 0,.int .i64 0,.int .i64 0,.string { data:=#[] },.int .i64 0,.int .i64 0,.string { data:=#[] },.int .i64 0,.int .i64 0,.slice none 0 0,.int .i64 0,.slice none 0 0,.slice none 0 0] _ (by simp),(((Below.refl _ w).alloc (Nat.le_refl _) _).alloc (by simp) _).alloc (by simp;omega) _⟩)
  clear hS0
  refine (E1.out S0 C0.out.b).mono ?_
  rintro e w1 ⟨v1,rfl,o1,hb1⟩
  obtain ⟨bdb,bpb,rfl⟩:=o1.rd.shape
  have G1:=C0.out.call hb1
  have q3:=G1.o.cell 3
  have g3:=G1.o.frozen 3
  simp only [List.getElem?_cons_zero,List.getElem?_cons_succ] at q3
  obtain ⟨S1,hS1⟩:∃ x,(w1).setCell ⟨w.heap.size+2,3,none⟩ (.slice bdb bs.length bpb)=x:=⟨_,rfl⟩
  have C1:=hide (show Tg 101 112 [.int .i64 0,.string { data:=#[] },.int .i64 0,.slice none 0 0,.int .i64 0,.int .i64 0,.string { data:=#[] },.int .i64 0,.int .i64 0,.string { data:=#[] },.int .i64 0,.int .i64 0,.slice none 0 0,.int .i64 0,.slice none 0 0,.slice none 0 0] [.int .i64 kd,.string tn,.int .i64 ep,.slice adb bs.length cpb,.int .i64 vr,.int .i64 vb,.string vw,.int .i64 gr,.int .i64 gh,.string gw,.int .i64 qr,.int .i64 qb,.slice adq qw.length cpq,.int .i64 tr,.slice adw tw.length cpw,.slice adh th.length cph] w S1 [.int .i64 kd,.string tn,.int .i64 ep,.slice bdb bs.length bpb,.int .i64 0,.int .i64 0,.string { data:=#[] },.int .i64 0,.int .i64 0,.string { data:=#[] },.int .i64 0,.int .i64 0,.slice none 0 0,.int .i64 0,.slice none 0 0,.slice none 0 0] from by rw [<- hS1];exact (G1.put 3 _))
  have P1:=hide (show Oth (fun g=>g=w.heap.size+2) S0 S1 from by rw [<- hS1];exact (tg_oth hb1 3 _))
  have N1:=hide (show w1.heap.size=S1.heap.size from by rw [<- hS1];simp)
  have Rb:=hide (show OwnKx S0.heap.size S1.heap.size S1 (.slice bdb bs.length bpb) bs from by rw [<- N1.out,<- hS1];exact ((OwnKs.kx o1)).kept (Kept.set _ 3 _ (.inl (by have:=C0.out.lt;omega))))
  clear G1 hb1 o1
  have p4:=C1.out.p.cell 4
  have p5:=C1.out.p.cell 5
  have p6:=C1.out.p.cell 6
  simp only [List.getElem?_cons_zero,List.getElem?_cons_succ] at p4 p5 p6
  go_wp2_with fail
  (try rw [hS1])
  clear p4 p5 p6 q3 g3  hS1
  refine (E2.out S1 C1.out.b).mono ?_
  rintro e w2 ⟨rfl,hb2⟩
  have G2:=C1.out.call hb2
  have q4:=G2.o.cell 4
  have g4:=G2.o.frozen 4
  have q5:=G2.o.cell 5
  have g5:=G2.o.frozen 5
  have q6:=G2.o.cell 6
  have g6:=G2.o.frozen 6
  simp only [List.getElem?_cons_zero,List.getElem?_cons_succ] at q4 q5 q6
  obtain ⟨S2,hS2⟩:∃ x,(((w2).setCell ⟨w.heap.size+2,4,none⟩ (.int .i64 vr)).setCell ⟨w.heap.size+2,5,none⟩ (.int .i64 vb)).setCell ⟨w.heap.size+2,6,none⟩ (.string vw)=x:=⟨_,rfl⟩
  have C2:=hide (show Tg 101 112 [.int .i64 0,.string { data:=#[] },.int .i64 0,.slice none 0 0,.int .i64 0,.int .i64 0,.string { data:=#[] },.int .i64 0,.int .i64 0,.string { data:=#[] },.int .i64 0,.int .i64 0,.slice none 0 0,.int .i64 0,.slice none 0 0,.slice none 0 0] [.int .i64 kd,.string tn,.int .i64 ep,.slice adb bs.length cpb,.int .i64 vr,.int .i64 vb,.string vw,.int .i64 gr,.int .i64 gh,.string gw,.int .i64 qr,.int .i64 qb,.slice adq qw.length cpq,.int .i64 tr,.slice adw tw.length cpw,.slice adh th.length cph] w S2 [.int .i64 kd,.string tn,.int .i64 ep,.slice bdb bs.length bpb,.int .i64 vr,.int .i64 vb,.string vw,.int .i64 0,.int .i64 0,.string { data:=#[] },.int .i64 0,.int .i64 0,.slice none 0 0,.int .i64 0,.slice none 0 0,.slice none 0 0] from by rw [<- hS2];exact (((G2.put 4 _).put 5 _).put 6 _))
  have P2:=hide (show Oth (fun g=>g=w.heap.size+2) S1 S2 from by rw [<- hS2];exact (((tg_oth hb2 4 _).set (S:=fun g=>g=w.heap.size+2) rfl 5 _).set (S:=fun g=>g=w.heap.size+2) rfl 6 _))
  have N2:=hide (show w2.heap.size=S2.heap.size from by rw [<- hS2];simp)
  clear G2 hb2
  have p7:=C2.out.p.cell 7
  have p8:=C2.out.p.cell 8
  have p9:=C2.out.p.cell 9
  simp only [List.getElem?_cons_zero,List.getElem?_cons_succ] at p7 p8 p9
  go_wp2_with fail
  (try rw [hS2])
  clear p7 p8 p9 q4 q5 q6 g4 g5 g6  hS2
  refine (E3.out S2 C2.out.b).mono ?_
  rintro e w3 ⟨rfl,hb3⟩
  have G3:=C2.out.call hb3
  have q7:=G3.o.cell 7
  have g7:=G3.o.frozen 7
  have q8:=G3.o.cell 8
  have g8:=G3.o.frozen 8
  have q9:=G3.o.cell 9
  have g9:=G3.o.frozen 9
  simp only [List.getElem?_cons_zero,List.getElem?_cons_succ] at q7 q8 q9
  obtain ⟨S3,hS3⟩:∃ x,(((w3).setCell ⟨w.heap.size+2,7,none⟩ (.int .i64 gr)).setCell ⟨w.heap.size+2,8,none⟩ (.int .i64 gh)).setCell ⟨w.heap.size+2,9,none⟩ (.string gw)=x:=⟨_,rfl⟩
  have C3:=hide (show Tg 101 112 [.int .i64 0,.string { data:=#[] },.int .i64 0,.slice none 0 0,.int .i64 0,.int .i64 0,.string { data:=#[] },.int .i64 0,.int .i64 0,.string { data:=#[] },.int .i64 0,.int .i64 0,.slice none 0 0,.int .i64 0,.slice none 0 0,.slice none 0 0] [.int .i64 kd,.string tn,.int .i64 ep,.slice adb bs.length cpb,.int .i64 vr,.int .i64 vb,.string vw,.int .i64 gr,.int .i64 gh,.string gw,.int .i64 qr,.int .i64 qb,.slice adq qw.length cpq,.int .i64 tr,.slice adw tw.length cpw,.slice adh th.length cph] w S3 [.int .i64 kd,.string tn,.int .i64 ep,.slice bdb bs.length bpb,.int .i64 vr,.int .i64 vb,.string vw,.int .i64 gr,.int .i64 gh,.string gw,.int .i64 0,.int .i64 0,.slice none 0 0,.int .i64 0,.slice none 0 0,.slice none 0 0] from by rw [<- hS3];exact (((G3.put 7 _).put 8 _).put 9 _))
  have P3:=hide (show Oth (fun g=>g=w.heap.size+2) S2 S3 from by rw [<- hS3];exact (((tg_oth hb3 7 _).set (S:=fun g=>g=w.heap.size+2) rfl 8 _).set (S:=fun g=>g=w.heap.size+2) rfl 9 _))
  have N3:=hide (show w3.heap.size=S3.heap.size from by rw [<- hS3];simp)
  clear G3 hb3
  have p10:=C3.out.p.cell 10
  have p11:=C3.out.p.cell 11
  have p12:=C3.out.p.cell 12
  simp only [List.getElem?_cons_zero,List.getElem?_cons_succ] at p10 p11 p12
  go_wp2_with fail
  (try rw [hS3])
  clear p10 p11 p12 q7 q8 q9 g7 g8 g9  hS3
  refine (E4.out S3 C3.out.b).mono ?_
  rintro e w4 ⟨v4,rfl,o4,hb4⟩
  obtain ⟨bdq,bpq,rfl⟩:=o4.rd.shape
  have G4:=C3.out.call hb4
  have q10:=G4.o.cell 10
  have g10:=G4.o.frozen 10
  have q11:=G4.o.cell 11
  have g11:=G4.o.frozen 11
  have q12:=G4.o.cell 12
  have g12:=G4.o.frozen 12
  simp only [List.getElem?_cons_zero,List.getElem?_cons_succ] at q10 q11 q12
  obtain ⟨S4,hS4⟩:∃ x,(((w4).setCell ⟨w.heap.size+2,10,none⟩ (.int .i64 qr)).setCell ⟨w.heap.size+2,11,none⟩ (.int .i64 qb)).setCell ⟨w.heap.size+2,12,none⟩ (.slice bdq qw.length bpq)=x:=⟨_,rfl⟩
  have C4:=hide (show Tg 101 112 [.int .i64 0,.string { data:=#[] },.int .i64 0,.slice none 0 0,.int .i64 0,.int .i64 0,.string { data:=#[] },.int .i64 0,.int .i64 0,.string { data:=#[] },.int .i64 0,.int .i64 0,.slice none 0 0,.int .i64 0,.slice none 0 0,.slice none 0 0] [.int .i64 kd,.string tn,.int .i64 ep,.slice adb bs.length cpb,.int .i64 vr,.int .i64 vb,.string vw,.int .i64 gr,.int .i64 gh,.string gw,.int .i64 qr,.int .i64 qb,.slice adq qw.length cpq,.int .i64 tr,.slice adw tw.length cpw,.slice adh th.length cph] w S4 [.int .i64 kd,.string tn,.int .i64 ep,.slice bdb bs.length bpb,.int .i64 vr,.int .i64 vb,.string vw,.int .i64 gr,.int .i64 gh,.string gw,.int .i64 qr,.int .i64 qb,.slice bdq qw.length bpq,.int .i64 0,.slice none 0 0,.slice none 0 0] from by rw [<- hS4];exact (((G4.put 10 _).put 11 _).put 12 _))
  have P4:=hide (show Oth (fun g=>g=w.heap.size+2) S3 S4 from by rw [<- hS4];exact (((tg_oth hb4 10 _).set (S:=fun g=>g=w.heap.size+2) rfl 11 _).set (S:=fun g=>g=w.heap.size+2) rfl 12 _))
  have N4:=hide (show w4.heap.size=S4.heap.size from by rw [<- hS4];simp)
  have Rq:=hide (show InS S3.heap.size S4.heap.size S4 (.slice bdq qw.length bpq) qw from by rw [<- N4.out,<- hS4];exact ((InS.of o4)).kept (((Kept.set _ 10 _ (.inl (by have:=C3.out.lt;omega))).trans (Kept.set _ 11 _ (.inl (by have:=C3.out.lt;omega)))).trans (Kept.set _ 12 _ (.inl (by have:=C3.out.lt;omega)))))
  clear G4 hb4 o4
  have p13:=C4.out.p.cell 13
  have p14:=C4.out.p.cell 14
  have p15:=C4.out.p.cell 15
  simp only [List.getElem?_cons_zero,List.getElem?_cons_succ] at p13 p14 p15
  go_wp2_with fail
  (try rw [hS4])
  clear p13 p14 p15 q10 q11 q12 g10 g11 g12  hS4
  refine (E5.out S4 C4.out.b).mono ?_
  rintro e w5 ⟨v5,z5,rfl,o5,i5,hb5⟩
  obtain ⟨bdw,bpw,rfl⟩:=o5.rd.shape
  obtain ⟨bdh,bph,rfl⟩:=i5.rd.shape
  have G5:=C4.out.call hb5
  have q13:=G5.o.cell 13
  have g13:=G5.o.frozen 13
  have q14:=G5.o.cell 14
  have g14:=G5.o.frozen 14
  have q15:=G5.o.cell 15
  have g15:=G5.o.frozen 15
  simp only [List.getElem?_cons_zero,List.getElem?_cons_succ] at q13 q14 q15
  obtain ⟨S5,hS5⟩:∃ x,(((w5).setCell ⟨w.heap.size+2,13,none⟩ (.int .i64 tr)).setCell ⟨w.heap.size+2,14,none⟩ (.slice bdw tw.length bpw)).setCell ⟨w.heap.size+2,15,none⟩ (.slice bdh th.length bph)=x:=⟨_,rfl⟩
  have C5:=hide (show Tg 101 112 [.int .i64 0,.string { data:=#[] },.int .i64 0,.slice none 0 0,.int .i64 0,.int .i64 0,.string { data:=#[] },.int .i64 0,.int .i64 0,.string { data:=#[] },.int .i64 0,.int .i64 0,.slice none 0 0,.int .i64 0,.slice none 0 0,.slice none 0 0] [.int .i64 kd,.string tn,.int .i64 ep,.slice adb bs.length cpb,.int .i64 vr,.int .i64 vb,.string vw,.int .i64 gr,.int .i64 gh,.string gw,.int .i64 qr,.int .i64 qb,.slice adq qw.length cpq,.int .i64 tr,.slice adw tw.length cpw,.slice adh th.length cph] w S5 [.int .i64 kd,.string tn,.int .i64 ep,.slice bdb bs.length bpb,.int .i64 vr,.int .i64 vb,.string vw,.int .i64 gr,.int .i64 gh,.string gw,.int .i64 qr,.int .i64 qb,.slice bdq qw.length bpq,.int .i64 tr,.slice bdw tw.length bpw,.slice bdh th.length bph] from by rw [<- hS5];exact (((G5.put 13 _).put 14 _).put 15 _))
  have P5:=hide (show Oth (fun g=>g=w.heap.size+2) S4 S5 from by rw [<- hS5];exact (((tg_oth hb5 13 _).set (S:=fun g=>g=w.heap.size+2) rfl 14 _).set (S:=fun g=>g=w.heap.size+2) rfl 15 _))
  have N5:=hide (show w5.heap.size=S5.heap.size from by rw [<- hS5];simp)
  have Rw:=hide (show InS S4.heap.size S5.heap.size S5 (.slice bdw tw.length bpw) tw from by rw [<- N5.out,<- hS5];exact ((InS.of o5)).kept (((Kept.set _ 13 _ (.inl (by have:=C4.out.lt;omega))).trans (Kept.set _ 14 _ (.inl (by have:=C4.out.lt;omega)))).trans (Kept.set _ 15 _ (.inl (by have:=C4.out.lt;omega)))))
  have Rh:=hide (show InI S4.heap.size S5.heap.size S5 (.slice bdh th.length bph) th from by rw [<- N5.out,<- hS5];exact ((InI.of i5)).kept (((Kept.set _ 13 _ (.inl (by have:=C4.out.lt;omega))).trans (Kept.set _ 14 _ (.inl (by have:=C4.out.lt;omega)))).trans (Kept.set _ 15 _ (.inl (by have:=C4.out.lt;omega)))))
  clear G5 hb5 o5 i5
  have hz0:=C0.out.lt
  obtain ⟨F,hF⟩:∃ x,([.int .i64 kd,.string tn,.int .i64 ep,.slice bdb bs.length bpb,.int .i64 vr,.int .i64 vb,.string vw,.int .i64 gr,.int .i64 gh,.string gw,.int .i64 qr,.int .i64 qb,.slice bdq qw.length bpq,.int .i64 tr,.slice bdw tw.length bpw,.slice bdh th.length bph]:List Value)=x:=⟨_,rfl⟩
  have hFl:F.length=16:=by rw [<- hF];rfl
  have hF1:F.toArray.all (·.oneCell')=true:=by rw [List.all_toArray,<- hF];rfl
  have Hsz:=hide (show (Try.prog.info? 112).map (·.size)=some F.length from by rw [hFl];exact Try.infoMg)
  have Hld:=hide (show S5.rangeAt (w.heap.size+2) 0 F from by rw [<- hF];exact blk_range C5.out.o)
  have HRk:=hide (show Blk S5 (w.heap.size+1) 112 [.int .i64 0,.string { data:=#[] },.int .i64 0,.slice none 0 0,.int .i64 0,.int .i64 0,.string { data:=#[] },.int .i64 0,.int .i64 0,.string { data:=#[] },.int .i64 0,.int .i64 0,.slice none 0 0,.int .i64 0,.slice none 0 0,.slice none 0 0] from C5.out.r)
  have Hth:=hide (show S5.there (w.heap.size+1) 0 F.toArray.size from by rw [show F.toArray.size=16 from by simpa using hFl];exact HRk.out.there rfl)
  have HX:=hide (show Blk (S5.setCells (w.heap.size+1) 0 F) (w.heap.size+1) 112 F from by rw [<- hF];exact blk_all HRk.out (by rfl))
  have HB:=hide (C5.out.b.trans (putC_below (B:=w.heap.size) (show w.heap.size<=w.heap.size+1 by omega) F S5 0))
  have Y1:=(show S0.heap.size<=S1.heap.size from P1.out.size)
  have Y2:=(show S1.heap.size<=S2.heap.size from P2.out.size)
  have Y3:=(show S2.heap.size<=S3.heap.size from P3.out.size)
  have Y4:=(show S3.heap.size<=S4.heap.size from P4.out.size)
  have Y5:=(show S4.heap.size<=S5.heap.size from P5.out.size)
  have Fb:=hide (show OwnKx S0.heap.size S1.heap.size (S5.setCells (w.heap.size+1) 0 F) (.slice bdb bs.length bpb) bs from (((((Rb.out.kept (Kept.of_oth P2.out (fun g a b e=>by have e9:g=w.heap.size+2:=e;omega))).kept (Kept.of_oth P3.out (fun g a b e=>by have e9:g=w.heap.size+2:=e;omega))).kept (Kept.of_oth P4.out (fun g a b e=>by have e9:g=w.heap.size+2:=e;omega))).kept (Kept.of_oth P5.out (fun g a b e=>by have e9:g=w.heap.size+2:=e;omega))).kept (Kept.setCs _ 0 F (.inl (by omega)))))
  have Fq:=hide (show InS S3.heap.size S4.heap.size (S5.setCells (w.heap.size+1) 0 F) (.slice bdq qw.length bpq) qw from ((Rq.out.kept (Kept.of_oth P5.out (fun g a b e=>by have e9:g=w.heap.size+2:=e;omega))).kept (Kept.setCs _ 0 F (.inl (by omega)))))
  have Fw:=hide (show InS S4.heap.size S5.heap.size (S5.setCells (w.heap.size+1) 0 F) (.slice bdw tw.length bpw) tw from (Rw.out.kept (Kept.setCs _ 0 F (.inl (by omega)))))
  have Fh:=hide (show InI S4.heap.size S5.heap.size (S5.setCells (w.heap.size+1) 0 F) (.slice bdh th.length bph) th from (Rh.out.kept (Kept.setCs _ 0 F (.inl (by omega)))))
  have FZ:=hide (show (S5.setCells (w.heap.size+1) 0 F).heap.size=S5.heap.size from size_sets _ F _ 0)
  have FY:=hide (show w.heap.size<=S0.heap.size from by omega)
  have W1:=hide Y1
  have W2:=hide Y2
  have W3:=hide Y3
  have W4:=hide Y4
  have W5:=hide Y5
  clear hz0 Y1 Y2 Y3 Y4 Y5 Rb Rq Rw Rh P1 C1 N1 P2 C2 N2 P3 C3 N3 P4 C4 N4 P5 C5 N5 E1 E2 E3 E4 E5 C0 HRk hFl
  go_wp2_with (first
    | (refine wpList_load_mid rfl 112 _ rfl (w.heap.size+2) 0 rfl F _ Hld.out Try.underlying112 rfl Hsz.out ?_)
    | (refine wpList_store_mid rfl 112 _ _ rfl (w.heap.size+1) 0 F.toArray rfl rfl Hth.out (by simpa using Hsz.out) hF1 ?_)
    | fail)
  (try rw [hS5])
  (try simp only [List.toList_toArray])
  refine res_toMsg (F:=F) (w.heap.size+1) (blk_range HX.out) (by rfl) Hsz.out rfl ?_
  subst hF
  have fz:=FZ.out
  have fy:=FY.out
  have o1:=W1.out
  have o2:=W2.out
  have o3:=W3.out
  have o4:=W4.out
  have o5:=W5.out
  refine ⟨⟨.slice bdb bs.length bpb,.slice bdq qw.length bpq,.slice bdw tw.length bpw,.slice bdh th.length bph⟩,rfl,⟨⟨S0.heap.size,S1.heap.size,S4.heap.size,S5.heap.size,by omega,by omega,by omega,by omega,by omega,Fb.out.wide (by omega) (by omega),Fq.out.wide (by omega) (by omega),Fw.out.wide (by omega) (by omega),Fh.out.wide (by omega) (by omega)⟩⟩,HB.out⟩
theorem mgC_one {w:World} {p:Mg} {u:Mv} (h:RdMg w p u):(mgC p u).all (·.oneCell')=true:=by
  obtain ⟨adb,cpb,eqb⟩:=h.kb.shape
  obtain ⟨adq,cpq,eqq⟩:=h.kq.shape
  obtain ⟨adw,cpw,eqw⟩:=h.kw.shape
  obtain ⟨adh,cph,eqh⟩:=h.kh.shape
  simp [mgC,Value.oneCell',eqb,eqq,eqw,eqh]
theorem Try.infoRMg:(Try.prog.info? 112).map (fun i=>(i.zero,i.size,i.bytes))=some (some (.agg #[.int .i64 0,.string { data:=#[] },.int .i64 0,.slice none 0 0,.int .i64 0,.int .i64 0,.string { data:=#[] },.int .i64 0,.int .i64 0,.string { data:=#[] },.int .i64 0,.int .i64 0,.slice none 0 0,.int .i64 0,.slice none 0 0,.slice none 0 0]),16,216):=by kernel_rfl
theorem Try.infoWMg:(Try.prog.info? 101).map (·.size)=some 16:=by kernel_rfl
theorem toMsgS_any (v:Value) (l:List Mg) (w:World) (hr:RdMs w v l) (hl:l.length<=4000000) (hall:∀ a ∈ l,FewMg a) :
    Calls Try.prog 23 #[v] w fun e w'=>∃ v',e=.returned v'/\OwnMx w.heap.size w'.heap.size w' v' l/\Below w.heap.size w w':=by
  obtain ⟨i0,hi,hz0,hz1,hz2⟩:=info_parts Try.infoRMg
  obtain ⟨Z0,rfl,hr⟩:=hr
  have hl':Z0.length<=4000000:=by simpa using hl
  rcases hr with ⟨a,cap,rfl,rfl,-⟩ | ⟨b,off,cap,h0,rfl,h1,h2,h3,h4⟩
  · go_enter Try.func23,Try.ntmps23
    go_wp2_with (refine wpList_make_full _ rfl _ _ 40 rfl w.heap.size 112 i0 (.agg #[.int .i64 0,.string { data:=#[] },.int .i64 0,.slice none 0 0,.int .i64 0,.int .i64 0,.string { data:=#[] },.int .i64 0,.int .i64 0,.string { data:=#[] },.int .i64 0,.int .i64 0,.slice none 0 0,.int .i64 0,.slice none 0 0,.slice none 0 0]) 16 Try.underlying40 hi hz0 hz1 .i64 .i64 _ _ 0 rfl rfl rfl rfl (by omega) (by unfold maxLen;omega) (Nat.le_refl _) ?_;intro w1 hown hgrow)
    have hb1:Below w.heap.size w w1:=(Below.refl _ _).grown hgrow (Nat.le_refl _) (by intro k hk;cases hk)
    refine wp_loop_rounds 1 ?_
    rw [rounds_succ]
    go_wp2
    go_ret
    have e:=made_flat (Value.agg #[.int .i64 0,.string { data:=#[] },.int .i64 0,.slice none 0 0,.int .i64 0,.int .i64 0,.string { data:=#[] },.int .i64 0,.int .i64 0,.string { data:=#[] },.int .i64 0,.int .i64 0,.slice none 0 0,.int .i64 0,.slice none 0 0,.slice none 0 0]).cells 16 0 rfl (by omega)
    rw [e] at hown
    exact ⟨_,rfl,⟨[],rfl,hown,top_row hown,Parts.nil _ _ _ _ _⟩,hb1⟩
  · obtain ⟨N,hN⟩:∃ N,Z0.length=N:=⟨_,rfl⟩
    rw [hN] at h1 hl' ⊢
    go_enter Try.func23,Try.ntmps23
    go_wp2_with (refine wpList_make_full _ rfl _ _ 40 rfl w.heap.size 112 i0 (.agg #[.int .i64 0,.string { data:=#[] },.int .i64 0,.slice none 0 0,.int .i64 0,.int .i64 0,.string { data:=#[] },.int .i64 0,.int .i64 0,.string { data:=#[] },.int .i64 0,.int .i64 0,.slice none 0 0,.int .i64 0,.slice none 0 0,.slice none 0 0]) 16 Try.underlying40 hi hz0 hz1 .i64 .i64 _ _ N rfl rfl rfl rfl (by rw [hz2];omega) (by unfold maxLen;omega) (Nat.le_refl _) ?_;intro w1 hown hgrow)
    have hb1:Below w.heap.size w w1:=(Below.refl _ _).grown hgrow (Nat.le_refl _) (by intro k hk;cases hk)
    have HN:=hide hN
    have H4:=hide h4
    have HA:=hide hall
    clear hN h4 hall
    go_loopw [4] (fun i wr=>∃ (k:Nat) (Z:List (Mg × Mv)),k<=N/\i=.int .i64 k/\Z.map (·.1)=(Z0.map (·.1)).take k/\wr.ownsRow w.heap.size 112 16 (.slice (some ⟨w.heap.size,0,none⟩) N N) N (prt (Z.map (fun q=>mgC q.1 q.2)) mgCZ N).flatten/\Parts (fun a b w q=>OwnMg a b w q.1 q.2) w.heap.size wr.heap.size (some w.heap.size) wr Z/\Below w.heap.size w wr)
      (fun i _=>N - (intOf i).toNat)
    case atStart =>
      refine ⟨0,[],Nat.zero_le _,rfl,rfl,?_,Parts.nil _ _ _ _ _,hb1⟩
      rw [List.map_nil,prt_zero]
      have e:=made_flat (Value.agg #[.int .i64 0,.string { data:=#[] },.int .i64 0,.slice none 0 0,.int .i64 0,.int .i64 0,.string { data:=#[] },.int .i64 0,.int .i64 0,.string { data:=#[] },.int .i64 0,.int .i64 0,.slice none 0 0,.int .i64 0,.slice none 0 0,.slice none 0 0]).cells 16 N rfl (by omega)
      rw [e] at hown
      exact hown
    case round =>
      obtain ⟨k,Z,hk,rfl,hZ,ho,hpt,hb⟩:=hrel
      clear hown hgrow hb1
      have hZl:(Z.map (fun q=>mgC q.1 q.2)).length=k:=by have:=congrArg List.length hZ;simp at this;simp;have:=HN.out;omega
      by_cases hlt:k < N
      · have hk0:k < Z0.length:=by rw [HN.out];exact hlt
        have hrg:=range_below (H4.out k hk0).1 hb h3
        have HT:=hide (toMsg_any Z0[k].1 Z0[k].2 wr ((H4.out k hk0).2.below hb (Nat.le_refl _)) (HA.out _ (List.mem_map.2 ⟨_,List.getElem_mem hk0,rfl⟩)))
        have hli:(k:Int) < (N:Int):=by omega
        have psz:=prt_sz 16 (Z.map (fun q=>mgC q.1 q.2)) mgCZ N (mapC_sz mgC_sz Z) rfl
        have plen:=prt_len (Z.map (fun q=>mgC q.1 q.2)) mgCZ N (by omega)
        have Hput:Hid (∀ u':Mv,setAll (prt (Z.map (fun q=>mgC q.1 q.2)) mgCZ N).flatten (k * 16) (mgC Z0[k].1 u')=(prt ((Z ++ [(Z0[k].1,u')]).map (fun q=>mgC q.1 q.2)) mgCZ N).flatten):=hide (fun u'=>by
          rw [setAll_flat 16 (mgC Z0[k].1 u') _ k (by rw [plen];exact hlt) psz rfl,prt_next _ _ _ _ k hZl.symm hlt,List.map_append]
          rfl)
        have HZ2:Hid (∀ u':Mv,(Z ++ [(Z0[k].1,u')]).map (·.1)=(Z0.map (·.1)).take (k+1)):=hide (fun u'=>by rw [List.map_append,hZ,List.take_succ_eq_append_getElem (by simpa using hk0)];simp)
        have Hln:Hid (k * 16+16<=(prt (Z.map (fun q=>mgC q.1 q.2)) mgCZ N).flatten.length):=hide (by rw [flat_len 16 _ psz,plen];omega)
        have Hpt:=hide hpt
        have hgl:w.heap.size < wr.heap.size:=(World.ownsRow.lt ho w.heap.size rfl).2
        have Ho:=hide ho
        have hil:(Try.prog.info? 101).map (·.size)=some (mgC Z0[k].1 Z0[k].2).length:=Try.infoWMg
        rw [show mgV Z0[k].1 Z0[k].2=.agg (mgC Z0[k].1 Z0[k].2).toArray from rfl] at HT
        have Hil:=hide hil
        have Hrg:=hide hrg
        clear hpt psz plen hZl hZ ho hrg hil
        generalize mgC Z0[k].1 Z0[k].2=cs at HT Hil Hrg
        generalize Z0[k].1=p at HT Hput HZ2
        go_wp2_with (first
          | (refine wpList_load_mid rfl 101 _ rfl b (off+k * 16) rfl cs _ Hrg.out Try.underlying101 rfl Hil.out ?_)
          | fail)
        refine HT.out.mono ?_
        rintro e w2 ⟨u',rfl,ho',hb2⟩
        have hB2:=hb.trans (hb2.mono hb.size)
        have HZ3:=hide (HZ2.out u')
        have ho2:=row_below Ho.out hb2 (Nat.le_refl _)
        have Hth:=hide (show w2.there w.heap.size (k * 16) (mgC p u').toArray.size from row_thereN ho2 Hln.out)
        have HR:=hide (putC_row (mgC p u') w2 (k * 16) _ ho2)
        rw [Hput.out] at HR
        have HF:=hide (hB2.trans (putC_below (Nat.le_refl _) (mgC p u') w2 (k * 16)))
        have s2:=hb2.size
        have HP:=hide (show Parts (fun a b w q=>OwnMg a b w q.1 q.2) w.heap.size (w2.setCells w.heap.size (k * 16) (mgC p u')).heap.size (some w.heap.size) (w2.setCells w.heap.size (k * 16) (mgC p u')) (Z ++ [(p,u')]) from by
          rw [size_sets]
          refine Parts.turn ?_ (fun a b q h1 h2 h3 hq=>hq.kept (Kept.setCs w2 _ _ (by have:=h3 _ rfl;omega)))
          exact (Hpt.out.turn (fun a b q h1 h2 _ hq=>hq.kept (Kept.of_below hb2 (Nat.le_refl _)))).snoc (p,u') (Nat.le_refl _) (by omega) s2 (fun g e=>by cases e;omega) ho')
        have H1:Hid ((mgC p u').toArray.all (·.oneCell')=true):=hide (by rw [List.all_toArray];exact mgC_one ho'.rd)
        have Hi2:Hid ((Try.prog.info? 112).map (·.size)=some (mgC p u').toArray.size):=hide Try.infoMg
        rw [show mgV p u'=.agg (mgC p u').toArray from rfl]
        clear hb2 hB2 ho' ho2 s2 HZ2 Hput HT
        generalize mgC p u'=ds at Hth HR HF HP H1 Hi2
        go_wp2_with (first
          | (refine wpList_store_mid rfl 112 _ _ rfl w.heap.size (k * 16) ds.toArray rfl rfl Hth.out Hi2.out H1.out ?_)
          | fail)
        go_roundw
        case rel=>exact ⟨k+1,_,by omega,by go_num,HZ3.out,HR.out,HP.out,HF.out⟩
        case measure=>simp [intOf];omega
      · have e:k=N:=by omega
        subst e
        rw [prt_all _ _ _ hZl] at ho
        have hZe:Z.map (·.1)=Z0.map (·.1):=by rw [hZ,List.take_of_length_le (by simp;have:=HN.out;omega)]
        have hZn:Z.length=k:=by simpa using hZl
        go_wp2
        go_ret
        subst hZn
        exact ⟨_,rfl,⟨Z,hZe,ho,top_row ho,hpt.no (fun g e=>by cases e;exact .inr (.inr rfl))⟩,hb⟩
structure FewWd (p:Wd):Prop where
  na:p.la.length<=4000000
  fa:∀ a ∈ p.la,a.2.2.2.2.length<=4000000
  nf:p.fo.length<=4000000
  nn:p.ns.length<=4000000
  fn:∀ q ∈ p.ns,FewNd q
  nb:p.bs.length<=4000000
  fb:∀ b ∈ p.bs,FewK b
  ns:p.sg.length<=4000000
  fs:∀ q ∈ p.sg,FewSn q
  nm:p.ms.length<=4000000
  fm:∀ q ∈ p.ms,FewMg q
theorem Try.infoWd:(Try.prog.info? 42).map (·.size)=some 7:=by kernel_rfl
theorem res_toWorld {X:World} {a:Act} {R:Ending->World->Prop} {F:List Value} (g:Nat) (h:X.rangeAt g 0 F) (h2:a.tmps[2]?.getD undef=.pointer (some ⟨g,0,none⟩)) (hs:(Try.prog.info? 42).map (·.size)=some F.length) (hd:a.defers=[]) (hR:R (.returned (.agg F.toArray)) X):bodyPost Try.prog Try.f7 R .ret a X:=by
  have hl:=run_loadVar_mid (P:=Try.prog) X g 0 42 F _ h Try.underlying42 rfl hs
  refine bodyPost_ret (v:=.agg F.toArray) ?_ hd hR
  simp [results,Try.f7,h2,asAddr,hl]
theorem toWorld_any (p:Wd) (u:Wv) (w:World) (hr:RdWd w p u) (hf:FewWd p) :
    Calls Try.prog 7 #[wdV p u] w fun e w'=>∃ u',e=.returned (wdV p u')/\OwnWd w.heap.size w'.heap.size w' p u'/\Below w.heap.size w w':=by
  have hna:=hf.na
  have hfa:=hf.fa
  have hnf:=hf.nf
  have hnn:=hf.nn
  have hfn:=hf.fn
  have hnb:=hf.nb
  have hfb:=hf.fb
  have hns:=hf.ns
  have hfs:=hf.fs
  have hnm:=hf.nm
  have hfm:=hf.fm
  clear hf
  obtain ⟨ep,la,fo,ns,bs,sg,ms⟩:=p
  obtain ⟨ya,yf,yn,yb,ys,ym⟩:=u
  obtain ⟨hya,hyf,hyn,hyb,hys,hym⟩:=hr
  simp only at *
  obtain ⟨ada,cpa,rfl⟩:=hya.shape
  obtain ⟨adf,cpf,rfl⟩:=hyf.shape
  obtain ⟨adn,cpn,rfl⟩:=hyn.shape
  obtain ⟨adb,cpb,rfl⟩:=hyb.shape
  obtain ⟨ads,cps,rfl⟩:=hys.shape
  obtain ⟨adm,cpm,rfl⟩:=hym.shape
  have E1:=hide (fun V (hV:Below w.heap.size w V)=>toLedger_any ep (.slice ada la.length cpa) la V (hya.below hV (Nat.le_refl _)) hna hfa)
  have E2:=hide (fun V (hV:Below w.heap.size w V)=>toStringS_any (.slice adf fo.length cpf) fo V (hyf.below hV (Nat.le_refl _)) hnf)
  have E3:=hide (fun V (hV:Below w.heap.size w V)=>toNodeS_any (.slice adn ns.length cpn) ns V (hyn.below hV (Nat.le_refl _)) hnn hfn)
  have E4:=hide (fun V (hV:Below w.heap.size w V)=>toBlockS_any (.slice adb bs.length cpb) bs V (hyb.below hV (Nat.le_refl _)) hnb hfb)
  have E5:=hide (fun V (hV:Below w.heap.size w V)=>toSigS_any (.slice ads sg.length cps) sg V (hys.below hV (Nat.le_refl _)) hns hfs)
  have E6:=hide (fun V (hV:Below w.heap.size w V)=>toMsgS_any (.slice adm ms.length cpm) ms V (hym.below hV (Nat.le_refl _)) hnm hfm)
  clear hya hyf hyn hyb hys hym
  clear hfa
  clear hfn
  clear hfb
  clear hfs
  clear hfm
  simp only [wdV,lgV] at *
  go_enter Try.func7,Try.ntmps7
  go_wp2_with fail
  obtain ⟨S0,hS0⟩:∃ x,((w.alloc (.cells #[.int .i64 ep,.slice ada la.length cpa,.slice adf fo.length cpf,.slice adn ns.length cpn,.slice adb bs.length cpb,.slice ads sg.length cps,.slice adm ms.length cpm] 31)).alloc (.cells #[.int .i64 0,.slice none 0 0,.slice none 0 0,.slice none 0 0,.slice none 0 0,.slice none 0 0,.slice none 0 0] 42)).alloc (.cells #[.int .i64 0,.slice none 0 0,.slice none 0 0,.slice none 0 0,.slice none 0 0,.slice none 0 0,.slice none 0 0] 42)=x:=⟨_,rfl⟩
  rw [hS0]
  have C0:=hide (show Tg 31 42 [.int .i64 0,.slice none 0 0,.slice none 0 0,.slice none 0 0,.slice none 0 0,.slice none 0 0,.slice none 0 0] [.int .i64 ep,.slice ada la.length cpa,.slice adf fo.length cpf,.slice adn ns.length cpn,.slice adb bs.length cpb,.slice ads sg.length cps,.slice adm ms.length cpm] w S0 [.int .i64 0,.slice none 0 0,.slice none 0 0,.slice none 0 0,.slice none 0 0,.slice none 0 0,.slice none 0 0] from by
    rw [<- hS0]
    exact ⟨(Blk.new w _ _).below (((Below.refl (w.heap.size+1) _).alloc (by simp) _).alloc (by simp) _) (by omega),(Blk.newR _ _ [.int .i64 0,.slice none 0 0,.slice none 0 0,.slice none 0 0,.slice none 0 0,.slice none 0 0,.slice none 0 0] _ (by simp)).below ((Below.refl (w.heap.size+2) _).alloc (by simp) _) (by omega),Blk.newR _ _ [.int .i64 0,.slice none 0 0,.slice none 0 0,.slice none 0 0,.slice none 0 0,.slice none 0 0,.slice none 0 0] _ (by simp),(((Below.refl _ w).alloc (Nat.le_refl _) _).alloc (by simp) _).alloc (by simp;omega) _⟩)
  clear hS0
  refine (E1.out S0 C0.out.b).mono ?_
  rintro e w1 ⟨v1,rfl,o1,hb1⟩
  obtain ⟨bda,bpa,rfl⟩:=o1.rd.shape
  have G1:=C0.out.call hb1
  have q0:=G1.o.cell 0
  have g0:=G1.o.frozen 0
  have q1:=G1.o.cell 1
  have g1:=G1.o.frozen 1
  simp only [List.getElem?_cons_zero,List.getElem?_cons_succ] at q0 q1
  obtain ⟨S1,hS1⟩:∃ x,((w1).setCell ⟨w.heap.size+2,0,none⟩ (.int .i64 ep)).setCell ⟨w.heap.size+2,1,none⟩ (.slice bda la.length bpa)=x:=⟨_,rfl⟩
  have C1:=hide (show Tg 31 42 [.int .i64 0,.slice none 0 0,.slice none 0 0,.slice none 0 0,.slice none 0 0,.slice none 0 0,.slice none 0 0] [.int .i64 ep,.slice ada la.length cpa,.slice adf fo.length cpf,.slice adn ns.length cpn,.slice adb bs.length cpb,.slice ads sg.length cps,.slice adm ms.length cpm] w S1 [.int .i64 ep,.slice bda la.length bpa,.slice none 0 0,.slice none 0 0,.slice none 0 0,.slice none 0 0,.slice none 0 0] from by rw [<- hS1];exact ((G1.put 0 _).put 1 _))
  have P1:=hide (show Oth (fun g=>g=w.heap.size+2) S0 S1 from by rw [<- hS1];exact ((tg_oth hb1 0 _).set (S:=fun g=>g=w.heap.size+2) rfl 1 _))
  have N1:=hide (show w1.heap.size=S1.heap.size from by rw [<- hS1];simp)
  have Ra:=hide (show OwnX S0.heap.size S1.heap.size S1 (.slice bda la.length bpa) la from by rw [<- N1.out,<- hS1];exact ((OwnA.ox o1)).kept ((Kept.set _ 0 _ (.inl (by have:=C0.out.lt;omega))).trans (Kept.set _ 1 _ (.inl (by have:=C0.out.lt;omega)))))
  clear G1 hb1 o1
  have p2:=C1.out.p.cell 2
  simp only [List.getElem?_cons_zero,List.getElem?_cons_succ] at p2
  go_wp2_with fail
  (try rw [hS1])
  clear p2 q0 q1 g0 g1  hS1
  refine (E2.out S1 C1.out.b).mono ?_
  rintro e w2 ⟨v2,rfl,o2,hb2⟩
  obtain ⟨bdf,bpf,rfl⟩:=o2.rd.shape
  have G2:=C1.out.call hb2
  have q2:=G2.o.cell 2
  have g2:=G2.o.frozen 2
  simp only [List.getElem?_cons_zero,List.getElem?_cons_succ] at q2
  obtain ⟨S2,hS2⟩:∃ x,(w2).setCell ⟨w.heap.size+2,2,none⟩ (.slice bdf fo.length bpf)=x:=⟨_,rfl⟩
  have C2:=hide (show Tg 31 42 [.int .i64 0,.slice none 0 0,.slice none 0 0,.slice none 0 0,.slice none 0 0,.slice none 0 0,.slice none 0 0] [.int .i64 ep,.slice ada la.length cpa,.slice adf fo.length cpf,.slice adn ns.length cpn,.slice adb bs.length cpb,.slice ads sg.length cps,.slice adm ms.length cpm] w S2 [.int .i64 ep,.slice bda la.length bpa,.slice bdf fo.length bpf,.slice none 0 0,.slice none 0 0,.slice none 0 0,.slice none 0 0] from by rw [<- hS2];exact (G2.put 2 _))
  have P2:=hide (show Oth (fun g=>g=w.heap.size+2) S1 S2 from by rw [<- hS2];exact (tg_oth hb2 2 _))
  have N2:=hide (show w2.heap.size=S2.heap.size from by rw [<- hS2];simp)
  have Rf:=hide (show InS S1.heap.size S2.heap.size S2 (.slice bdf fo.length bpf) fo from by rw [<- N2.out,<- hS2];exact ((InS.of o2)).kept (Kept.set _ 2 _ (.inl (by have:=C1.out.lt;omega))))
  clear G2 hb2 o2
  have p3:=C2.out.p.cell 3
  simp only [List.getElem?_cons_zero,List.getElem?_cons_succ] at p3
  go_wp2_with fail
  (try rw [hS2])
  clear p3 q2 g2  hS2
  refine (E3.out S2 C2.out.b).mono ?_
  rintro e w3 ⟨v3,rfl,o3,hb3⟩
  obtain ⟨bdn,bpn,rfl⟩:=o3.rd.shape
  have G3:=C2.out.call hb3
  have q3:=G3.o.cell 3
  have g3:=G3.o.frozen 3
  simp only [List.getElem?_cons_zero,List.getElem?_cons_succ] at q3
  obtain ⟨S3,hS3⟩:∃ x,(w3).setCell ⟨w.heap.size+2,3,none⟩ (.slice bdn ns.length bpn)=x:=⟨_,rfl⟩
  have C3:=hide (show Tg 31 42 [.int .i64 0,.slice none 0 0,.slice none 0 0,.slice none 0 0,.slice none 0 0,.slice none 0 0,.slice none 0 0] [.int .i64 ep,.slice ada la.length cpa,.slice adf fo.length cpf,.slice adn ns.length cpn,.slice adb bs.length cpb,.slice ads sg.length cps,.slice adm ms.length cpm] w S3 [.int .i64 ep,.slice bda la.length bpa,.slice bdf fo.length bpf,.slice bdn ns.length bpn,.slice none 0 0,.slice none 0 0,.slice none 0 0] from by rw [<- hS3];exact (G3.put 3 _))
  have P3:=hide (show Oth (fun g=>g=w.heap.size+2) S2 S3 from by rw [<- hS3];exact (tg_oth hb3 3 _))
  have N3:=hide (show w3.heap.size=S3.heap.size from by rw [<- hS3];simp)
  have Rn:=hide (show OwnNx S2.heap.size S3.heap.size S3 (.slice bdn ns.length bpn) ns from by rw [<- N3.out,<- hS3];exact (o3).kept (Kept.set _ 3 _ (.inl (by have:=C2.out.lt;omega))))
  clear G3 hb3 o3
  have p4:=C3.out.p.cell 4
  simp only [List.getElem?_cons_zero,List.getElem?_cons_succ] at p4
  go_wp2_with fail
  (try rw [hS3])
  clear p4 q3 g3  hS3
  refine (E4.out S3 C3.out.b).mono ?_
  rintro e w4 ⟨v4,rfl,o4,hb4⟩
  obtain ⟨bdb,bpb,rfl⟩:=o4.rd.shape
  have G4:=C3.out.call hb4
  have q4:=G4.o.cell 4
  have g4:=G4.o.frozen 4
  simp only [List.getElem?_cons_zero,List.getElem?_cons_succ] at q4
  obtain ⟨S4,hS4⟩:∃ x,(w4).setCell ⟨w.heap.size+2,4,none⟩ (.slice bdb bs.length bpb)=x:=⟨_,rfl⟩
  have C4:=hide (show Tg 31 42 [.int .i64 0,.slice none 0 0,.slice none 0 0,.slice none 0 0,.slice none 0 0,.slice none 0 0,.slice none 0 0] [.int .i64 ep,.slice ada la.length cpa,.slice adf fo.length cpf,.slice adn ns.length cpn,.slice adb bs.length cpb,.slice ads sg.length cps,.slice adm ms.length cpm] w S4 [.int .i64 ep,.slice bda la.length bpa,.slice bdf fo.length bpf,.slice bdn ns.length bpn,.slice bdb bs.length bpb,.slice none 0 0,.slice none 0 0] from by rw [<- hS4];exact (G4.put 4 _))
  have P4:=hide (show Oth (fun g=>g=w.heap.size+2) S3 S4 from by rw [<- hS4];exact (tg_oth hb4 4 _))
  have N4:=hide (show w4.heap.size=S4.heap.size from by rw [<- hS4];simp)
  have Rb:=hide (show OwnKx S3.heap.size S4.heap.size S4 (.slice bdb bs.length bpb) bs from by rw [<- N4.out,<- hS4];exact ((OwnKs.kx o4)).kept (Kept.set _ 4 _ (.inl (by have:=C3.out.lt;omega))))
  clear G4 hb4 o4
  have p5:=C4.out.p.cell 5
  simp only [List.getElem?_cons_zero,List.getElem?_cons_succ] at p5
  go_wp2_with fail
  (try rw [hS4])
  clear p5 q4 g4  hS4
  refine (E5.out S4 C4.out.b).mono ?_
  rintro e w5 ⟨v5,rfl,o5,hb5⟩
  obtain ⟨bds,bps,rfl⟩:=o5.rd.shape
  have G5:=C4.out.call hb5
  have q5:=G5.o.cell 5
  have g5:=G5.o.frozen 5
  simp only [List.getElem?_cons_zero,List.getElem?_cons_succ] at q5
  obtain ⟨S5,hS5⟩:∃ x,(w5).setCell ⟨w.heap.size+2,5,none⟩ (.slice bds sg.length bps)=x:=⟨_,rfl⟩
  have C5:=hide (show Tg 31 42 [.int .i64 0,.slice none 0 0,.slice none 0 0,.slice none 0 0,.slice none 0 0,.slice none 0 0,.slice none 0 0] [.int .i64 ep,.slice ada la.length cpa,.slice adf fo.length cpf,.slice adn ns.length cpn,.slice adb bs.length cpb,.slice ads sg.length cps,.slice adm ms.length cpm] w S5 [.int .i64 ep,.slice bda la.length bpa,.slice bdf fo.length bpf,.slice bdn ns.length bpn,.slice bdb bs.length bpb,.slice bds sg.length bps,.slice none 0 0] from by rw [<- hS5];exact (G5.put 5 _))
  have P5:=hide (show Oth (fun g=>g=w.heap.size+2) S4 S5 from by rw [<- hS5];exact (tg_oth hb5 5 _))
  have N5:=hide (show w5.heap.size=S5.heap.size from by rw [<- hS5];simp)
  have Rs:=hide (show OwnSx S4.heap.size S5.heap.size S5 (.slice bds sg.length bps) sg from by rw [<- N5.out,<- hS5];exact (o5).kept (Kept.set _ 5 _ (.inl (by have:=C4.out.lt;omega))))
  clear G5 hb5 o5
  have p6:=C5.out.p.cell 6
  simp only [List.getElem?_cons_zero,List.getElem?_cons_succ] at p6
  go_wp2_with fail
  (try rw [hS5])
  clear p6 q5 g5  hS5
  refine (E6.out S5 C5.out.b).mono ?_
  rintro e w6 ⟨v6,rfl,o6,hb6⟩
  obtain ⟨bdm,bpm,rfl⟩:=o6.rd.shape
  have G6:=C5.out.call hb6
  have q6:=G6.o.cell 6
  have g6:=G6.o.frozen 6
  simp only [List.getElem?_cons_zero,List.getElem?_cons_succ] at q6
  obtain ⟨S6,hS6⟩:∃ x,(w6).setCell ⟨w.heap.size+2,6,none⟩ (.slice bdm ms.length bpm)=x:=⟨_,rfl⟩
  have C6:=hide (show Tg 31 42 [.int .i64 0,.slice none 0 0,.slice none 0 0,.slice none 0 0,.slice none 0 0,.slice none 0 0,.slice none 0 0] [.int .i64 ep,.slice ada la.length cpa,.slice adf fo.length cpf,.slice adn ns.length cpn,.slice adb bs.length cpb,.slice ads sg.length cps,.slice adm ms.length cpm] w S6 [.int .i64 ep,.slice bda la.length bpa,.slice bdf fo.length bpf,.slice bdn ns.length bpn,.slice bdb bs.length bpb,.slice bds sg.length bps,.slice bdm ms.length bpm] from by rw [<- hS6];exact (G6.put 6 _))
  have P6:=hide (show Oth (fun g=>g=w.heap.size+2) S5 S6 from by rw [<- hS6];exact (tg_oth hb6 6 _))
  have N6:=hide (show w6.heap.size=S6.heap.size from by rw [<- hS6];simp)
  have Rm:=hide (show OwnMx S5.heap.size S6.heap.size S6 (.slice bdm ms.length bpm) ms from by rw [<- N6.out,<- hS6];exact (o6).kept (Kept.set _ 6 _ (.inl (by have:=C5.out.lt;omega))))
  clear G6 hb6 o6
  have hz0:=C0.out.lt
  obtain ⟨F,hF⟩:∃ x,([.int .i64 ep,.slice bda la.length bpa,.slice bdf fo.length bpf,.slice bdn ns.length bpn,.slice bdb bs.length bpb,.slice bds sg.length bps,.slice bdm ms.length bpm]:List Value)=x:=⟨_,rfl⟩
  have hFl:F.length=7:=by rw [<- hF];rfl
  have hF1:F.toArray.all (·.oneCell')=true:=by rw [List.all_toArray,<- hF];rfl
  have Hsz:=hide (show (Try.prog.info? 42).map (·.size)=some F.length from by rw [hFl];exact Try.infoWd)
  have Hld:=hide (show S6.rangeAt (w.heap.size+2) 0 F from by rw [<- hF];exact blk_range C6.out.o)
  have HRk:=hide (show Blk S6 (w.heap.size+1) 42 [.int .i64 0,.slice none 0 0,.slice none 0 0,.slice none 0 0,.slice none 0 0,.slice none 0 0,.slice none 0 0] from C6.out.r)
  have Hth:=hide (show S6.there (w.heap.size+1) 0 F.toArray.size from by rw [show F.toArray.size=7 from by simpa using hFl];exact HRk.out.there rfl)
  have HX:=hide (show Blk (S6.setCells (w.heap.size+1) 0 F) (w.heap.size+1) 42 F from by rw [<- hF];exact blk_all HRk.out (by rfl))
  have HB:=hide (C6.out.b.trans (putC_below (B:=w.heap.size) (show w.heap.size<=w.heap.size+1 by omega) F S6 0))
  have Y1:=(show S0.heap.size<=S1.heap.size from P1.out.size)
  have Y2:=(show S1.heap.size<=S2.heap.size from P2.out.size)
  have Y3:=(show S2.heap.size<=S3.heap.size from P3.out.size)
  have Y4:=(show S3.heap.size<=S4.heap.size from P4.out.size)
  have Y5:=(show S4.heap.size<=S5.heap.size from P5.out.size)
  have Y6:=(show S5.heap.size<=S6.heap.size from P6.out.size)
  have Fa:=hide (show OwnX S0.heap.size S1.heap.size (S6.setCells (w.heap.size+1) 0 F) (.slice bda la.length bpa) la from ((((((Ra.out.kept (Kept.of_oth P2.out (fun g a b e=>by have e9:g=w.heap.size+2:=e;omega))).kept (Kept.of_oth P3.out (fun g a b e=>by have e9:g=w.heap.size+2:=e;omega))).kept (Kept.of_oth P4.out (fun g a b e=>by have e9:g=w.heap.size+2:=e;omega))).kept (Kept.of_oth P5.out (fun g a b e=>by have e9:g=w.heap.size+2:=e;omega))).kept (Kept.of_oth P6.out (fun g a b e=>by have e9:g=w.heap.size+2:=e;omega))).kept (Kept.setCs _ 0 F (.inl (by omega)))))
  have Ff:=hide (show InS S1.heap.size S2.heap.size (S6.setCells (w.heap.size+1) 0 F) (.slice bdf fo.length bpf) fo from (((((Rf.out.kept (Kept.of_oth P3.out (fun g a b e=>by have e9:g=w.heap.size+2:=e;omega))).kept (Kept.of_oth P4.out (fun g a b e=>by have e9:g=w.heap.size+2:=e;omega))).kept (Kept.of_oth P5.out (fun g a b e=>by have e9:g=w.heap.size+2:=e;omega))).kept (Kept.of_oth P6.out (fun g a b e=>by have e9:g=w.heap.size+2:=e;omega))).kept (Kept.setCs _ 0 F (.inl (by omega)))))
  have Fn:=hide (show OwnNx S2.heap.size S3.heap.size (S6.setCells (w.heap.size+1) 0 F) (.slice bdn ns.length bpn) ns from ((((Rn.out.kept (Kept.of_oth P4.out (fun g a b e=>by have e9:g=w.heap.size+2:=e;omega))).kept (Kept.of_oth P5.out (fun g a b e=>by have e9:g=w.heap.size+2:=e;omega))).kept (Kept.of_oth P6.out (fun g a b e=>by have e9:g=w.heap.size+2:=e;omega))).kept (Kept.setCs _ 0 F (.inl (by omega)))))
  have Fb:=hide (show OwnKx S3.heap.size S4.heap.size (S6.setCells (w.heap.size+1) 0 F) (.slice bdb bs.length bpb) bs from (((Rb.out.kept (Kept.of_oth P5.out (fun g a b e=>by have e9:g=w.heap.size+2:=e;omega))).kept (Kept.of_oth P6.out (fun g a b e=>by have e9:g=w.heap.size+2:=e;omega))).kept (Kept.setCs _ 0 F (.inl (by omega)))))
  have Fs:=hide (show OwnSx S4.heap.size S5.heap.size (S6.setCells (w.heap.size+1) 0 F) (.slice bds sg.length bps) sg from ((Rs.out.kept (Kept.of_oth P6.out (fun g a b e=>by have e9:g=w.heap.size+2:=e;omega))).kept (Kept.setCs _ 0 F (.inl (by omega)))))
  have Fm:=hide (show OwnMx S5.heap.size S6.heap.size (S6.setCells (w.heap.size+1) 0 F) (.slice bdm ms.length bpm) ms from (Rm.out.kept (Kept.setCs _ 0 F (.inl (by omega)))))
  have FZ:=hide (show (S6.setCells (w.heap.size+1) 0 F).heap.size=S6.heap.size from size_sets _ F _ 0)
  have FY:=hide (show w.heap.size<=S0.heap.size from by omega)
  have W1:=hide Y1
  have W2:=hide Y2
  have W3:=hide Y3
  have W4:=hide Y4
  have W5:=hide Y5
  have W6:=hide Y6
  clear hz0 Y1 Y2 Y3 Y4 Y5 Y6 Ra Rf Rn Rb Rs Rm P1 C1 N1 P2 C2 N2 P3 C3 N3 P4 C4 N4 P5 C5 N5 P6 C6 N6 E1 E2 E3 E4 E5 E6 C0 HRk hFl
  go_wp2_with (first
    | (refine wpList_load_mid rfl 42 _ rfl (w.heap.size+2) 0 rfl F _ Hld.out Try.underlying42 rfl Hsz.out ?_)
    | (refine wpList_store_mid rfl 42 _ _ rfl (w.heap.size+1) 0 F.toArray rfl rfl Hth.out (by simpa using Hsz.out) hF1 ?_)
    | fail)
  (try rw [hS6])
  (try simp only [List.toList_toArray])
  refine res_toWorld (F:=F) (w.heap.size+1) (blk_range HX.out) (by rfl) Hsz.out rfl ?_
  subst hF
  have fz:=FZ.out
  have fy:=FY.out
  have o1:=W1.out
  have o2:=W2.out
  have o3:=W3.out
  have o4:=W4.out
  have o5:=W5.out
  have o6:=W6.out
  refine ⟨⟨.slice bda la.length bpa,.slice bdf fo.length bpf,.slice bdn ns.length bpn,.slice bdb bs.length bpb,.slice bds sg.length bps,.slice bdm ms.length bpm⟩,rfl,⟨⟨S0.heap.size,S1.heap.size,S2.heap.size,S3.heap.size,S4.heap.size,S5.heap.size,S6.heap.size,by omega,by omega,by omega,by omega,by omega,by omega,by omega,by omega,.inr (Fa.out.wide (by omega) (by omega)),Ff.out.wide (by omega) (by omega),Fn.out.wide (by omega) (by omega),Fb.out.wide (by omega) (by omega),Fs.out.wide (by omega) (by omega),Fm.out.wide (by omega) (by omega)⟩⟩,HB.out⟩
end Go.Proofs.Ytfdbedenlbikgaa
