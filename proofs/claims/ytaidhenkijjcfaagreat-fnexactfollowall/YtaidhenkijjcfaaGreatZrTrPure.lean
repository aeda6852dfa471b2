/- Trees of blocks, plainly. -/
import Derived.Test.YtaidhenkijjcfaaGreatZrAppS
import Derived.Test.YtaidhenkijjcfaaGreatZrIntApp
import Derived.Deep.CutBlock
set_option maxRecDepth 20000
set_option maxHeartbeats 8000000
namespace Go.Proofs.YtaidhenkijjcfaaGreat
open Go.RowKit
set_option linter.unusedVariables false
structure Cp (w S:World) (cs:List Value):Prop where
  p:Blk S w.heap.size 92 cs
  r:Blk S (w.heap.size+1) 92 [.int .i64 0,.int .i64 0,.int .i64 0,.string { data:=#[] },.int .i64 0,.int .i64 0,.slice none 0 0,.int .i64 0,.slice none 0 0,.slice none 0 0,.slice none 0 0,.bool false,.slice none 0 0,.string { data:=#[] }]
  b:Below w.heap.size w S
theorem Cp.lt {w S:World} {cs:List Value} (h:Cp w S cs):w.heap.size+2<=S.heap.size:=by have:=h.r.lt;omega
theorem Cp.step {w S w':World} {cs:List Value} (h:Cp w S cs) (hb:Below S.heap.size S w') (p:Nat) (u:Value):Cp w (w'.setCell ⟨w.heap.size,p,none⟩ u) (cs.set p u) :=
  ⟨(h.p.below hb h.p.lt).setC p u,(h.r.below hb h.r.lt).otherC _ p u (by omega),(h.b.trans (hb.mono h.b.size)).setCell (p:=⟨w.heap.size,p,none⟩) (Nat.le_refl _) u⟩
theorem hop9 {w S w':World} (hb:Below S.heap.size S w') (p:Nat) (u:Value):Oth (fun g=>g=w.heap.size) S (w'.setCell ⟨w.heap.size,p,none⟩ u) :=
  (Oth.of_below (S:=fun g=>g=w.heap.size) hb).set (g:=w.heap.size) rfl p u
theorem cp_start (w:World) (cs:List Value):Cp w ((w.alloc (.cells cs.toArray 92)).alloc (.cells #[.int .i64 0,.int .i64 0,.int .i64 0,.string { data:=#[] },.int .i64 0,.int .i64 0,.slice none 0 0,.int .i64 0,.slice none 0 0,.slice none 0 0,.slice none 0 0,.bool false,.slice none 0 0,.string { data:=#[] }] 92)) cs :=
  ⟨(Blk.new w _ cs).below ((Below.refl (w.heap.size+1) _).alloc (by simp) _) (by omega),Blk.newR _ _ [.int .i64 0,.int .i64 0,.int .i64 0,.string { data:=#[] },.int .i64 0,.int .i64 0,.slice none 0 0,.int .i64 0,.slice none 0 0,.slice none 0 0,.slice none 0 0,.bool false,.slice none 0 0,.string { data:=#[] }] _ (by simp),((Below.refl _ w).alloc (Nat.le_refl _) _).alloc (by simp) _⟩
structure CpG (T:TypeId) (zs:List Value) (w S:World) (cs:List Value):Prop where
  p:Blk S w.heap.size T cs
  r:Blk S (w.heap.size+1) T zs
  b:Below w.heap.size w S
theorem CpG.lt {T:TypeId} {zs:List Value} {w S:World} {cs:List Value} (h:CpG T zs w S cs):w.heap.size+2<=S.heap.size:=by have:=h.r.lt;omega
theorem CpG.step {T:TypeId} {zs:List Value} {w S w':World} {cs:List Value} (h:CpG T zs w S cs) (hb:Below S.heap.size S w') (p:Nat) (u:Value):CpG T zs w (w'.setCell ⟨w.heap.size,p,none⟩ u) (cs.set p u) :=
  ⟨(h.p.below hb h.p.lt).setC p u,(h.r.below hb h.r.lt).otherC _ p u (by omega),(h.b.trans (hb.mono h.b.size)).setCell (p:=⟨w.heap.size,p,none⟩) (Nat.le_refl _) u⟩
theorem cpG_start (T:TypeId) (w:World) (cs zs:List Value):CpG T zs w ((w.alloc (.cells cs.toArray T)).alloc (.cells zs.toArray T)) cs :=
  ⟨(Blk.new w _ cs).below ((Below.refl (w.heap.size+1) _).alloc (by simp) _) (by omega),Blk.newR _ _ zs _ (by simp),((Below.refl _ w).alloc (Nat.le_refl _) _).alloc (by simp) _⟩
theorem implCopyQc_any (r b:Int) (vw:Value) (ws:List ByteArray) (w:World) (hrw:RdS w vw ws) (hlw:ws.length<=4000000) :
    Calls Tryz.prog 118 #[qcV r b vw] w fun e w'=>∃ vw',e=.returned (qcV r b vw')/\OwnS w.heap.size w' vw' ws/\Below w.heap.size w w':=by
  obtain ⟨aw,cw,rfl⟩:=hrw.shape
  have HRq:=hide (fun V (hV:Below w.heap.size w V)=>hrw.below hV (Nat.le_refl _))
  simp only [qcV]
  obtain ⟨S0,hS0⟩:∃ x,(w.alloc (.cells #[.int .i64 r,.int .i64 b,.slice aw ws.length cw] 40)).alloc (.cells #[.int .i64 0,.int .i64 0,.slice none 0 0] 40)=x:=⟨_,rfl⟩
  have C0:=hide (show CpG 40 [.int .i64 0,.int .i64 0,.slice none 0 0] w S0 [.int .i64 r,.int .i64 b,.slice aw ws.length cw] from by rw [<- hS0];exact cpG_start _ w [.int .i64 r,.int .i64 b,.slice aw ws.length cw] [.int .i64 0,.int .i64 0,.slice none 0 0])
  clear hrw
  have x2:=(C0.out.p.below ((Below.refl S0.heap.size S0).alloc (Nat.le_refl _) (.cells #[] 9)) C0.out.p.lt).cell 2
  simp only [List.getElem?_cons_zero,List.getElem?_cons_succ] at x2
  go_enter Tryz.func118,Tryz.ntmps118
  go_wp2_with (at_builtin;(try rw [hS0]);refine app_ownS _ rfl _ _ rfl S0.heap.size _ _ [] ws rfl rfl (own_nilS S0 S0.heap.size (Nat.le_refl _)) ((HRq.out S0 C0.out.b).below ((Below.refl S0.heap.size S0).alloc (Nat.le_refl _) (.cells #[] 9)) (Nat.le_refl _)) (by simp;omega) (by simp) ?_;intro u1 w1 o1 hb1;rw [List.nil_append] at o1;obtain ⟨a1,c1,rfl⟩:=o1.rd.shape;have h1:=(((Below.refl S0.heap.size S0).alloc (Nat.le_refl _) (.cells #[] 9))).trans hb1;have kp:=C0.out.p.below h1 C0.out.p.lt;have y2:=kp.cell 2;have g2:=kp.frozen 2;simp only [List.getElem?_cons_zero,List.getElem?_cons_succ] at y2;obtain ⟨S1,hS1⟩:∃ x,w1.setCell ⟨w.heap.size,2,none⟩ (.slice a1 ws.length c1)=x:=⟨_,rfl⟩;have C1:=hide (show CpG 40 [.int .i64 0,.int .i64 0,.slice none 0 0] w S1 [.int .i64 r,.int .i64 b,.slice a1 ws.length c1] from by rw [<- hS1];exact C0.out.step h1 2 _);have O1:=hide (show OwnS S0.heap.size S1 (.slice a1 ws.length c1) ws from by rw [<- hS1];exact row_set o1 w.heap.size 2 _ (fun k hk e=>by have:=(World.ownsRow.lt o1 k hk).1;have:=C0.out.lt;omega));clear kp o1 hb1 h1;have t0:=C1.out.p.cell 0;have t1:=C1.out.p.cell 1;have t2:=C1.out.p.cell 2;have e0:=C1.out.r.cell 0;have e1:=C1.out.r.cell 1;have e2:=C1.out.r.cell 2;have f0:=C1.out.r.frozen 0;have f1:=C1.out.r.frozen 1;have f2:=C1.out.r.frozen 2;simp only [List.getElem?_cons_zero,List.getElem?_cons_succ] at t0 t1 t2 e0 e1 e2)
  have hlt:=C0.out.lt
  have HO:=hide ((((O1.out.olderC (g:=w.heap.size+1) (by omega) 0 (.int .i64 r)).olderC (g:=w.heap.size+1) (by omega) 1 (.int .i64 b)).olderC (g:=w.heap.size+1) (by omega) 2 (.slice a1 ws.length c1)).mono (show w.heap.size<=S0.heap.size by omega))
  have HB:=hide (((C1.out.b.setCell (p:=⟨w.heap.size+1,0,none⟩) (show w.heap.size<=w.heap.size+1 by omega) (.int .i64 r)).setCell (p:=⟨w.heap.size+1,1,none⟩) (show w.heap.size<=w.heap.size+1 by omega) (.int .i64 b)).setCell (p:=⟨w.heap.size+1,2,none⟩) (show w.heap.size<=w.heap.size+1 by omega) (.slice a1 ws.length c1))
  refine bodyPost_ret (v:=.agg #[.int .i64 r,.int .i64 b,.slice a1 ws.length c1]) (by simp [results,Tryz.f118,go_sem,e0,e1,e2]) rfl ?_
  exact ⟨_,rfl,HO.out,HB.out⟩
theorem implCopyTc_any (r:Int) (vw vh:Value) (ws:List ByteArray) (hs:List Int) (w:World) (hrw:RdS w vw ws) (hrh:RdI w vh hs) (hlw:ws.length<=4000000) (hlh:hs.length<=4000000) :
    Calls Tryz.prog 162 #[tcV r vw vh] w fun e w'=>∃ vw' vh',e=.returned (tcV r vw' vh')/\OwnS w.heap.size w' vw' ws/\OwnI w.heap.size w' vh' hs/\Below w.heap.size w w':=by
  obtain ⟨aw,cw,rfl⟩:=hrw.shape
  obtain ⟨ah,ch,rfl⟩:=hrh.shape
  have HRq:=hide (fun V (hV:Below w.heap.size w V)=>hrw.below hV (Nat.le_refl _))
  have HRh:=hide (fun V (hV:Below w.heap.size w V)=>hrh.below hV (Nat.le_refl _))
  simp only [tcV]
  obtain ⟨S0,hS0⟩:∃ x,(w.alloc (.cells #[.int .i64 r,.slice aw ws.length cw,.slice ah hs.length ch] 67)).alloc (.cells #[.int .i64 0,.slice none 0 0,.slice none 0 0] 67)=x:=⟨_,rfl⟩
  have C0:=hide (show CpG 67 [.int .i64 0,.slice none 0 0,.slice none 0 0] w S0 [.int .i64 r,.slice aw ws.length cw,.slice ah hs.length ch] from by rw [<- hS0];exact cpG_start _ w [.int .i64 r,.slice aw ws.length cw,.slice ah hs.length ch] [.int .i64 0,.slice none 0 0,.slice none 0 0])
  clear hrw hrh
  have x1:=(C0.out.p.below ((Below.refl S0.heap.size S0).alloc (Nat.le_refl _) (.cells #[] 9)) C0.out.p.lt).cell 1
  simp only [List.getElem?_cons_zero,List.getElem?_cons_succ] at x1
  go_enter Tryz.func162,Tryz.ntmps162
  go_wp2_with (first
    | (at_builtin;(try rw [hS1]);refine app_ownIs _ rfl _ _ rfl S1.heap.size _ _ [] hs rfl rfl (own_nilI S1 S1.heap.size (Nat.le_refl _)) ((HRh.out S1 C1.out.b).below ((Below.refl S1.heap.size S1).alloc (Nat.le_refl _) (.cells #[] 3)) (Nat.le_refl _)) (by simp;omega) (by simp) ?_;intro u2 w2 o2 _ hb2 _;rw [List.nil_append] at o2;obtain ⟨a2,c2,rfl⟩:=o2.rd.shape;have h2:=(((Below.refl S1.heap.size S1).alloc (Nat.le_refl _) (.cells #[] 3))).trans hb2;have kp:=C1.out.p.below h2 C1.out.p.lt;have y2:=kp.cell 2;have g2:=kp.frozen 2;simp only [List.getElem?_cons_zero,List.getElem?_cons_succ] at y2;obtain ⟨S2,hS2⟩:∃ x,w2.setCell ⟨w.heap.size,2,none⟩ (.slice a2 hs.length c2)=x:=⟨_,rfl⟩;have C2:=hide (show CpG 67 [.int .i64 0,.slice none 0 0,.slice none 0 0] w S2 [.int .i64 r,.slice a1 ws.length c1,.slice a2 hs.length c2] from by rw [<- hS2];exact C1.out.step h2 2 _);have O2:=hide (show OwnI S1.heap.size S2 (.slice a2 hs.length c2) hs from by rw [<- hS2];exact row_set o2 w.heap.size 2 _ (fun k hk e=>by have:=(World.ownsRow.lt o2 k hk).1;have:=C1.out.lt;omega));have O1b:=hide (show OwnS S0.heap.size S2 (.slice a1 ws.length c1) ws from by rw [<- hS2];exact row_oth O1.out (hop9 (w:=w) h2 2 _) (fun k hk e=>by have:=(World.ownsRow.lt O1.out k hk).1;have:=C0.out.lt;omega));clear kp o2 hb2 h2;have t0:=C2.out.p.cell 0;have t1:=C2.out.p.cell 1;have t2:=C2.out.p.cell 2;have e0:=C2.out.r.cell 0;have e1:=C2.out.r.cell 1;have e2:=C2.out.r.cell 2;have f0:=C2.out.r.frozen 0;have f1:=C2.out.r.frozen 1;have f2:=C2.out.r.frozen 2;simp only [List.getElem?_cons_zero,List.getElem?_cons_succ] at t0 t1 t2 e0 e1 e2)
    | (at_builtin;(try rw [hS0]);refine app_ownS _ rfl _ _ rfl S0.heap.size _ _ [] ws rfl rfl (own_nilS S0 S0.heap.size (Nat.le_refl _)) ((HRq.out S0 C0.out.b).below ((Below.refl S0.heap.size S0).alloc (Nat.le_refl _) (.cells #[] 9)) (Nat.le_refl _)) (by simp;omega) (by simp) ?_;intro u1 w1 o1 hb1;rw [List.nil_append] at o1;obtain ⟨a1,c1,rfl⟩:=o1.rd.shape;have h1:=(((Below.refl S0.heap.size S0).alloc (Nat.le_refl _) (.cells #[] 9))).trans hb1;have kp:=C0.out.p.below h1 C0.out.p.lt;have y1:=kp.cell 1;have g1:=kp.frozen 1;simp only [List.getElem?_cons_zero,List.getElem?_cons_succ] at y1;obtain ⟨S1,hS1⟩:∃ x,w1.setCell ⟨w.heap.size,1,none⟩ (.slice a1 ws.length c1)=x:=⟨_,rfl⟩;have C1:=hide (show CpG 67 [.int .i64 0,.slice none 0 0,.slice none 0 0] w S1 [.int .i64 r,.slice a1 ws.length c1,.slice ah hs.length ch] from by rw [<- hS1];exact C0.out.step h1 1 _);have O1:=hide (show OwnS S0.heap.size S1 (.slice a1 ws.length c1) ws from by rw [<- hS1];exact row_set o1 w.heap.size 1 _ (fun k hk e=>by have:=(World.ownsRow.lt o1 k hk).1;have:=C0.out.lt;omega));clear kp o1 hb1 h1;have x2:=(C1.out.p.below ((Below.refl S1.heap.size S1).alloc (Nat.le_refl _) (.cells #[] 3)) C1.out.p.lt).cell 2;simp only [List.getElem?_cons_zero,List.getElem?_cons_succ] at x2))
  have hlt:=C0.out.lt
  have hlt1:=C1.out.lt
  have HO:=hide ((((O1b.out.olderC (g:=w.heap.size+1) (by omega) 0 (.int .i64 r)).olderC (g:=w.heap.size+1) (by omega) 1 (.slice a1 ws.length c1)).olderC (g:=w.heap.size+1) (by omega) 2 (.slice a2 hs.length c2)).mono (show w.heap.size<=S0.heap.size by omega))
  have HO2:=hide ((((O2.out.olderC (g:=w.heap.size+1) (by omega) 0 (.int .i64 r)).olderC (g:=w.heap.size+1) (by omega) 1 (.slice a1 ws.length c1)).olderC (g:=w.heap.size+1) (by omega) 2 (.slice a2 hs.length c2)).mono (show w.heap.size<=S1.heap.size by omega))
  have HB:=hide (((C2.out.b.setCell (p:=⟨w.heap.size+1,0,none⟩) (show w.heap.size<=w.heap.size+1 by omega) (.int .i64 r)).setCell (p:=⟨w.heap.size+1,1,none⟩) (show w.heap.size<=w.heap.size+1 by omega) (.slice a1 ws.length c1)).setCell (p:=⟨w.heap.size+1,2,none⟩) (show w.heap.size<=w.heap.size+1 by omega) (.slice a2 hs.length c2))
  refine bodyPost_ret (v:=.agg #[.int .i64 r,.slice a1 ws.length c1,.slice a2 hs.length c2]) (by simp [results,Tryz.f162,go_sem,e0,e1,e2]) rfl ?_
  exact ⟨_,_,rfl,HO.out,HO2.out,HB.out⟩
theorem Cp.bel {w S w':World} {cs:List Value} (h:Cp w S cs) (hb:Below S.heap.size S w'):Cp w w' cs:=⟨h.p.below hb h.p.lt,h.r.below hb h.r.lt,h.b.trans (hb.mono h.b.size)⟩
theorem Cp.put {w S:World} {cs:List Value} (h:Cp w S cs) (p:Nat) (u:Value):Cp w (S.setCell ⟨w.heap.size,p,none⟩ u) (cs.set p u):=h.step (Below.refl _ _) p u
theorem cp_six {w S wX:World} {z0 z1 z2 z3 z4 z5 z6 z7 z8 z9 z10 z11 z12 z13 u4 u5 u6 u7 u8 u9:Value} (h:Cp w S [z0,z1,z2,z3,z4,z5,z6,z7,z8,z9,z10,z11,z12,z13]) (hb:Below S.heap.size S wX):Cp w ((((((wX.setCell ⟨w.heap.size,4,none⟩ u4).setCell ⟨w.heap.size,5,none⟩ u5).setCell ⟨w.heap.size,6,none⟩ u6).setCell ⟨w.heap.size,7,none⟩ u7).setCell ⟨w.heap.size,8,none⟩ u8).setCell ⟨w.heap.size,9,none⟩ u9) [z0,z1,z2,z3,u4,u5,u6,u7,u8,u9,z10,z11,z12,z13]:=(((((((h.bel hb).put 4 u4).put 5 u5).put 6 u6).put 7 u7).put 8 u8).put 9 u9)
theorem ownS_six {base g:Nat} {W:World} {v:Value} {l:List ByteArray} (h:OwnS base W v l) (hg:g < base) {u4 u5 u6 u7 u8 u9:Value}:OwnS base ((((((W.setCell ⟨g,4,none⟩ u4).setCell ⟨g,5,none⟩ u5).setCell ⟨g,6,none⟩ u6).setCell ⟨g,7,none⟩ u7).setCell ⟨g,8,none⟩ u8).setCell ⟨g,9,none⟩ u9) v l:=((((((h.olderC (g:=g) hg 4 u4).olderC (g:=g) hg 5 u5).olderC (g:=g) hg 6 u6).olderC (g:=g) hg 7 u7).olderC (g:=g) hg 8 u8).olderC (g:=g) hg 9 u9)
theorem ownI_six {base g:Nat} {W:World} {v:Value} {l:List Int} (h:OwnI base W v l) (hg:g < base) {u4 u5 u6 u7 u8 u9:Value}:OwnI base ((((((W.setCell ⟨g,4,none⟩ u4).setCell ⟨g,5,none⟩ u5).setCell ⟨g,6,none⟩ u6).setCell ⟨g,7,none⟩ u7).setCell ⟨g,8,none⟩ u8).setCell ⟨g,9,none⟩ u9) v l:=((((((h.olderC (g:=g) hg 4 u4).olderC (g:=g) hg 5 u5).olderC (g:=g) hg 6 u6).olderC (g:=g) hg 7 u7).olderC (g:=g) hg 8 u8).olderC (g:=g) hg 9 u9)
theorem implCopiedK_any (b:Bk) (v:Bv) (w:World) (hr:RdK w b v) (hf:FewK b) :
    Calls Tryz.prog 145 #[bkV b v] w fun e w'=>∃ v',e=.returned (bkV b v')/\OwnK w.heap.size w' b v'/\(∀ g,v'.q.ownBlock=some g->v'.w.ownBlock ≠ some g)/\Below w.heap.size w w':=by
  have hlq:=hf.q
  have hlw:=hf.w
  have hlh:=hf.h
  have hlt:=hf.t
  have hln:=hf.n
  clear hf
  obtain ⟨id,ep,rd,md,qr,qb,qw,tr,tw,th,ts,en,nx,rt⟩:=b
  obtain ⟨vq,vw,vh,vt,vn⟩:=v
  obtain ⟨hq,hw,hh,ht,hn⟩:=hr
  simp only at *
  obtain ⟨aq,cq,rfl⟩:=hq.shape
  obtain ⟨aw,cw,rfl⟩:=hw.shape
  obtain ⟨ah,ch,rfl⟩:=hh.shape
  obtain ⟨at_,ct,rfl⟩:=ht.shape
  obtain ⟨an,cn,rfl⟩:=hn.shape
  have HRq:=hide (fun V (hV:Below w.heap.size w V)=>hq.below hV (Nat.le_refl _))
  have HRw:=hide (fun V (hV:Below w.heap.size w V)=>hw.below hV (Nat.le_refl _))
  have HRh:=hide (fun V (hV:Below w.heap.size w V)=>hh.below hV (Nat.le_refl _))
  have HRt:=hide (fun V (hV:Below w.heap.size w V)=>ht.below hV (Nat.le_refl _))
  have HRn:=hide (fun V (hV:Below w.heap.size w V)=>hn.below hV (Nat.le_refl _))
  simp only [bkV]
  obtain ⟨S0,hS0⟩:∃ x,(w.alloc (.cells #[.int .i64 id,.int .i64 ep,.int .i64 rd,.string md,.int .i64 qr,.int .i64 qb,.slice aq qw.length cq,.int .i64 tr,.slice aw tw.length cw,.slice ah th.length ch,.slice at_ ts.length ct,.bool en,.slice an nx.length cn,.string rt] 92)).alloc (.cells #[.int .i64 0,.int .i64 0,.int .i64 0,.string { data:=#[] },.int .i64 0,.int .i64 0,.slice none 0 0,.int .i64 0,.slice none 0 0,.slice none 0 0,.slice none 0 0,.bool false,.slice none 0 0,.string { data:=#[] }] 92)=x:=⟨_,rfl⟩
  have C0:=hide (show Cp w S0 [.int .i64 id,.int .i64 ep,.int .i64 rd,.string md,.int .i64 qr,.int .i64 qb,.slice aq qw.length cq,.int .i64 tr,.slice aw tw.length cw,.slice ah th.length ch,.slice at_ ts.length ct,.bool en,.slice an nx.length cn,.string rt] from by rw [<- hS0];exact cp_start w [.int .i64 id,.int .i64 ep,.int .i64 rd,.string md,.int .i64 qr,.int .i64 qb,.slice aq qw.length cq,.int .i64 tr,.slice aw tw.length cw,.slice ah th.length ch,.slice at_ ts.length ct,.bool en,.slice an nx.length cn,.string rt])
  clear hq hw hh ht hn
  have HQ:Hid (∀ V,Below S0.heap.size S0 V->Calls Tryz.prog 118 #[.agg #[.int .i64 qr,.int .i64 qb,.slice aq qw.length cq]] V fun e w'=>∃ a c,e=.returned (.agg #[.int .i64 qr,.int .i64 qb,.slice a qw.length c])/\OwnS V.heap.size w' (.slice a qw.length c) qw/\Below S0.heap.size S0 w'/\Below V.heap.size V w'):=hide (fun V hV=>by
    refine (implCopyQc_any qr qb (.slice aq qw.length cq) qw V (HRq.out V (C0.out.b.trans (hV.mono C0.out.b.size))) (by omega)).mono ?_
    rintro e w' ⟨u,rfl,o,b⟩
    obtain ⟨a,c,rfl⟩:=o.rd.shape
    exact ⟨a,c,rfl,o,hV.trans (b.mono hV.size),b⟩)
  have HT:Hid (∀ V,Below S0.heap.size S0 V->Calls Tryz.prog 162 #[.agg #[.int .i64 tr,.slice aw tw.length cw,.slice ah th.length ch]] V fun e w'=>∃ a c a' c',e=.returned (.agg #[.int .i64 tr,.slice a tw.length c,.slice a' th.length c'])/\OwnS V.heap.size w' (.slice a tw.length c) tw/\OwnI V.heap.size w' (.slice a' th.length c') th/\Below S0.heap.size S0 w'/\Below V.heap.size V w'):=hide (fun V hV=>by
    refine (implCopyTc_any tr (.slice aw tw.length cw) (.slice ah th.length ch) tw th V (HRw.out V (C0.out.b.trans (hV.mono C0.out.b.size))) (HRh.out V (C0.out.b.trans (hV.mono C0.out.b.size))) (by omega) (by omega)).mono ?_
    rintro e w' ⟨u,u',rfl,o,o',b⟩
    obtain ⟨a,c,rfl⟩:=o.rd.shape
    obtain ⟨a',c',rfl⟩:=o'.rd.shape
    exact ⟨a,c,a',c',rfl,o,o',hV.trans (b.mono hV.size),b⟩)
  have hlt0:=C0.out.lt
  have x4:=C0.out.p.cell 4
  have d4:S0.drew.cell? ⟨w.heap.size,4,none⟩=_:=C0.out.p.cell 4
  have x5:=C0.out.p.cell 5
  have d5:S0.drew.cell? ⟨w.heap.size,5,none⟩=_:=C0.out.p.cell 5
  have x6:=C0.out.p.cell 6
  have d6:S0.drew.cell? ⟨w.heap.size,6,none⟩=_:=C0.out.p.cell 6
  have x7:=C0.out.p.cell 7
  have d7:S0.drew.cell? ⟨w.heap.size,7,none⟩=_:=C0.out.p.cell 7
  have x8:=C0.out.p.cell 8
  have d8:S0.drew.cell? ⟨w.heap.size,8,none⟩=_:=C0.out.p.cell 8
  have x9:=C0.out.p.cell 9
  have d9:S0.drew.cell? ⟨w.heap.size,9,none⟩=_:=C0.out.p.cell 9
  simp only [List.getElem?_cons_zero,List.getElem?_cons_succ] at x4 d4 x5 d5 x6 d6 x7 d7 x8 d8 x9 d9
  go_enter Tryz.func145,Tryz.ntmps145
  go_upto_region 1 with fail
  (try rw [hS0])
  go_cut [] from 3 (fun wc=>∃ (a1 a2 a3:Option Addr) (c1 c2 c3:Nat),Cp w wc [.int .i64 id,.int .i64 ep,.int .i64 rd,.string md,.int .i64 qr,.int .i64 qb,.slice a1 qw.length c1,.int .i64 tr,.slice a2 tw.length c2,.slice a3 th.length c3,.slice at_ ts.length ct,.bool en,.slice an nx.length cn,.string rt]/\OwnS (w.heap.size+2) wc (.slice a1 qw.length c1) qw/\OwnS (w.heap.size+2) wc (.slice a2 tw.length c2) tw/\OwnI (w.heap.size+2) wc (.slice a3 th.length c3) th/\(∀ g,(Value.slice a1 qw.length c1).ownBlock=some g->(Value.slice a2 tw.length c2).ownBlock ≠ some g))
  case first =>
    go_region_law (first
      | (go_simp;go_at_call 162;refine (HT.out _ (by first | exact bQ | exact Below.refl _ _ | exact (Below.refl _ _).drew)).mono ?_;rintro en wT ⟨a2,c2,a3,c3,rfl,oT,oH,bT,bT'⟩;have kT:=C0.out.p.below bT C0.out.p.lt;have m4:=kT.cell 4;have m5:=kT.cell 5;have m6:=kT.cell 6;have m7:=kT.cell 7;have m8:=kT.cell 8;have m9:=kT.cell 9;have mf4:=kT.frozen 4;have mf5:=kT.frozen 5;have mf6:=kT.frozen 6;have mf7:=kT.frozen 7;have mf8:=kT.frozen 8;have mf9:=kT.frozen 9;simp only [List.getElem?_cons_zero,List.getElem?_cons_succ] at m4 m5 m6 m7 m8 m9)
      | (go_simp;go_at_call 118;refine (HQ.out _ (by first | exact bT | exact Below.refl _ _ | exact (Below.refl _ _).drew)).mono ?_;rintro en wQ ⟨a1,c1,rfl,oQ,bQ,bQ'⟩;have kQ:=C0.out.p.below bQ C0.out.p.lt;have q4:=kQ.cell 4;have q5:=kQ.cell 5;have q6:=kQ.cell 6;have q7:=kQ.cell 7;have q8:=kQ.cell 8;have q9:=kQ.cell 9;have qf4:=kQ.frozen 4;have qf5:=kQ.frozen 5;have qf6:=kQ.frozen 6;have qf7:=kQ.frozen 7;have qf8:=kQ.frozen 8;have qf9:=kQ.frozen 9;simp only [List.getElem?_cons_zero,List.getElem?_cons_succ] at q4 q5 q6 q7 q8 q9))
    all_goals
      go_wp2
      go_meet
      case rel =>
        have oQ1:OwnS S0.heap.size wQ (.slice a1 qw.length c1) qw:=oQ
        have oQ2:OwnS S0.heap.size wT (.slice a1 qw.length c1) qw:=row_below oQ1 bT' (Nat.le_refl _)
        refine ⟨a1,a2,a3,c1,c2,c3,?_,?_,?_,?_,?_⟩
        · exact cp_six C0.out bT
        · exact OwnS.mono (ownS_six oQ2 (Nat.lt_of_lt_of_le (by omega) hlt0)) hlt0
        · exact OwnS.mono (ownS_six oT (Nat.lt_of_lt_of_le (by omega) (Nat.le_trans hlt0 bQ.size))) (Nat.le_trans hlt0 bQ.size)
        · exact OwnI.mono (ownI_six oH (Nat.lt_of_lt_of_le (by omega) (Nat.le_trans hlt0 bQ.size))) (Nat.le_trans hlt0 bQ.size)
        · intro g h1 h2
          have q1:=World.ownsRow.lt oQ g h1
          have q2:=World.ownsRow.lt oT g h2
          omega
  case rest =>
  clear HQ HT HRq HRw HRh hS0 C0 x4 d4 x5 d5 x6 d6 x7 d7 x8 d8 x9 d9
  obtain ⟨a1,a2,a3,c1,c2,c3,cC,o1,o2,o3,hne⟩:=hcut
  obtain ⟨S3,hS3⟩:∃ x,x=wc:=⟨_,rfl⟩
  subst hS3
  have C3:=hide cC
  have O1:=hide o1
  have O2:=hide o2
  have O3:=hide o3
  have Hne:=hide hne
  clear cC o1 o2 o3 hne
  have x10:=C3.out.p.cell 10
  simp only [List.getElem?_cons_zero,List.getElem?_cons_succ] at x10
  go_wp2_with (first | (at_builtin;(try rw [hS4]);refine app_ownV _ rfl _ _ rfl S4.heap.size _ _ [] nx rfl rfl (own_nilV S4 S4.heap.size (Nat.le_refl _)) ((HRn.out S4 C4.out.b).below ((Below.refl S4.heap.size S4).alloc (Nat.le_refl _) (.cells #[] 100)) (Nat.le_refl _)) (by simp;omega) (by simp) ?_;intro u5 w5 o5 _ hb5;rw [List.nil_append] at o5;obtain ⟨a5,c5,rfl⟩:=o5.rd.shape;have h5:=(((Below.refl S4.heap.size S4).alloc (Nat.le_refl _) (.cells #[] 100))).trans hb5;have kp:=C4.out.p.below h5 C4.out.p.lt;have y12:=kp.cell 12;have g12:=kp.frozen 12;simp only [List.getElem?_cons_zero,List.getElem?_cons_succ] at y12;obtain ⟨S5,hS5⟩:∃ x,w5.setCell ⟨w.heap.size,12,none⟩ (.slice a5 nx.length c5)=x:=⟨_,rfl⟩;have C5:=hide (show Cp w S5 [.int .i64 id,.int .i64 ep,.int .i64 rd,.string md,.int .i64 qr,.int .i64 qb,.slice a1 qw.length c1,.int .i64 tr,.slice a2 tw.length c2,.slice a3 th.length c3,.slice a4 ts.length c4,.bool en,.slice a5 nx.length c5,.string rt] from by rw [<- hS5];exact C4.out.step h5 12 _);have P5:=hide (show Oth (fun g=>g=w.heap.size) S4 S5 from by rw [<- hS5];exact hop9 h5 12 _);have O5:=hide (show OwnV S4.heap.size S5 (.slice a5 nx.length c5) nx from by rw [<- hS5];exact row_set o5 w.heap.size 12 _ (fun k hk e=>by have:=(World.ownsRow.lt o5 k hk).1;have:=C4.out.lt;omega));clear kp o5 hb5 h5;have t0:=C5.out.p.cell 0;have e0:=C5.out.r.cell 0;have f0:=C5.out.r.frozen 0;have t1:=C5.out.p.cell 1;have e1:=C5.out.r.cell 1;have f1:=C5.out.r.frozen 1;have t2:=C5.out.p.cell 2;have e2:=C5.out.r.cell 2;have f2:=C5.out.r.frozen 2;have t3:=C5.out.p.cell 3;have e3:=C5.out.r.cell 3;have f3:=C5.out.r.frozen 3;have t4:=C5.out.p.cell 4;have e4:=C5.out.r.cell 4;have f4:=C5.out.r.frozen 4;have t5:=C5.out.p.cell 5;have e5:=C5.out.r.cell 5;have f5:=C5.out.r.frozen 5;have t6:=C5.out.p.cell 6;have e6:=C5.out.r.cell 6;have f6:=C5.out.r.frozen 6;have t7:=C5.out.p.cell 7;have e7:=C5.out.r.cell 7;have f7:=C5.out.r.frozen 7;have t8:=C5.out.p.cell 8;have e8:=C5.out.r.cell 8;have f8:=C5.out.r.frozen 8;have t9:=C5.out.p.cell 9;have e9:=C5.out.r.cell 9;have f9:=C5.out.r.frozen 9;have t10:=C5.out.p.cell 10;have e10:=C5.out.r.cell 10;have f10:=C5.out.r.frozen 10;have t11:=C5.out.p.cell 11;have e11:=C5.out.r.cell 11;have f11:=C5.out.r.frozen 11;have t12:=C5.out.p.cell 12;have e12:=C5.out.r.cell 12;have f12:=C5.out.r.frozen 12;have t13:=C5.out.p.cell 13;have e13:=C5.out.r.cell 13;have f13:=C5.out.r.frozen 13;simp only [List.getElem?_cons_zero,List.getElem?_cons_succ] at t0 e0 t1 e1 t2 e2 t3 e3 t4 e4 t5 e5 t6 e6 t7 e7 t8 e8 t9 e9 t10 e10 t11 e11 t12 e12 t13 e13) | (go_at_call 163;refine (copiedTxs_any _ ts S3 (HRt.out S3 C3.out.b) (by omega)).mono ?_;rintro eT w4 ⟨u4,rfl,o4,hb4⟩;obtain ⟨a4,c4,rfl⟩:=o4.rd.shape;have h4:Below S3.heap.size S3 w4:=hb4;have kp:=C3.out.p.below h4 C3.out.p.lt;have y10:=kp.cell 10;have g10:=kp.frozen 10;simp only [List.getElem?_cons_zero,List.getElem?_cons_succ] at y10;obtain ⟨S4,hS4⟩:∃ x,w4.setCell ⟨w.heap.size,10,none⟩ (.slice a4 ts.length c4)=x:=⟨_,rfl⟩;have C4:=hide (show Cp w S4 [.int .i64 id,.int .i64 ep,.int .i64 rd,.string md,.int .i64 qr,.int .i64 qb,.slice a1 qw.length c1,.int .i64 tr,.slice a2 tw.length c2,.slice a3 th.length c3,.slice a4 ts.length c4,.bool en,.slice an nx.length cn,.string rt] from by rw [<- hS4];exact C3.out.step h4 10 _);have P4:=hide (show Oth (fun g=>g=w.heap.size) S3 S4 from by rw [<- hS4];exact hop9 h4 10 _);have O4:=hide (show OwnT S3.heap.size S4 (.slice a4 ts.length c4) ts from by rw [<- hS4];exact row_set o4 w.heap.size 10 _ (fun k hk e=>by have:=(World.ownsRow.lt o4 k hk).1;have:=C3.out.lt;omega));clear kp o4 hb4 h4;have x12:=(C4.out.p.below ((Below.refl S4.heap.size S4).alloc (Nat.le_refl _) (.cells #[] 100)) C4.out.p.lt).cell 12;simp only [List.getElem?_cons_zero,List.getElem?_cons_succ] at x12))
  have hb0:=C3.out.lt
  have F1:=hide (((show OwnS (w.heap.size+2) S5 (.slice a1 qw.length c1) qw from (row_oth (row_oth O1.out P4.out (fun k hk e=>by have:=(World.ownsRow.lt O1.out k hk).1;omega)) P5.out (fun k hk e=>by have:=(World.ownsRow.lt O1.out k hk).1;omega))).put14 (g:=w.heap.size+1) (by omega) (.int .i64 id) (.int .i64 ep) (.int .i64 rd) (.string md) (.int .i64 qr) (.int .i64 qb) (.slice a1 qw.length c1) (.int .i64 tr) (.slice a2 tw.length c2) (.slice a3 th.length c3) (.slice a4 ts.length c4) (.bool en) (.slice a5 nx.length c5) (.string rt)).mono (show w.heap.size<=w.heap.size+2 by omega))
  have F2:=hide (((show OwnS (w.heap.size+2) S5 (.slice a2 tw.length c2) tw from (row_oth (row_oth O2.out P4.out (fun k hk e=>by have:=(World.ownsRow.lt O2.out k hk).1;omega)) P5.out (fun k hk e=>by have:=(World.ownsRow.lt O2.out k hk).1;omega))).put14 (g:=w.heap.size+1) (by omega) (.int .i64 id) (.int .i64 ep) (.int .i64 rd) (.string md) (.int .i64 qr) (.int .i64 qb) (.slice a1 qw.length c1) (.int .i64 tr) (.slice a2 tw.length c2) (.slice a3 th.length c3) (.slice a4 ts.length c4) (.bool en) (.slice a5 nx.length c5) (.string rt)).mono (show w.heap.size<=w.heap.size+2 by omega))
  have F3:=hide (((show OwnI (w.heap.size+2) S5 (.slice a3 th.length c3) th from (row_oth (row_oth O3.out P4.out (fun k hk e=>by have:=(World.ownsRow.lt O3.out k hk).1;omega)) P5.out (fun k hk e=>by have:=(World.ownsRow.lt O3.out k hk).1;omega))).put14 (g:=w.heap.size+1) (by omega) (.int .i64 id) (.int .i64 ep) (.int .i64 rd) (.string md) (.int .i64 qr) (.int .i64 qb) (.slice a1 qw.length c1) (.int .i64 tr) (.slice a2 tw.length c2) (.slice a3 th.length c3) (.slice a4 ts.length c4) (.bool en) (.slice a5 nx.length c5) (.string rt)).mono (show w.heap.size<=w.heap.size+2 by omega))
  have F4:=hide (((show OwnT S3.heap.size S5 (.slice a4 ts.length c4) ts from (row_oth O4.out P5.out (fun k hk e=>by have:=(World.ownsRow.lt O4.out k hk).1;have:=C3.out.lt;omega))).put14 (g:=w.heap.size+1) (by have:=C3.out.lt;omega) (.int .i64 id) (.int .i64 ep) (.int .i64 rd) (.string md) (.int .i64 qr) (.int .i64 qb) (.slice a1 qw.length c1) (.int .i64 tr) (.slice a2 tw.length c2) (.slice a3 th.length c3) (.slice a4 ts.length c4) (.bool en) (.slice a5 nx.length c5) (.string rt)).mono (show w.heap.size<=S3.heap.size by have:=C3.out.lt;omega))
  have F5:=hide (((show OwnV S4.heap.size S5 (.slice a5 nx.length c5) nx from O5.out).put14 (g:=w.heap.size+1) (by have:=C4.out.lt;omega) (.int .i64 id) (.int .i64 ep) (.int .i64 rd) (.string md) (.int .i64 qr) (.int .i64 qb) (.slice a1 qw.length c1) (.int .i64 tr) (.slice a2 tw.length c2) (.slice a3 th.length c3) (.slice a4 ts.length c4) (.bool en) (.slice a5 nx.length c5) (.string rt)).mono (show w.heap.size<=S4.heap.size by have:=C4.out.lt;omega))
  have FB:=hide (C5.out.b.trans ((below_put14 S5 (w.heap.size+1) (.int .i64 id) (.int .i64 ep) (.int .i64 rd) (.string md) (.int .i64 qr) (.int .i64 qb) (.slice a1 qw.length c1) (.int .i64 tr) (.slice a2 tw.length c2) (.slice a3 th.length c3) (.slice a4 ts.length c4) (.bool en) (.slice a5 nx.length c5) (.string rt)).mono (by omega)))
  refine bodyPost_ret (v:=.agg #[.int .i64 id,.int .i64 ep,.int .i64 rd,.string md,.int .i64 qr,.int .i64 qb,.slice a1 qw.length c1,.int .i64 tr,.slice a2 tw.length c2,.slice a3 th.length c3,.slice a4 ts.length c4,.bool en,.slice a5 nx.length c5,.string rt]) (by simp [results,Tryz.f145,go_sem,e0,e1,e2,e3,e4,e5,e6,e7,e8,e9,e10,e11,e12,e13]) rfl ?_
  exact ⟨⟨_,_,_,_,_⟩,rfl,⟨F1.out,F2.out,F3.out,F4.out,F5.out⟩,Hne.out,FB.out⟩
theorem specCopyQc_any (r b:Int) (vw:Value) (ws:List ByteArray) (w:World) (hrw:RdS w vw ws) (hlw:ws.length<=4000000) :
    Calls Tryz.prog 113 #[qcV r b vw] w fun e w'=>∃ vw',e=.returned (qcV r b vw')/\OwnS w.heap.size w' vw' ws/\Below w.heap.size w w':=by
  obtain ⟨aw,cw,rfl⟩:=hrw.shape
  have HRq:=hide (fun V (hV:Below w.heap.size w V)=>hrw.below hV (Nat.le_refl _))
  simp only [qcV]
  obtain ⟨S0,hS0⟩:∃ x,(w.alloc (.cells #[.int .i64 r,.int .i64 b,.slice aw ws.length cw] 40)).alloc (.cells #[.int .i64 0,.int .i64 0,.slice none 0 0] 40)=x:=⟨_,rfl⟩
  have C0:=hide (show CpG 40 [.int .i64 0,.int .i64 0,.slice none 0 0] w S0 [.int .i64 r,.int .i64 b,.slice aw ws.length cw] from by rw [<- hS0];exact cpG_start _ w [.int .i64 r,.int .i64 b,.slice aw ws.length cw] [.int .i64 0,.int .i64 0,.slice none 0 0])
  clear hrw
  have x2:=(C0.out.p.below ((Below.refl S0.heap.size S0).alloc (Nat.le_refl _) (.cells #[] 9)) C0.out.p.lt).cell 2
  simp only [List.getElem?_cons_zero,List.getElem?_cons_succ] at x2
  go_enter Tryz.func113,Tryz.ntmps113
  go_wp2_with (at_builtin;(try rw [hS0]);refine app_ownS _ rfl _ _ rfl S0.heap.size _ _ [] ws rfl rfl (own_nilS S0 S0.heap.size (Nat.le_refl _)) ((HRq.out S0 C0.out.b).below ((Below.refl S0.heap.size S0).alloc (Nat.le_refl _) (.cells #[] 9)) (Nat.le_refl _)) (by simp;omega) (by simp) ?_;intro u1 w1 o1 hb1;rw [List.nil_append] at o1;obtain ⟨a1,c1,rfl⟩:=o1.rd.shape;have h1:=(((Below.refl S0.heap.size S0).alloc (Nat.le_refl _) (.cells #[] 9))).trans hb1;have kp:=C0.out.p.below h1 C0.out.p.lt;have y2:=kp.cell 2;have g2:=kp.frozen 2;simp only [List.getElem?_cons_zero,List.getElem?_cons_succ] at y2;obtain ⟨S1,hS1⟩:∃ x,w1.setCell ⟨w.heap.size,2,none⟩ (.slice a1 ws.length c1)=x:=⟨_,rfl⟩;have C1:=hide (show CpG 40 [.int .i64 0,.int .i64 0,.slice none 0 0] w S1 [.int .i64 r,.int .i64 b,.slice a1 ws.length c1] from by rw [<- hS1];exact C0.out.step h1 2 _);have O1:=hide (show OwnS S0.heap.size S1 (.slice a1 ws.length c1) ws from by rw [<- hS1];exact row_set o1 w.heap.size 2 _ (fun k hk e=>by have:=(World.ownsRow.lt o1 k hk).1;have:=C0.out.lt;omega));clear kp o1 hb1 h1;have t0:=C1.out.p.cell 0;have t1:=C1.out.p.cell 1;have t2:=C1.out.p.cell 2;have e0:=C1.out.r.cell 0;have e1:=C1.out.r.cell 1;have e2:=C1.out.r.cell 2;have f0:=C1.out.r.frozen 0;have f1:=C1.out.r.frozen 1;have f2:=C1.out.r.frozen 2;simp only [List.getElem?_cons_zero,List.getElem?_cons_succ] at t0 t1 t2 e0 e1 e2)
  have hlt:=C0.out.lt
  have HO:=hide ((((O1.out.olderC (g:=w.heap.size+1) (by omega) 0 (.int .i64 r)).olderC (g:=w.heap.size+1) (by omega) 1 (.int .i64 b)).olderC (g:=w.heap.size+1) (by omega) 2 (.slice a1 ws.length c1)).mono (show w.heap.size<=S0.heap.size by omega))
  have HB:=hide (((C1.out.b.setCell (p:=⟨w.heap.size+1,0,none⟩) (show w.heap.size<=w.heap.size+1 by omega) (.int .i64 r)).setCell (p:=⟨w.heap.size+1,1,none⟩) (show w.heap.size<=w.heap.size+1 by omega) (.int .i64 b)).setCell (p:=⟨w.heap.size+1,2,none⟩) (show w.heap.size<=w.heap.size+1 by omega) (.slice a1 ws.length c1))
  refine bodyPost_ret (v:=.agg #[.int .i64 r,.int .i64 b,.slice a1 ws.length c1]) (by simp [results,Tryz.f113,go_sem,e0,e1,e2]) rfl ?_
  exact ⟨_,rfl,HO.out,HB.out⟩
theorem specCopyTc_any (r:Int) (vw vh:Value) (ws:List ByteArray) (hs:List Int) (w:World) (hrw:RdS w vw ws) (hrh:RdI w vh hs) (hlw:ws.length<=4000000) (hlh:hs.length<=4000000) :
    Calls Tryz.prog 161 #[tcV r vw vh] w fun e w'=>∃ vw' vh',e=.returned (tcV r vw' vh')/\OwnS w.heap.size w' vw' ws/\OwnI w.heap.size w' vh' hs/\Below w.heap.size w w':=by
  obtain ⟨aw,cw,rfl⟩:=hrw.shape
  obtain ⟨ah,ch,rfl⟩:=hrh.shape
  have HRq:=hide (fun V (hV:Below w.heap.size w V)=>hrw.below hV (Nat.le_refl _))
  have HRh:=hide (fun V (hV:Below w.heap.size w V)=>hrh.below hV (Nat.le_refl _))
  simp only [tcV]
  obtain ⟨S0,hS0⟩:∃ x,(w.alloc (.cells #[.int .i64 r,.slice aw ws.length cw,.slice ah hs.length ch] 67)).alloc (.cells #[.int .i64 0,.slice none 0 0,.slice none 0 0] 67)=x:=⟨_,rfl⟩
  have C0:=hide (show CpG 67 [.int .i64 0,.slice none 0 0,.slice none 0 0] w S0 [.int .i64 r,.slice aw ws.length cw,.slice ah hs.length ch] from by rw [<- hS0];exact cpG_start _ w [.int .i64 r,.slice aw ws.length cw,.slice ah hs.length ch] [.int .i64 0,.slice none 0 0,.slice none 0 0])
  clear hrw hrh
  have x1:=(C0.out.p.below ((Below.refl S0.heap.size S0).alloc (Nat.le_refl _) (.cells #[] 9)) C0.out.p.lt).cell 1
  simp only [List.getElem?_cons_zero,List.getElem?_cons_succ] at x1
  go_enter Tryz.func161,Tryz.ntmps161
  go_wp2_with (first
    | (at_builtin;(try rw [hS1]);refine app_ownIs _ rfl _ _ rfl S1.heap.size _ _ [] hs rfl rfl (own_nilI S1 S1.heap.size (Nat.le_refl _)) ((HRh.out S1 C1.out.b).below ((Below.refl S1.heap.size S1).alloc (Nat.le_refl _) (.cells #[] 3)) (Nat.le_refl _)) (by simp;omega) (by simp) ?_;intro u2 w2 o2 _ hb2 _;rw [List.nil_append] at o2;obtain ⟨a2,c2,rfl⟩:=o2.rd.shape;have h2:=(((Below.refl S1.heap.size S1).alloc (Nat.le_refl _) (.cells #[] 3))).trans hb2;have kp:=C1.out.p.below h2 C1.out.p.lt;have y2:=kp.cell 2;have g2:=kp.frozen 2;simp only [List.getElem?_cons_zero,List.getElem?_cons_succ] at y2;obtain ⟨S2,hS2⟩:∃ x,w2.setCell ⟨w.heap.size,2,none⟩ (.slice a2 hs.length c2)=x:=⟨_,rfl⟩;have C2:=hide (show CpG 67 [.int .i64 0,.slice none 0 0,.slice none 0 0] w S2 [.int .i64 r,.slice a1 ws.length c1,.slice a2 hs.length c2] from by rw [<- hS2];exact C1.out.step h2 2 _);have O2:=hide (show OwnI S1.heap.size S2 (.slice a2 hs.length c2) hs from by rw [<- hS2];exact row_set o2 w.heap.size 2 _ (fun k hk e=>by have:=(World.ownsRow.lt o2 k hk).1;have:=C1.out.lt;omega));have O1b:=hide (show OwnS S0.heap.size S2 (.slice a1 ws.length c1) ws from by rw [<- hS2];exact row_oth O1.out (hop9 (w:=w) h2 2 _) (fun k hk e=>by have:=(World.ownsRow.lt O1.out k hk).1;have:=C0.out.lt;omega));clear kp o2 hb2 h2;have t0:=C2.out.p.cell 0;have t1:=C2.out.p.cell 1;have t2:=C2.out.p.cell 2;have e0:=C2.out.r.cell 0;have e1:=C2.out.r.cell 1;have e2:=C2.out.r.cell 2;have f0:=C2.out.r.frozen 0;have f1:=C2.out.r.frozen 1;have f2:=C2.out.r.frozen 2;simp only [List.getElem?_cons_zero,List.getElem?_cons_succ] at t0 t1 t2 e0 e1 e2)
    | (at_builtin;(try rw [hS0]);refine app_ownS _ rfl _ _ rfl S0.heap.size _ _ [] ws rfl rfl (own_nilS S0 S0.heap.size (Nat.le_refl _)) ((HRq.out S0 C0.out.b).below ((Below.refl S0.heap.size S0).alloc (Nat.le_refl _) (.cells #[] 9)) (Nat.le_refl _)) (by simp;omega) (by simp) ?_;intro u1 w1 o1 hb1;rw [List.nil_append] at o1;obtain ⟨a1,c1,rfl⟩:=o1.rd.shape;have h1:=(((Below.refl S0.heap.size S0).alloc (Nat.le_refl _) (.cells #[] 9))).trans hb1;have kp:=C0.out.p.below h1 C0.out.p.lt;have y1:=kp.cell 1;have g1:=kp.frozen 1;simp only [List.getElem?_cons_zero,List.getElem?_cons_succ] at y1;obtain ⟨S1,hS1⟩:∃ x,w1.setCell ⟨w.heap.size,1,none⟩ (.slice a1 ws.length c1)=x:=⟨_,rfl⟩;have C1:=hide (show CpG 67 [.int .i64 0,.slice none 0 0,.slice none 0 0] w S1 [.int .i64 r,.slice a1 ws.length c1,.slice ah hs.length ch] from by rw [<- hS1];exact C0.out.step h1 1 _);have O1:=hide (show OwnS S0.heap.size S1 (.slice a1 ws.length c1) ws from by rw [<- hS1];exact row_set o1 w.heap.size 1 _ (fun k hk e=>by have:=(World.ownsRow.lt o1 k hk).1;have:=C0.out.lt;omega));clear kp o1 hb1 h1;have x2:=(C1.out.p.below ((Below.refl S1.heap.size S1).alloc (Nat.le_refl _) (.cells #[] 3)) C1.out.p.lt).cell 2;simp only [List.getElem?_cons_zero,List.getElem?_cons_succ] at x2))
  have hlt:=C0.out.lt
  have hlt1:=C1.out.lt
  have HO:=hide ((((O1b.out.olderC (g:=w.heap.size+1) (by omega) 0 (.int .i64 r)).olderC (g:=w.heap.size+1) (by omega) 1 (.slice a1 ws.length c1)).olderC (g:=w.heap.size+1) (by omega) 2 (.slice a2 hs.length c2)).mono (show w.heap.size<=S0.heap.size by omega))
  have HO2:=hide ((((O2.out.olderC (g:=w.heap.size+1) (by omega) 0 (.int .i64 r)).olderC (g:=w.heap.size+1) (by omega) 1 (.slice a1 ws.length c1)).olderC (g:=w.heap.size+1) (by omega) 2 (.slice a2 hs.length c2)).mono (show w.heap.size<=S1.heap.size by omega))
  have HB:=hide (((C2.out.b.setCell (p:=⟨w.heap.size+1,0,none⟩) (show w.heap.size<=w.heap.size+1 by omega) (.int .i64 r)).setCell (p:=⟨w.heap.size+1,1,none⟩) (show w.heap.size<=w.heap.size+1 by omega) (.slice a1 ws.length c1)).setCell (p:=⟨w.heap.size+1,2,none⟩) (show w.heap.size<=w.heap.size+1 by omega) (.slice a2 hs.length c2))
  refine bodyPost_ret (v:=.agg #[.int .i64 r,.slice a1 ws.length c1,.slice a2 hs.length c2]) (by simp [results,Tryz.f161,go_sem,e0,e1,e2]) rfl ?_
  exact ⟨_,_,rfl,HO.out,HO2.out,HB.out⟩
theorem specCopied_any (b:Bk) (v:Bv) (w:World) (hr:RdK w b v) (hf:FewK b) :
    Calls Tryz.prog 144 #[bkV b v] w fun e w'=>∃ v',e=.returned (bkV b v')/\OwnK w.heap.size w' b v'/\(∀ g,v'.q.ownBlock=some g->v'.w.ownBlock ≠ some g)/\Below w.heap.size w w':=by
  have hlq:=hf.q
  have hlw:=hf.w
  have hlh:=hf.h
  have hlt:=hf.t
  have hln:=hf.n
  clear hf
  obtain ⟨id,ep,rd,md,qr,qb,qw,tr,tw,th,ts,en,nx,rt⟩:=b
  obtain ⟨vq,vw,vh,vt,vn⟩:=v
  obtain ⟨hq,hw,hh,ht,hn⟩:=hr
  simp only at *
  obtain ⟨aq,cq,rfl⟩:=hq.shape
  obtain ⟨aw,cw,rfl⟩:=hw.shape
  obtain ⟨ah,ch,rfl⟩:=hh.shape
  obtain ⟨at_,ct,rfl⟩:=ht.shape
  obtain ⟨an,cn,rfl⟩:=hn.shape
  have HRq:=hide (fun V (hV:Below w.heap.size w V)=>hq.below hV (Nat.le_refl _))
  have HRw:=hide (fun V (hV:Below w.heap.size w V)=>hw.below hV (Nat.le_refl _))
  have HRh:=hide (fun V (hV:Below w.heap.size w V)=>hh.below hV (Nat.le_refl _))
  have HRt:=hide (fun V (hV:Below w.heap.size w V)=>ht.below hV (Nat.le_refl _))
  have HRn:=hide (fun V (hV:Below w.heap.size w V)=>hn.below hV (Nat.le_refl _))
  simp only [bkV]
  obtain ⟨S0,hS0⟩:∃ x,(w.alloc (.cells #[.int .i64 id,.int .i64 ep,.int .i64 rd,.string md,.int .i64 qr,.int .i64 qb,.slice aq qw.length cq,.int .i64 tr,.slice aw tw.length cw,.slice ah th.length ch,.slice at_ ts.length ct,.bool en,.slice an nx.length cn,.string rt] 92)).alloc (.cells #[.int .i64 0,.int .i64 0,.int .i64 0,.string { data:=#[] },.int .i64 0,.int .i64 0,.slice none 0 0,.int .i64 0,.slice none 0 0,.slice none 0 0,.slice none 0 0,.bool false,.slice none 0 0,.string { data:=#[] }] 92)=x:=⟨_,rfl⟩
  have C0:=hide (show Cp w S0 [.int .i64 id,.int .i64 ep,.int .i64 rd,.string md,.int .i64 qr,.int .i64 qb,.slice aq qw.length cq,.int .i64 tr,.slice aw tw.length cw,.slice ah th.length ch,.slice at_ ts.length ct,.bool en,.slice an nx.length cn,.string rt] from by rw [<- hS0];exact cp_start w [.int .i64 id,.int .i64 ep,.int .i64 rd,.string md,.int .i64 qr,.int .i64 qb,.slice aq qw.length cq,.int .i64 tr,.slice aw tw.length cw,.slice ah th.length ch,.slice at_ ts.length ct,.bool en,.slice an nx.length cn,.string rt])
  clear hq hw hh ht hn
  have HQ:=hide (fun V (hV:Below w.heap.size w V)=>specCopyQc_any qr qb (.slice aq qw.length cq) qw V (HRq.out V hV) hlq)
  have HT:=hide (fun V (hV:Below w.heap.size w V)=>specCopyTc_any tr (.slice aw tw.length cw) (.slice ah th.length ch) tw th V (HRw.out V hV) (HRh.out V hV) hlw hlh)
  simp only [qcV,tcV] at HQ HT
  go_enter Tryz.func144,Tryz.ntmps144
  have x4:=C0.out.p.cell 4
  have x5:=C0.out.p.cell 5
  have x6:=C0.out.p.cell 6
  simp only [List.getElem?_cons_zero,List.getElem?_cons_succ] at x4 x5 x6
  go_wp2_with fail
  (try rw [hS0])
  refine (HQ.out S0 C0.out.b).mono ?_
  rintro e w1 ⟨u1,rfl,o1,hb1⟩
  obtain ⟨a1,c1,rfl⟩:=o1.rd.shape
  have kp:=C0.out.p.below hb1 C0.out.p.lt
  have y4:=kp.cell 4
  have g4:=kp.frozen 4
  have y5:=kp.cell 5
  have g5:=kp.frozen 5
  have y6:=kp.cell 6
  have g6:=kp.frozen 6
  simp only [List.getElem?_cons_zero,List.getElem?_cons_succ] at y4 y5 y6
  obtain ⟨S1,hS1⟩:∃ x,((w1.setCell ⟨w.heap.size,4,none⟩ (.int .i64 qr)).setCell ⟨w.heap.size,5,none⟩ (.int .i64 qb)).setCell ⟨w.heap.size,6,none⟩ (.slice a1 qw.length c1)=x:=⟨_,rfl⟩
  have C1:=hide (show Cp w S1 [.int .i64 id,.int .i64 ep,.int .i64 rd,.string md,.int .i64 qr,.int .i64 qb,.slice a1 qw.length c1,.int .i64 tr,.slice aw tw.length cw,.slice ah th.length ch,.slice at_ ts.length ct,.bool en,.slice an nx.length cn,.string rt] from by rw [<- hS1];exact ((C0.out.step hb1 4 _).step (Below.refl _ _) 5 _).step (Below.refl _ _) 6 _)
  have P1:=hide (show Oth (fun g=>g=w.heap.size) S0 S1 from by rw [<- hS1];exact ((hop9 hb1 4 _).set (S:=fun g=>g=w.heap.size) rfl 5 _).set (S:=fun g=>g=w.heap.size) rfl 6 _)
  have O1:=hide (show OwnS S0.heap.size S1 (.slice a1 qw.length c1) qw from by rw [<- hS1];exact ((o1.olderC (by have:=C0.out.lt;omega) 4 _).olderC (by have:=C0.out.lt;omega) 5 _).olderC (by have:=C0.out.lt;omega) 6 _)
  clear x4 x5 x6 kp o1 hb1
  have x7:=C1.out.p.cell 7
  have x8:=C1.out.p.cell 8
  have x9:=C1.out.p.cell 9
  simp only [List.getElem?_cons_zero,List.getElem?_cons_succ] at x7 x8 x9
  go_wp2_with fail
  (try rw [hS1])
  refine (HT.out S1 C1.out.b).mono ?_
  rintro e w2 ⟨u2,u3,rfl,o2,o3,hb2⟩
  obtain ⟨a2,c2,rfl⟩:=o2.rd.shape
  obtain ⟨a3,c3,rfl⟩:=o3.rd.shape
  have kp:=C1.out.p.below hb2 C1.out.p.lt
  have y7:=kp.cell 7
  have g7:=kp.frozen 7
  have y8:=kp.cell 8
  have g8:=kp.frozen 8
  have y9:=kp.cell 9
  have g9:=kp.frozen 9
  simp only [List.getElem?_cons_zero,List.getElem?_cons_succ] at y7 y8 y9
  obtain ⟨S3,hS3⟩:∃ x,((w2.setCell ⟨w.heap.size,7,none⟩ (.int .i64 tr)).setCell ⟨w.heap.size,8,none⟩ (.slice a2 tw.length c2)).setCell ⟨w.heap.size,9,none⟩ (.slice a3 th.length c3)=x:=⟨_,rfl⟩
  have C3:=hide (show Cp w S3 [.int .i64 id,.int .i64 ep,.int .i64 rd,.string md,.int .i64 qr,.int .i64 qb,.slice a1 qw.length c1,.int .i64 tr,.slice a2 tw.length c2,.slice a3 th.length c3,.slice at_ ts.length ct,.bool en,.slice an nx.length cn,.string rt] from by rw [<- hS3];exact ((C1.out.step hb2 7 _).step (Below.refl _ _) 8 _).step (Below.refl _ _) 9 _)
  have P3:=hide (show Oth (fun g=>g=w.heap.size) S1 S3 from by rw [<- hS3];exact ((hop9 hb2 7 _).set (S:=fun g=>g=w.heap.size) rfl 8 _).set (S:=fun g=>g=w.heap.size) rfl 9 _)
  have O2:=hide (show OwnS S1.heap.size S3 (.slice a2 tw.length c2) tw from by rw [<- hS3];exact ((o2.olderC (by have:=C1.out.lt;omega) 7 _).olderC (by have:=C1.out.lt;omega) 8 _).olderC (by have:=C1.out.lt;omega) 9 _)
  have O3:=hide (show OwnI S1.heap.size S3 (.slice a3 th.length c3) th from by rw [<- hS3];exact ((o3.olderC (by have:=C1.out.lt;omega) 7 _).olderC (by have:=C1.out.lt;omega) 8 _).olderC (by have:=C1.out.lt;omega) 9 _)
  clear x7 x8 x9 kp o2 o3 hb2 y4 y5 y6 g4 g5 g6
  have x10:=(C3.out.p.below ((Below.refl S3.heap.size S3).alloc (Nat.le_refl _) (.cells #[] 177)) C3.out.p.lt).cell 10
  simp only [List.getElem?_cons_zero,List.getElem?_cons_succ] at x10
  go_wp2_with (first | (at_builtin;(try rw [hS4]);refine app_ownV _ rfl _ _ rfl S4.heap.size _ _ [] nx rfl rfl (own_nilV S4 S4.heap.size (Nat.le_refl _)) ((HRn.out S4 C4.out.b).below ((Below.refl S4.heap.size S4).alloc (Nat.le_refl _) (.cells #[] 100)) (Nat.le_refl _)) (by simp;omega) (by simp) ?_;intro u5 w5 o5 _ hb5;rw [List.nil_append] at o5;obtain ⟨a5,c5,rfl⟩:=o5.rd.shape;have h5:=(((Below.refl S4.heap.size S4).alloc (Nat.le_refl _) (.cells #[] 100))).trans hb5;have kp:=C4.out.p.below h5 C4.out.p.lt;have y12:=kp.cell 12;have g12:=kp.frozen 12;simp only [List.getElem?_cons_zero,List.getElem?_cons_succ] at y12;obtain ⟨S5,hS5⟩:∃ x,w5.setCell ⟨w.heap.size,12,none⟩ (.slice a5 nx.length c5)=x:=⟨_,rfl⟩;have C5:=hide (show Cp w S5 [.int .i64 id,.int .i64 ep,.int .i64 rd,.string md,.int .i64 qr,.int .i64 qb,.slice a1 qw.length c1,.int .i64 tr,.slice a2 tw.length c2,.slice a3 th.length c3,.slice a4 ts.length c4,.bool en,.slice a5 nx.length c5,.string rt] from by rw [<- hS5];exact C4.out.step h5 12 _);have P5:=hide (show Oth (fun g=>g=w.heap.size) S4 S5 from by rw [<- hS5];exact hop9 h5 12 _);have O5:=hide (show OwnV S4.heap.size S5 (.slice a5 nx.length c5) nx from by rw [<- hS5];exact row_set o5 w.heap.size 12 _ (fun k hk e=>by have:=(World.ownsRow.lt o5 k hk).1;have:=C4.out.lt;omega));clear kp o5 hb5 h5;have t0:=C5.out.p.cell 0;have e0:=C5.out.r.cell 0;have f0:=C5.out.r.frozen 0;have t1:=C5.out.p.cell 1;have e1:=C5.out.r.cell 1;have f1:=C5.out.r.frozen 1;have t2:=C5.out.p.cell 2;have e2:=C5.out.r.cell 2;have f2:=C5.out.r.frozen 2;have t3:=C5.out.p.cell 3;have e3:=C5.out.r.cell 3;have f3:=C5.out.r.frozen 3;have t4:=C5.out.p.cell 4;have e4:=C5.out.r.cell 4;have f4:=C5.out.r.frozen 4;have t5:=C5.out.p.cell 5;have e5:=C5.out.r.cell 5;have f5:=C5.out.r.frozen 5;have t6:=C5.out.p.cell 6;have e6:=C5.out.r.cell 6;have f6:=C5.out.r.frozen 6;have t7:=C5.out.p.cell 7;have e7:=C5.out.r.cell 7;have f7:=C5.out.r.frozen 7;have t8:=C5.out.p.cell 8;have e8:=C5.out.r.cell 8;have f8:=C5.out.r.frozen 8;have t9:=C5.out.p.cell 9;have e9:=C5.out.r.cell 9;have f9:=C5.out.r.frozen 9;have t10:=C5.out.p.cell 10;have e10:=C5.out.r.cell 10;have f10:=C5.out.r.frozen 10;have t11:=C5.out.p.cell 11;have e11:=C5.out.r.cell 11;have f11:=C5.out.r.frozen 11;have t12:=C5.out.p.cell 12;have e12:=C5.out.r.cell 12;have f12:=C5.out.r.frozen 12;have t13:=C5.out.p.cell 13;have e13:=C5.out.r.cell 13;have f13:=C5.out.r.frozen 13;simp only [List.getElem?_cons_zero,List.getElem?_cons_succ] at t0 e0 t1 e1 t2 e2 t3 e3 t4 e4 t5 e5 t6 e6 t7 e7 t8 e8 t9 e9 t10 e10 t11 e11 t12 e12 t13 e13) | (at_builtin;(try rw [hS3]);refine app_ownTs _ rfl _ _ rfl S3.heap.size _ _ [] ts rfl rfl (own_nilT S3 S3.heap.size (Nat.le_refl _)) ((HRt.out S3 C3.out.b).below ((Below.refl S3.heap.size S3).alloc (Nat.le_refl _) (.cells #[] 177)) (Nat.le_refl _)) (by simp;omega) (by simp) ?_;intro u4 w4 o4 hb4;rw [List.nil_append] at o4;obtain ⟨a4,c4,rfl⟩:=o4.rd.shape;have h4:=(((Below.refl S3.heap.size S3).alloc (Nat.le_refl _) (.cells #[] 177))).trans hb4;have kp:=C3.out.p.below h4 C3.out.p.lt;have y10:=kp.cell 10;have g10:=kp.frozen 10;simp only [List.getElem?_cons_zero,List.getElem?_cons_succ] at y10;obtain ⟨S4,hS4⟩:∃ x,w4.setCell ⟨w.heap.size,10,none⟩ (.slice a4 ts.length c4)=x:=⟨_,rfl⟩;have C4:=hide (show Cp w S4 [.int .i64 id,.int .i64 ep,.int .i64 rd,.string md,.int .i64 qr,.int .i64 qb,.slice a1 qw.length c1,.int .i64 tr,.slice a2 tw.length c2,.slice a3 th.length c3,.slice a4 ts.length c4,.bool en,.slice an nx.length cn,.string rt] from by rw [<- hS4];exact C3.out.step h4 10 _);have P4:=hide (show Oth (fun g=>g=w.heap.size) S3 S4 from by rw [<- hS4];exact hop9 h4 10 _);have O4:=hide (show OwnT S3.heap.size S4 (.slice a4 ts.length c4) ts from by rw [<- hS4];exact row_set o4 w.heap.size 10 _ (fun k hk e=>by have:=(World.ownsRow.lt o4 k hk).1;have:=C3.out.lt;omega));clear kp o4 hb4 h4;have x12:=(C4.out.p.below ((Below.refl S4.heap.size S4).alloc (Nat.le_refl _) (.cells #[] 100)) C4.out.p.lt).cell 12;simp only [List.getElem?_cons_zero,List.getElem?_cons_succ] at x12))
  have hb0:=C0.out.lt
  have F1:=hide (((show OwnS S0.heap.size S5 (.slice a1 qw.length c1) qw from (row_oth (row_oth (row_oth O1.out P3.out (fun k hk e=>by have:=(World.ownsRow.lt O1.out k hk).1;have:=C0.out.lt;omega)) P4.out (fun k hk e=>by have:=(World.ownsRow.lt O1.out k hk).1;have:=C0.out.lt;omega)) P5.out (fun k hk e=>by have:=(World.ownsRow.lt O1.out k hk).1;have:=C0.out.lt;omega))).put14 (g:=w.heap.size+1) (by have:=C0.out.lt;omega) (.int .i64 id) (.int .i64 ep) (.int .i64 rd) (.string md) (.int .i64 qr) (.int .i64 qb) (.slice a1 qw.length c1) (.int .i64 tr) (.slice a2 tw.length c2) (.slice a3 th.length c3) (.slice a4 ts.length c4) (.bool en) (.slice a5 nx.length c5) (.string rt)).mono (show w.heap.size<=S0.heap.size by have:=C0.out.lt;omega))
  have F2:=hide (((show OwnS S1.heap.size S5 (.slice a2 tw.length c2) tw from (row_oth (row_oth O2.out P4.out (fun k hk e=>by have:=(World.ownsRow.lt O2.out k hk).1;have:=C1.out.lt;omega)) P5.out (fun k hk e=>by have:=(World.ownsRow.lt O2.out k hk).1;have:=C1.out.lt;omega))).put14 (g:=w.heap.size+1) (by have:=C1.out.lt;omega) (.int .i64 id) (.int .i64 ep) (.int .i64 rd) (.string md) (.int .i64 qr) (.int .i64 qb) (.slice a1 qw.length c1) (.int .i64 tr) (.slice a2 tw.length c2) (.slice a3 th.length c3) (.slice a4 ts.length c4) (.bool en) (.slice a5 nx.length c5) (.string rt)).mono (show w.heap.size<=S1.heap.size by have:=C1.out.lt;omega))
  have F3:=hide (((show OwnI S1.heap.size S5 (.slice a3 th.length c3) th from (row_oth (row_oth O3.out P4.out (fun k hk e=>by have:=(World.ownsRow.lt O3.out k hk).1;have:=C1.out.lt;omega)) P5.out (fun k hk e=>by have:=(World.ownsRow.lt O3.out k hk).1;have:=C1.out.lt;omega))).put14 (g:=w.heap.size+1) (by have:=C1.out.lt;omega) (.int .i64 id) (.int .i64 ep) (.int .i64 rd) (.string md) (.int .i64 qr) (.int .i64 qb) (.slice a1 qw.length c1) (.int .i64 tr) (.slice a2 tw.length c2) (.slice a3 th.length c3) (.slice a4 ts.length c4) (.bool en) (.slice a5 nx.length c5) (.string rt)).mono (show w.heap.size<=S1.heap.size by have:=C1.out.lt;omega))
  have F4:=hide (((show OwnT S3.heap.size S5 (.slice a4 ts.length c4) ts from (row_oth O4.out P5.out (fun k hk e=>by have:=(World.ownsRow.lt O4.out k hk).1;have:=C3.out.lt;omega))).put14 (g:=w.heap.size+1) (by have:=C3.out.lt;omega) (.int .i64 id) (.int .i64 ep) (.int .i64 rd) (.string md) (.int .i64 qr) (.int .i64 qb) (.slice a1 qw.length c1) (.int .i64 tr) (.slice a2 tw.length c2) (.slice a3 th.length c3) (.slice a4 ts.length c4) (.bool en) (.slice a5 nx.length c5) (.string rt)).mono (show w.heap.size<=S3.heap.size by have:=C3.out.lt;omega))
  have F5:=hide (((show OwnV S4.heap.size S5 (.slice a5 nx.length c5) nx from O5.out).put14 (g:=w.heap.size+1) (by have:=C4.out.lt;omega) (.int .i64 id) (.int .i64 ep) (.int .i64 rd) (.string md) (.int .i64 qr) (.int .i64 qb) (.slice a1 qw.length c1) (.int .i64 tr) (.slice a2 tw.length c2) (.slice a3 th.length c3) (.slice a4 ts.length c4) (.bool en) (.slice a5 nx.length c5) (.string rt)).mono (show w.heap.size<=S4.heap.size by have:=C4.out.lt;omega))
  have FB:=hide (C5.out.b.trans ((below_put14 S5 (w.heap.size+1) (.int .i64 id) (.int .i64 ep) (.int .i64 rd) (.string md) (.int .i64 qr) (.int .i64 qb) (.slice a1 qw.length c1) (.int .i64 tr) (.slice a2 tw.length c2) (.slice a3 th.length c3) (.slice a4 ts.length c4) (.bool en) (.slice a5 nx.length c5) (.string rt)).mono (by omega)))
  have Hne:Hid (∀ g,(Value.slice a1 qw.length c1).ownBlock=some g->(Value.slice a2 tw.length c2).ownBlock ≠ some g):=hide (fun g h1 h2=>by have q1:=(World.ownsRow.lt O1.out g h1).2;have q2:=(World.ownsRow.lt O2.out g h2).1;omega)
  refine bodyPost_ret (v:=.agg #[.int .i64 id,.int .i64 ep,.int .i64 rd,.string md,.int .i64 qr,.int .i64 qb,.slice a1 qw.length c1,.int .i64 tr,.slice a2 tw.length c2,.slice a3 th.length c3,.slice a4 ts.length c4,.bool en,.slice a5 nx.length c5,.string rt]) (by simp [results,Tryz.f144,go_sem,e0,e1,e2,e3,e4,e5,e6,e7,e8,e9,e10,e11,e12,e13]) rfl ?_
  exact ⟨⟨_,_,_,_,_⟩,rfl,⟨F1.out,F2.out,F3.out,F4.out,F5.out⟩,Hne.out,FB.out⟩
def okP (l:List Bk) (i:Nat) (h:i < l.length):Prop :=
  blB l[i]=true/\l[i].ep=(l[0]'(by omega)).ep/\(0 < i->(l[i - 1]'(by omega)).id < l[i].id) /\
    (rootB l[i].qr l[i].qb l[i].qw=true\/∃ k,∃ hk:k < i,(l[k]'(by omega)).id=l[i].qb/\(l[k]'(by omega)).rd=l[i].qr)
def treeP (l:List Bk):Prop:=l.length<=400/\∀ i (h:i < l.length),okP l i h
def okD (l:List Bk) (i:Nat) (h:i < l.length):Decidable (okP l i h):=by unfold okP;exact inferInstance
def treeD (l:List Bk):Decidable (treeP l):=@instDecidableAnd _ _ _ (@Nat.decidableBallLT l.length (okP l) (okD l))
def treeB (l:List Bk):Bool:=@decide (treeP l) (treeD l)
def AscP (l:List Bk) (n:Nat):Prop:=∀ a b (ha:a < l.length) (hb:b < l.length),a < b->b < n->l[a].id < l[b].id
def AtR (l:List Bk) (id r:Int):Prop :=
  (r=-1/\∀ j (h:j < l.length),l[j].id ≠ id)\/∃ j,∃ h:j < l.length,r=(j:Int)/\l[j].id=id/\∀ i (h2:i < l.length),i < j->l[i].id ≠ id
def atI:List Bk->Int->Int
  | [],_=>-1
  | b :: l,id=>if b.id=id then 0 else if atI l id=-1 then -1 else atI l id+1
end Go.Proofs.YtaidhenkijjcfaaGreat
