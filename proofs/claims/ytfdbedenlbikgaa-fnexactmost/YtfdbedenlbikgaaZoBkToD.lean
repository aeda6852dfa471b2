/- A block copied. -/
import Derived.Test.YtfdbedenlbikgaaZoBkVal
set_option maxRecDepth 20000
set_option maxHeartbeats 4000000
namespace Go.Proofs.Ytfdbedenlbikgaa
open Go.RowKit
set_option linter.unusedVariables false
theorem toQc_any (r b:Int) (vw:Value) (ws:List ByteArray) (w:World) (hrw:RdS w vw ws) (hlw:ws.length<=4000000) :
    Calls Try.prog 61 #[qcV r b vw] w fun en w'=>∃ vw',en=.returned (qcV r b vw')/\OwnS w.heap.size w' vw' ws/\Below w.heap.size w w':=by
  obtain ⟨aw,cw,rfl⟩:=hrw.shape
  have Hrw:=hide hrw
  clear hrw
  simp only [qcV] at *
  go_enter Try.func61,Try.ntmps61
  go_wp2_with fail
  obtain ⟨w3,hw3⟩:∃ x,((w.alloc (.cells #[.int .i64 r,.int .i64 b,.slice aw ws.length cw] 81)).alloc (.cells #[.int .i64 0,.int .i64 0,.slice none 0 0] 54)).alloc (.cells #[.int .i64 r,.int .i64 b,.slice none 0 0] 54)=x:=⟨_,rfl⟩
  rw [hw3]
  have hb3:Below w.heap.size w w3:=by rw [<- hw3];exact (((Below.refl _ w).alloc (Nat.le_refl _) _).alloc (by simp) _).alloc (by simp;omega) _
  have hs3:w3.heap.size=w.heap.size+3:=by rw [<- hw3];simp
  have kO:Blk w3 (w.heap.size+2) 54 [.int .i64 r,.int .i64 b,.slice none 0 0]:=by rw [<- hw3];exact Blk.newR _ _ [.int .i64 r,.int .i64 b,.slice none 0 0] _ (by simp)
  have kR:Blk w3 (w.heap.size+1) 54 [.int .i64 0,.int .i64 0,.slice none 0 0]:=by rw [<- hw3];exact (Blk.newR _ _ [.int .i64 0,.int .i64 0,.slice none 0 0] _ (by simp)).below ((Below.refl (w.heap.size+2) _).alloc (by simp) _) (by omega)
  refine (toStringS_any _ ws _ (Hrw.out.below hb3 (Nat.le_refl _)) hlw).mono ?_
  rintro en w4 ⟨v4,rfl,o4,hb4⟩
  obtain ⟨a4,c4,rfl⟩:=o4.rd.shape
  have hs4:=hb4.size
  have kO4:=kO.below hb4 (by omega)
  have kR4:=kR.below hb4 (by omega)
  have hB4:=hb3.trans (hb4.mono hb3.size)
  have g2:=kO4.frozen 2
  have x2:=kO4.cell 2
  have kO5:=kO4.setC 2 (.slice a4 ws.length c4)
  have kR5:=kR4.otherC (w.heap.size+2) 2 (.slice a4 ws.length c4) (by omega)
  have t0:=kO5.cell 0
  have t1:=kO5.cell 1
  have t2:=kO5.cell 2
  have e0:=kR5.cell 0
  have e1:=kR5.cell 1
  have e2:=kR5.cell 2
  have f0:=kR5.frozen 0
  have f1:=kR5.frozen 1
  have f2:=kR5.frozen 2
  simp only [List.set_cons_zero,List.set_cons_succ,List.getElem?_cons_zero,List.getElem?_cons_succ] at x2 t0 t1 t2 e0 e1 e2
  have HO:=hide (((((o4.olderC (g:=w.heap.size+2) (by omega) 2 (.slice a4 ws.length c4)).olderC (g:=w.heap.size+1) (by omega) 0 (.int .i64 r)).olderC (g:=w.heap.size+1) (by omega) 1 (.int .i64 b)).olderC (g:=w.heap.size+1) (by omega) 2 (.slice a4 ws.length c4)).mono (show w.heap.size<=w3.heap.size by omega))
  have HB:=hide ((((hB4.setCell (p:=⟨w.heap.size+2,2,none⟩) (show w.heap.size<=w.heap.size+2 by omega) (.slice a4 ws.length c4)).setCell (p:=⟨w.heap.size+1,0,none⟩) (show w.heap.size<=w.heap.size+1 by omega) (.int .i64 r)).setCell (p:=⟨w.heap.size+1,1,none⟩) (show w.heap.size<=w.heap.size+1 by omega) (.int .i64 b)).setCell (p:=⟨w.heap.size+1,2,none⟩) (show w.heap.size<=w.heap.size+1 by omega) (.slice a4 ws.length c4))
  clear o4 hb4 kO kR kO4 kR4 kO5 kR5 hB4 hb3 hw3 hs3 hs4
  go_wp2
  refine bodyPost_ret (v:=.agg #[.int .i64 r,.int .i64 b,.slice a4 ws.length c4]) (by simp [results,Try.f61,go_sem,e0,e1,e2]) rfl ?_
  exact ⟨_,rfl,HO.out,HB.out⟩
theorem OwnT.olderC {base:Nat} {w:World} {v:Value} {l:List Tx5} (h:OwnT base w v l) {g:Nat} (hg:g < base) (j:Nat) (u:Value):OwnT base (w.setCell ⟨g,j,none⟩ u) v l :=
  World.ownsRow.kept h (grown_set w g j u) (.inr fun e=>by have:=(h.lt g e).1;omega)
theorem OwnV.olderC {base:Nat} {w:World} {v:Value} {l:List Vl} (h:OwnV base w v l) {g:Nat} (hg:g < base) (j:Nat) (u:Value):OwnV base (w.setCell ⟨g,j,none⟩ u) v l :=
  World.ownsRow.kept h (grown_set w g j u) (.inr fun e=>by have:=h.ge g e;omega)
theorem OwnT.mono {base base':Nat} {w:World} {v:Value} {l:List Tx5} (h:OwnT base w v l) (hB:base'<=base):OwnT base' w v l:=by
  refine ⟨h.1,?_⟩
  rcases h.2 with h2 | ⟨g,cap,cur,e,hb,r⟩
  · exact .inl h2
  · exact .inr ⟨g,cap,cur,e,Nat.le_trans hB hb,r⟩
theorem OwnS.put14 {base:Nat} {w:World} {v:Value} {l:List ByteArray} (h:OwnS base w v l) {g:Nat} (hg:g < base) (y0 y1 y2 y3 y4 y5 y6 y7 y8 y9 y10 y11 y12 y13:Value):OwnS base (((((((((((((((w).setCell ⟨g,0,none⟩ (y0)).setCell ⟨g,1,none⟩ (y1)).setCell ⟨g,2,none⟩ (y2)).setCell ⟨g,3,none⟩ (y3)).setCell ⟨g,4,none⟩ (y4)).setCell ⟨g,5,none⟩ (y5)).setCell ⟨g,6,none⟩ (y6)).setCell ⟨g,7,none⟩ (y7)).setCell ⟨g,8,none⟩ (y8)).setCell ⟨g,9,none⟩ (y9)).setCell ⟨g,10,none⟩ (y10)).setCell ⟨g,11,none⟩ (y11)).setCell ⟨g,12,none⟩ (y12)).setCell ⟨g,13,none⟩ (y13)) v l:=(((((((((((((h.olderC hg 0 y0).olderC hg 1 y1).olderC hg 2 y2).olderC hg 3 y3).olderC hg 4 y4).olderC hg 5 y5).olderC hg 6 y6).olderC hg 7 y7).olderC hg 8 y8).olderC hg 9 y9).olderC hg 10 y10).olderC hg 11 y11).olderC hg 12 y12).olderC hg 13 y13
theorem OwnI.put14 {base:Nat} {w:World} {v:Value} {l:List Int} (h:OwnI base w v l) {g:Nat} (hg:g < base) (y0 y1 y2 y3 y4 y5 y6 y7 y8 y9 y10 y11 y12 y13:Value):OwnI base (((((((((((((((w).setCell ⟨g,0,none⟩ (y0)).setCell ⟨g,1,none⟩ (y1)).setCell ⟨g,2,none⟩ (y2)).setCell ⟨g,3,none⟩ (y3)).setCell ⟨g,4,none⟩ (y4)).setCell ⟨g,5,none⟩ (y5)).setCell ⟨g,6,none⟩ (y6)).setCell ⟨g,7,none⟩ (y7)).setCell ⟨g,8,none⟩ (y8)).setCell ⟨g,9,none⟩ (y9)).setCell ⟨g,10,none⟩ (y10)).setCell ⟨g,11,none⟩ (y11)).setCell ⟨g,12,none⟩ (y12)).setCell ⟨g,13,none⟩ (y13)) v l:=(((((((((((((h.olderC hg 0 y0).olderC hg 1 y1).olderC hg 2 y2).olderC hg 3 y3).olderC hg 4 y4).olderC hg 5 y5).olderC hg 6 y6).olderC hg 7 y7).olderC hg 8 y8).olderC hg 9 y9).olderC hg 10 y10).olderC hg 11 y11).olderC hg 12 y12).olderC hg 13 y13
theorem OwnT.put14 {base:Nat} {w:World} {v:Value} {l:List Tx5} (h:OwnT base w v l) {g:Nat} (hg:g < base) (y0 y1 y2 y3 y4 y5 y6 y7 y8 y9 y10 y11 y12 y13:Value):OwnT base (((((((((((((((w).setCell ⟨g,0,none⟩ (y0)).setCell ⟨g,1,none⟩ (y1)).setCell ⟨g,2,none⟩ (y2)).setCell ⟨g,3,none⟩ (y3)).setCell ⟨g,4,none⟩ (y4)).setCell ⟨g,5,none⟩ (y5)).setCell ⟨g,6,none⟩ (y6)).setCell ⟨g,7,none⟩ (y7)).setCell ⟨g,8,none⟩ (y8)).setCell ⟨g,9,none⟩ (y9)).setCell ⟨g,10,none⟩ (y10)).setCell ⟨g,11,none⟩ (y11)).setCell ⟨g,12,none⟩ (y12)).setCell ⟨g,13,none⟩ (y13)) v l:=(((((((((((((h.olderC hg 0 y0).olderC hg 1 y1).olderC hg 2 y2).olderC hg 3 y3).olderC hg 4 y4).olderC hg 5 y5).olderC hg 6 y6).olderC hg 7 y7).olderC hg 8 y8).olderC hg 9 y9).olderC hg 10 y10).olderC hg 11 y11).olderC hg 12 y12).olderC hg 13 y13
theorem OwnV.put14 {base:Nat} {w:World} {v:Value} {l:List Vl} (h:OwnV base w v l) {g:Nat} (hg:g < base) (y0 y1 y2 y3 y4 y5 y6 y7 y8 y9 y10 y11 y12 y13:Value):OwnV base (((((((((((((((w).setCell ⟨g,0,none⟩ (y0)).setCell ⟨g,1,none⟩ (y1)).setCell ⟨g,2,none⟩ (y2)).setCell ⟨g,3,none⟩ (y3)).setCell ⟨g,4,none⟩ (y4)).setCell ⟨g,5,none⟩ (y5)).setCell ⟨g,6,none⟩ (y6)).setCell ⟨g,7,none⟩ (y7)).setCell ⟨g,8,none⟩ (y8)).setCell ⟨g,9,none⟩ (y9)).setCell ⟨g,10,none⟩ (y10)).setCell ⟨g,11,none⟩ (y11)).setCell ⟨g,12,none⟩ (y12)).setCell ⟨g,13,none⟩ (y13)) v l:=(((((((((((((h.olderC hg 0 y0).olderC hg 1 y1).olderC hg 2 y2).olderC hg 3 y3).olderC hg 4 y4).olderC hg 5 y5).olderC hg 6 y6).olderC hg 7 y7).olderC hg 8 y8).olderC hg 9 y9).olderC hg 10 y10).olderC hg 11 y11).olderC hg 12 y12).olderC hg 13 y13
theorem below_put14 (W:World) (g:Nat) (y0 y1 y2 y3 y4 y5 y6 y7 y8 y9 y10 y11 y12 y13:Value):Below g W (((((((((((((((W).setCell ⟨g,0,none⟩ (y0)).setCell ⟨g,1,none⟩ (y1)).setCell ⟨g,2,none⟩ (y2)).setCell ⟨g,3,none⟩ (y3)).setCell ⟨g,4,none⟩ (y4)).setCell ⟨g,5,none⟩ (y5)).setCell ⟨g,6,none⟩ (y6)).setCell ⟨g,7,none⟩ (y7)).setCell ⟨g,8,none⟩ (y8)).setCell ⟨g,9,none⟩ (y9)).setCell ⟨g,10,none⟩ (y10)).setCell ⟨g,11,none⟩ (y11)).setCell ⟨g,12,none⟩ (y12)).setCell ⟨g,13,none⟩ (y13)):=((((((((((((((Below.refl _ W).setCell (p:=⟨g,0,none⟩) (Nat.le_refl _) y0).setCell (p:=⟨g,1,none⟩) (Nat.le_refl _) y1).setCell (p:=⟨g,2,none⟩) (Nat.le_refl _) y2).setCell (p:=⟨g,3,none⟩) (Nat.le_refl _) y3).setCell (p:=⟨g,4,none⟩) (Nat.le_refl _) y4).setCell (p:=⟨g,5,none⟩) (Nat.le_refl _) y5).setCell (p:=⟨g,6,none⟩) (Nat.le_refl _) y6).setCell (p:=⟨g,7,none⟩) (Nat.le_refl _) y7).setCell (p:=⟨g,8,none⟩) (Nat.le_refl _) y8).setCell (p:=⟨g,9,none⟩) (Nat.le_refl _) y9).setCell (p:=⟨g,10,none⟩) (Nat.le_refl _) y10).setCell (p:=⟨g,11,none⟩) (Nat.le_refl _) y11).setCell (p:=⟨g,12,none⟩) (Nat.le_refl _) y12).setCell (p:=⟨g,13,none⟩) (Nat.le_refl _) y13
structure OwnK (base:Nat) (w:World) (b:Bk) (v:Bv):Prop where
  q:OwnS base w v.q b.qw
  p:OwnS base w v.w b.tw
  h:OwnI base w v.h b.th
  t:OwnT base w v.t b.ts
  n:OwnV base w v.n b.nx
theorem OwnK.rd {base:Nat} {w:World} {b:Bk} {v:Bv} (h:OwnK base w b v):RdK w b v:=⟨h.q.rd,h.p.rd,h.h.rd,h.t.rd,h.n.rd⟩
theorem toBlockD_any (b:Bk) (v:Bv) (w:World) (hr:RdK w b v) (hf:FewK b) :
    Calls Try.prog 40 #[bkV b v] w fun e w'=>∃ v',e=.returned (bkV b v')/\OwnK w.heap.size w' b v'/\(∀ g,v'.q.ownBlock=some g->v'.w.ownBlock ≠ some g)/\Below w.heap.size w w':=by
  have hlq:=hf.q
  have hlw:=hf.w
  have hlh:=hf.h
  have hlt:=hf.t
  have hln:=hf.n
  clear hf
  obtain ⟨id,ep,rd,mk,qr,qb,qw,tr,tw,th,ts,en,nx,rt⟩:=b
  obtain ⟨vq,vw,vh,vt,vn⟩:=v
  obtain ⟨hq,hw,hh,ht,hn⟩:=hr
  simp only at *
  obtain ⟨aq,cq,rfl⟩:=hq.shape
  obtain ⟨aw,cw,rfl⟩:=hw.shape
  obtain ⟨ah,ch,rfl⟩:=hh.shape
  obtain ⟨at_,ct,rfl⟩:=ht.shape
  obtain ⟨an,cn,rfl⟩:=hn.shape
  have E1:=hide (fun V (hV:Below w.heap.size w V)=>toQc_any qr qb (.slice aq qw.length cq) qw V (hq.below hV (Nat.le_refl _)) hlq)
  have E2:=hide (fun V (hV:Below w.heap.size w V)=>toTc_any tr (.slice aw tw.length cw) (.slice ah th.length ch) tw th V (hw.below hV (Nat.le_refl _)) (hh.below hV (Nat.le_refl _)) hlw hlh)
  have E3:=hide (fun V (hV:Below w.heap.size w V)=>toTxS_any (.slice at_ ts.length ct) ts V (ht.below hV (Nat.le_refl _)) hlt)
  have E4:=hide (fun V (hV:Below w.heap.size w V)=>toValS_any (.slice an nx.length cn) nx V (hn.below hV (Nat.le_refl _)) hln)
  clear hq hw hh ht hn
  simp only [bkV,qcV,tcV] at *
  go_enter Try.func40,Try.ntmps40
  go_wp2_with fail
  obtain ⟨w3,hw3⟩:∃ x,((w.alloc (.cells #[.int .i64 id,.int .i64 ep,.int .i64 rd,.string mk,.int .i64 qr,.int .i64 qb,.slice aq qw.length cq,.int .i64 tr,.slice aw tw.length cw,.slice ah th.length ch,.slice at_ ts.length ct,.bool en,.slice an nx.length cn,.string rt] 91)).alloc (.cells #[.int .i64 0,.int .i64 0,.int .i64 0,.string { data:=#[] },.int .i64 0,.int .i64 0,.slice none 0 0,.int .i64 0,.slice none 0 0,.slice none 0 0,.slice none 0 0,.bool false,.slice none 0 0,.string { data:=#[] }] 105)).alloc (.cells #[.int .i64 id,.int .i64 ep,.int .i64 rd,.string mk,.int .i64 0,.int .i64 0,.slice none 0 0,.int .i64 0,.slice none 0 0,.slice none 0 0,.slice none 0 0,.bool false,.slice none 0 0,.string { data:=#[] }] 105)=x:=⟨_,rfl⟩
  rw [hw3]
  have b3:Below w.heap.size w w3:=by rw [<- hw3];exact (((Below.refl _ w).alloc (Nat.le_refl _) _).alloc (by simp) _).alloc (by simp;omega) _
  have s3:w3.heap.size=w.heap.size+3:=by rw [<- hw3];simp
  have kP3:Blk w3 w.heap.size 91 [.int .i64 id,.int .i64 ep,.int .i64 rd,.string mk,.int .i64 qr,.int .i64 qb,.slice aq qw.length cq,.int .i64 tr,.slice aw tw.length cw,.slice ah th.length ch,.slice at_ ts.length ct,.bool en,.slice an nx.length cn,.string rt]:=by rw [<- hw3];exact (Blk.new w _ _).below (((Below.refl (w.heap.size+1) _).alloc (by simp) _).alloc (by simp) _) (by omega)
  have kR3:Blk w3 (w.heap.size+1) 105 [.int .i64 0,.int .i64 0,.int .i64 0,.string { data:=#[] },.int .i64 0,.int .i64 0,.slice none 0 0,.int .i64 0,.slice none 0 0,.slice none 0 0,.slice none 0 0,.bool false,.slice none 0 0,.string { data:=#[] }]:=by rw [<- hw3];exact (Blk.newR _ _ [.int .i64 0,.int .i64 0,.int .i64 0,.string { data:=#[] },.int .i64 0,.int .i64 0,.slice none 0 0,.int .i64 0,.slice none 0 0,.slice none 0 0,.slice none 0 0,.bool false,.slice none 0 0,.string { data:=#[] }] _ (by simp)).below ((Below.refl (w.heap.size+2) _).alloc (by simp) _) (by omega)
  have kO3:Blk w3 (w.heap.size+2) 105 [.int .i64 id,.int .i64 ep,.int .i64 rd,.string mk,.int .i64 0,.int .i64 0,.slice none 0 0,.int .i64 0,.slice none 0 0,.slice none 0 0,.slice none 0 0,.bool false,.slice none 0 0,.string { data:=#[] }]:=by rw [<- hw3];exact Blk.newR _ _ [.int .i64 id,.int .i64 ep,.int .i64 rd,.string mk,.int .i64 0,.int .i64 0,.slice none 0 0,.int .i64 0,.slice none 0 0,.slice none 0 0,.slice none 0 0,.bool false,.slice none 0 0,.string { data:=#[] }] _ (by simp)
  clear hw3
  refine (E1.out _ b3).mono ?_
  rintro e w4 ⟨v4,rfl,oq4,hb4⟩
  obtain ⟨a4,c4,rfl⟩:=oq4.rd.shape
  have z4:=hb4.size
  have b4:=b3.trans (hb4.mono b3.size)
  have kP4:=kP3.below hb4 kP3.lt
  have kR4:=kR3.below hb4 kR3.lt
  have kO4:=kO3.below hb4 kO3.lt
  obtain ⟨w5,hw5⟩:∃ x,(((w4).setCell ⟨w.heap.size+2,4,none⟩ (.int .i64 qr)).setCell ⟨w.heap.size+2,5,none⟩ (.int .i64 qb)).setCell ⟨w.heap.size+2,6,none⟩ (.slice a4 qw.length c4)=x:=⟨_,rfl⟩
  have kO5:Blk w5 (w.heap.size+2) 105 [.int .i64 id,.int .i64 ep,.int .i64 rd,.string mk,.int .i64 qr,.int .i64 qb,.slice a4 qw.length c4,.int .i64 0,.slice none 0 0,.slice none 0 0,.slice none 0 0,.bool false,.slice none 0 0,.string { data:=#[] }]:=by rw [<- hw5];exact (((kO4).setC 4 _).setC 5 _).setC 6 _
  have kR5:Blk w5 (w.heap.size+1) 105 [.int .i64 0,.int .i64 0,.int .i64 0,.string { data:=#[] },.int .i64 0,.int .i64 0,.slice none 0 0,.int .i64 0,.slice none 0 0,.slice none 0 0,.slice none 0 0,.bool false,.slice none 0 0,.string { data:=#[] }]:=by rw [<- hw5];exact (((kR4).otherC _ 4 _ (by omega)).otherC _ 5 _ (by omega)).otherC _ 6 _ (by omega)
  have kP5:Blk w5 w.heap.size 91 [.int .i64 id,.int .i64 ep,.int .i64 rd,.string mk,.int .i64 qr,.int .i64 qb,.slice aq qw.length cq,.int .i64 tr,.slice aw tw.length cw,.slice ah th.length ch,.slice at_ ts.length ct,.bool en,.slice an nx.length cn,.string rt]:=by rw [<- hw5];exact (((kP4).otherC _ 4 _ (by omega)).otherC _ 5 _ (by omega)).otherC _ 6 _ (by omega)
  have oq5:OwnS w3.heap.size w5 (.slice a4 qw.length c4) qw:=by rw [<- hw5];exact (((oq4).olderC (by omega) 4 _).olderC (by omega) 5 _).olderC (by omega) 6 _
  have b5:Below w.heap.size w w5:=by rw [<- hw5];exact (((b4).setCell (p:=⟨w.heap.size+2,4,none⟩) (show w.heap.size<=w.heap.size+2 by omega) _).setCell (p:=⟨w.heap.size+2,5,none⟩) (show w.heap.size<=w.heap.size+2 by omega) _).setCell (p:=⟨w.heap.size+2,6,none⟩) (show w.heap.size<=w.heap.size+2 by omega) _
  have z5:w5.heap.size=w4.heap.size:=by rw [<- hw5];simp
  have q4:=kO4.cell 4
  have g4:=kO4.frozen 4
  have q5:=kO4.cell 5
  have g5:=kO4.frozen 5
  have q6:=kO4.cell 6
  have g6:=kO4.frozen 6
  simp only [List.getElem?_cons_zero,List.getElem?_cons_succ] at q4 q5 q6
  clear kP3 kR3 kO3 b3 kP4 kR4 kO4 b4 oq4 hb4
  have p7:=kP5.cell 7
  have p8:=kP5.cell 8
  have p9:=kP5.cell 9
  simp only [List.getElem?_cons_zero,List.getElem?_cons_succ] at p7 p8 p9
  go_wp2_with fail
  refine (E2.out _ b5).mono ?_
  rintro e w6 ⟨v6,u6,rfl,ow6,oh6,hb6⟩
  obtain ⟨a6,c6,rfl⟩:=ow6.rd.shape
  obtain ⟨h6a,h6c,rfl⟩:=oh6.rd.shape
  have Hne:Hid (∀ g,(Value.slice a4 qw.length c4).ownBlock=some g->(Value.slice a6 tw.length c6).ownBlock ≠ some g):=hide (fun g h1 h2=>by have e1:=(World.ownsRow.lt oq5 g h1).2;have e2:=(World.ownsRow.lt ow6 g h2).1;omega)
  have z6:=hb6.size
  have b6:=b5.trans (hb6.mono b5.size)
  have kP6:=kP5.below hb6 kP5.lt
  have kR6:=kR5.below hb6 kR5.lt
  have kO6:=kO5.below hb6 kO5.lt
  have oq6:=oq5.below hb6 (Nat.le_refl _)
  clear p7 p8 p9
  obtain ⟨w7,hw7⟩:∃ x,(((w6).setCell ⟨w.heap.size+2,7,none⟩ (.int .i64 tr)).setCell ⟨w.heap.size+2,8,none⟩ (.slice a6 tw.length c6)).setCell ⟨w.heap.size+2,9,none⟩ (.slice h6a th.length h6c)=x:=⟨_,rfl⟩
  have kO7:Blk w7 (w.heap.size+2) 105 [.int .i64 id,.int .i64 ep,.int .i64 rd,.string mk,.int .i64 qr,.int .i64 qb,.slice a4 qw.length c4,.int .i64 tr,.slice a6 tw.length c6,.slice h6a th.length h6c,.slice none 0 0,.bool false,.slice none 0 0,.string { data:=#[] }]:=by rw [<- hw7];exact (((kO6).setC 7 _).setC 8 _).setC 9 _
  have kR7:Blk w7 (w.heap.size+1) 105 [.int .i64 0,.int .i64 0,.int .i64 0,.string { data:=#[] },.int .i64 0,.int .i64 0,.slice none 0 0,.int .i64 0,.slice none 0 0,.slice none 0 0,.slice none 0 0,.bool false,.slice none 0 0,.string { data:=#[] }]:=by rw [<- hw7];exact (((kR6).otherC _ 7 _ (by omega)).otherC _ 8 _ (by omega)).otherC _ 9 _ (by omega)
  have kP7:Blk w7 w.heap.size 91 [.int .i64 id,.int .i64 ep,.int .i64 rd,.string mk,.int .i64 qr,.int .i64 qb,.slice aq qw.length cq,.int .i64 tr,.slice aw tw.length cw,.slice ah th.length ch,.slice at_ ts.length ct,.bool en,.slice an nx.length cn,.string rt]:=by rw [<- hw7];exact (((kP6).otherC _ 7 _ (by omega)).otherC _ 8 _ (by omega)).otherC _ 9 _ (by omega)
  have oq7:OwnS w3.heap.size w7 (.slice a4 qw.length c4) qw:=by rw [<- hw7];exact (((oq6).olderC (by omega) 7 _).olderC (by omega) 8 _).olderC (by omega) 9 _
  have ow7:OwnS w5.heap.size w7 (.slice a6 tw.length c6) tw:=by rw [<- hw7];exact (((ow6).olderC (by omega) 7 _).olderC (by omega) 8 _).olderC (by omega) 9 _
  have oh7:OwnI w5.heap.size w7 (.slice h6a th.length h6c) th:=by rw [<- hw7];exact (((oh6).olderC (by omega) 7 _).olderC (by omega) 8 _).olderC (by omega) 9 _
  have b7:Below w.heap.size w w7:=by rw [<- hw7];exact (((b6).setCell (p:=⟨w.heap.size+2,7,none⟩) (show w.heap.size<=w.heap.size+2 by omega) _).setCell (p:=⟨w.heap.size+2,8,none⟩) (show w.heap.size<=w.heap.size+2 by omega) _).setCell (p:=⟨w.heap.size+2,9,none⟩) (show w.heap.size<=w.heap.size+2 by omega) _
  have z7:w7.heap.size=w6.heap.size:=by rw [<- hw7];simp
  have q7:=kO6.cell 7
  have g7:=kO6.frozen 7
  have q8:=kO6.cell 8
  have g8:=kO6.frozen 8
  have q9:=kO6.cell 9
  have g9:=kO6.frozen 9
  simp only [List.getElem?_cons_zero,List.getElem?_cons_succ] at q7 q8 q9
  clear hw5 q4 q5 q6 g4 g5 g6 kP5 kR5 kO5 b5 kP6 kR6 kO6 b6 ow6 oh6 hb6 oq5 oq6
  have p10:=kP7.cell 10
  simp only [List.getElem?_cons_zero,List.getElem?_cons_succ] at p10
  go_wp2_with fail
  refine (E3.out _ b7).mono ?_
  rintro e w8 ⟨v8,rfl,ot8,hb8⟩
  obtain ⟨a8,c8,rfl⟩:=ot8.rd.shape
  have z8:=hb8.size
  have b8:=b7.trans (hb8.mono b7.size)
  have kP8:=kP7.below hb8 kP7.lt
  have kR8:=kR7.below hb8 kR7.lt
  have kO8:=kO7.below hb8 kO7.lt
  have oq8:=oq7.below hb8 (Nat.le_refl _)
  have ow8:=ow7.below hb8 (Nat.le_refl _)
  have oh8:=oh7.below hb8 (Nat.le_refl _)
  clear p10
  obtain ⟨w9,hw9⟩:∃ x,((w8).setCell ⟨w.heap.size+2,10,none⟩ (.slice a8 ts.length c8)).setCell ⟨w.heap.size+2,11,none⟩ (.bool en)=x:=⟨_,rfl⟩
  have kO9:Blk w9 (w.heap.size+2) 105 [.int .i64 id,.int .i64 ep,.int .i64 rd,.string mk,.int .i64 qr,.int .i64 qb,.slice a4 qw.length c4,.int .i64 tr,.slice a6 tw.length c6,.slice h6a th.length h6c,.slice a8 ts.length c8,.bool en,.slice none 0 0,.string { data:=#[] }]:=by rw [<- hw9];exact ((kO8).setC 10 _).setC 11 _
  have kR9:Blk w9 (w.heap.size+1) 105 [.int .i64 0,.int .i64 0,.int .i64 0,.string { data:=#[] },.int .i64 0,.int .i64 0,.slice none 0 0,.int .i64 0,.slice none 0 0,.slice none 0 0,.slice none 0 0,.bool false,.slice none 0 0,.string { data:=#[] }]:=by rw [<- hw9];exact ((kR8).otherC _ 10 _ (by omega)).otherC _ 11 _ (by omega)
  have kP9:Blk w9 w.heap.size 91 [.int .i64 id,.int .i64 ep,.int .i64 rd,.string mk,.int .i64 qr,.int .i64 qb,.slice aq qw.length cq,.int .i64 tr,.slice aw tw.length cw,.slice ah th.length ch,.slice at_ ts.length ct,.bool en,.slice an nx.length cn,.string rt]:=by rw [<- hw9];exact ((kP8).otherC _ 10 _ (by omega)).otherC _ 11 _ (by omega)
  have oq9:OwnS w3.heap.size w9 (.slice a4 qw.length c4) qw:=by rw [<- hw9];exact ((oq8).olderC (by omega) 10 _).olderC (by omega) 11 _
  have ow9:OwnS w5.heap.size w9 (.slice a6 tw.length c6) tw:=by rw [<- hw9];exact ((ow8).olderC (by omega) 10 _).olderC (by omega) 11 _
  have oh9:OwnI w5.heap.size w9 (.slice h6a th.length h6c) th:=by rw [<- hw9];exact ((oh8).olderC (by omega) 10 _).olderC (by omega) 11 _
  have ot9:OwnT w7.heap.size w9 (.slice a8 ts.length c8) ts:=by rw [<- hw9];exact ((ot8).olderC (by omega) 10 _).olderC (by omega) 11 _
  have b9:Below w.heap.size w w9:=by rw [<- hw9];exact ((b8).setCell (p:=⟨w.heap.size+2,10,none⟩) (show w.heap.size<=w.heap.size+2 by omega) _).setCell (p:=⟨w.heap.size+2,11,none⟩) (show w.heap.size<=w.heap.size+2 by omega) _
  have z9:w9.heap.size=w8.heap.size:=by rw [<- hw9];simp
  have q10:=kO8.cell 10
  have g10:=kO8.frozen 10
  have q11:=kO8.cell 11
  have g11:=kO8.frozen 11
  simp only [List.getElem?_cons_zero,List.getElem?_cons_succ] at q10 q11
  clear hw7 q7 q8 q9 g7 g8 g9 kP7 kR7 kO7 b7 kR8 kO8 b8 ot8 hb8 oq7 oq8 ow7 ow8 oh7 oh8
  have p11:=(kP8.otherC (w.heap.size+2) 10 (.slice a8 ts.length c8) (by omega)).cell 11
  have p11b:=kP8.cell 11
  simp only [List.getElem?_cons_zero,List.getElem?_cons_succ] at p11 p11b
  have p12:=kP9.cell 12
  simp only [List.getElem?_cons_zero,List.getElem?_cons_succ] at p12
  go_wp2_with fail
  refine (E4.out _ b9).mono ?_
  rintro e w10 ⟨v10,rfl,on10,hb10⟩
  obtain ⟨a10,c10,rfl⟩:=on10.rd.shape
  have z10:=hb10.size
  have b10:=b9.trans (hb10.mono b9.size)
  have kP10:=kP9.below hb10 kP9.lt
  have kR10:=kR9.below hb10 kR9.lt
  have kO10:=kO9.below hb10 kO9.lt
  have oq10:=oq9.below hb10 (Nat.le_refl _)
  have ow10:=ow9.below hb10 (Nat.le_refl _)
  have oh10:=oh9.below hb10 (Nat.le_refl _)
  have ot10:=ot9.below hb10 (Nat.le_refl _)
  clear p12
  obtain ⟨w11,hw11⟩:∃ x,((w10).setCell ⟨w.heap.size+2,12,none⟩ (.slice a10 nx.length c10)).setCell ⟨w.heap.size+2,13,none⟩ (.string rt)=x:=⟨_,rfl⟩
  have kO11:Blk w11 (w.heap.size+2) 105 [.int .i64 id,.int .i64 ep,.int .i64 rd,.string mk,.int .i64 qr,.int .i64 qb,.slice a4 qw.length c4,.int .i64 tr,.slice a6 tw.length c6,.slice h6a th.length h6c,.slice a8 ts.length c8,.bool en,.slice a10 nx.length c10,.string rt]:=by rw [<- hw11];exact ((kO10).setC 12 _).setC 13 _
  have kR11:Blk w11 (w.heap.size+1) 105 [.int .i64 0,.int .i64 0,.int .i64 0,.string { data:=#[] },.int .i64 0,.int .i64 0,.slice none 0 0,.int .i64 0,.slice none 0 0,.slice none 0 0,.slice none 0 0,.bool false,.slice none 0 0,.string { data:=#[] }]:=by rw [<- hw11];exact ((kR10).otherC _ 12 _ (by omega)).otherC _ 13 _ (by omega)
  have kP11:Blk w11 w.heap.size 91 [.int .i64 id,.int .i64 ep,.int .i64 rd,.string mk,.int .i64 qr,.int .i64 qb,.slice aq qw.length cq,.int .i64 tr,.slice aw tw.length cw,.slice ah th.length ch,.slice at_ ts.length ct,.bool en,.slice an nx.length cn,.string rt]:=by rw [<- hw11];exact ((kP10).otherC _ 12 _ (by omega)).otherC _ 13 _ (by omega)
  have oq11:OwnS w3.heap.size w11 (.slice a4 qw.length c4) qw:=by rw [<- hw11];exact ((oq10).olderC (by omega) 12 _).olderC (by omega) 13 _
  have ow11:OwnS w5.heap.size w11 (.slice a6 tw.length c6) tw:=by rw [<- hw11];exact ((ow10).olderC (by omega) 12 _).olderC (by omega) 13 _
  have oh11:OwnI w5.heap.size w11 (.slice h6a th.length h6c) th:=by rw [<- hw11];exact ((oh10).olderC (by omega) 12 _).olderC (by omega) 13 _
  have ot11:OwnT w7.heap.size w11 (.slice a8 ts.length c8) ts:=by rw [<- hw11];exact ((ot10).olderC (by omega) 12 _).olderC (by omega) 13 _
  have on11:OwnV w9.heap.size w11 (.slice a10 nx.length c10) nx:=by rw [<- hw11];exact ((on10).olderC (by omega) 12 _).olderC (by omega) 13 _
  have b11:Below w.heap.size w w11:=by rw [<- hw11];exact ((b10).setCell (p:=⟨w.heap.size+2,12,none⟩) (show w.heap.size<=w.heap.size+2 by omega) _).setCell (p:=⟨w.heap.size+2,13,none⟩) (show w.heap.size<=w.heap.size+2 by omega) _
  have z11:w11.heap.size=w10.heap.size:=by rw [<- hw11];simp
  have q12:=kO10.cell 12
  have g12:=kO10.frozen 12
  have q13:=kO10.cell 13
  have g13:=kO10.frozen 13
  simp only [List.getElem?_cons_zero,List.getElem?_cons_succ] at q12 q13
  clear hw9 q10 q11 g10 g11 kP9 kR9 kO9 b9 kO10 b10 on10 hb10 oq9 oq10 ow9 ow10 oh9 oh10 ot9 ot10 kP8 p11 p11b
  have p13:=(kP10.otherC (w.heap.size+2) 12 (.slice a10 nx.length c10) (by omega)).cell 13
  have p13b:=kP10.cell 13
  simp only [List.getElem?_cons_zero,List.getElem?_cons_succ] at p13 p13b
  have t0:=kO11.cell 0
  have t1:=kO11.cell 1
  have t2:=kO11.cell 2
  have t3:=kO11.cell 3
  have t4:=kO11.cell 4
  have t5:=kO11.cell 5
  have t6:=kO11.cell 6
  have t7:=kO11.cell 7
  have t8:=kO11.cell 8
  have t9:=kO11.cell 9
  have t10:=kO11.cell 10
  have t11:=kO11.cell 11
  have t12:=kO11.cell 12
  have t13:=kO11.cell 13
  simp only [List.getElem?_cons_zero,List.getElem?_cons_succ] at t0 t1 t2 t3 t4 t5 t6 t7 t8 t9 t10 t11 t12 t13
  have e0:=kR11.cell 0
  have f0:=kR11.frozen 0
  have e1:=kR11.cell 1
  have f1:=kR11.frozen 1
  have e2:=kR11.cell 2
  have f2:=kR11.frozen 2
  have e3:=kR11.cell 3
  have f3:=kR11.frozen 3
  have e4:=kR11.cell 4
  have f4:=kR11.frozen 4
  have e5:=kR11.cell 5
  have f5:=kR11.frozen 5
  have e6:=kR11.cell 6
  have f6:=kR11.frozen 6
  have e7:=kR11.cell 7
  have f7:=kR11.frozen 7
  have e8:=kR11.cell 8
  have f8:=kR11.frozen 8
  have e9:=kR11.cell 9
  have f9:=kR11.frozen 9
  have e10:=kR11.cell 10
  have f10:=kR11.frozen 10
  have e11:=kR11.cell 11
  have f11:=kR11.frozen 11
  have e12:=kR11.cell 12
  have f12:=kR11.frozen 12
  have e13:=kR11.cell 13
  have f13:=kR11.frozen 13
  simp only [List.getElem?_cons_zero,List.getElem?_cons_succ] at e0 e1 e2 e3 e4 e5 e6 e7 e8 e9 e10 e11 e12 e13
  have HQ:=hide ((oq11.put14 (g:=w.heap.size+1) (by omega) (.int .i64 id) (.int .i64 ep) (.int .i64 rd) (.string mk) (.int .i64 qr) (.int .i64 qb) (.slice a4 qw.length c4) (.int .i64 tr) (.slice a6 tw.length c6) (.slice h6a th.length h6c) (.slice a8 ts.length c8) (.bool en) (.slice a10 nx.length c10) (.string rt)).mono (show w.heap.size<=w3.heap.size by omega))
  have HP:=hide ((ow11.put14 (g:=w.heap.size+1) (by omega) (.int .i64 id) (.int .i64 ep) (.int .i64 rd) (.string mk) (.int .i64 qr) (.int .i64 qb) (.slice a4 qw.length c4) (.int .i64 tr) (.slice a6 tw.length c6) (.slice h6a th.length h6c) (.slice a8 ts.length c8) (.bool en) (.slice a10 nx.length c10) (.string rt)).mono (show w.heap.size<=w5.heap.size by omega))
  have HH:=hide ((oh11.put14 (g:=w.heap.size+1) (by omega) (.int .i64 id) (.int .i64 ep) (.int .i64 rd) (.string mk) (.int .i64 qr) (.int .i64 qb) (.slice a4 qw.length c4) (.int .i64 tr) (.slice a6 tw.length c6) (.slice h6a th.length h6c) (.slice a8 ts.length c8) (.bool en) (.slice a10 nx.length c10) (.string rt)).mono (show w.heap.size<=w5.heap.size by omega))
  have HT:=hide ((ot11.put14 (g:=w.heap.size+1) (by omega) (.int .i64 id) (.int .i64 ep) (.int .i64 rd) (.string mk) (.int .i64 qr) (.int .i64 qb) (.slice a4 qw.length c4) (.int .i64 tr) (.slice a6 tw.length c6) (.slice h6a th.length h6c) (.slice a8 ts.length c8) (.bool en) (.slice a10 nx.length c10) (.string rt)).mono (show w.heap.size<=w7.heap.size by omega))
  have HN:=hide ((on11.put14 (g:=w.heap.size+1) (by omega) (.int .i64 id) (.int .i64 ep) (.int .i64 rd) (.string mk) (.int .i64 qr) (.int .i64 qb) (.slice a4 qw.length c4) (.int .i64 tr) (.slice a6 tw.length c6) (.slice h6a th.length h6c) (.slice a8 ts.length c8) (.bool en) (.slice a10 nx.length c10) (.string rt)).mono (show w.heap.size<=w9.heap.size by omega))
  have HB:=hide (b11.trans ((below_put14 w11 (w.heap.size+1) (.int .i64 id) (.int .i64 ep) (.int .i64 rd) (.string mk) (.int .i64 qr) (.int .i64 qb) (.slice a4 qw.length c4) (.int .i64 tr) (.slice a6 tw.length c6) (.slice h6a th.length h6c) (.slice a8 ts.length c8) (.bool en) (.slice a10 nx.length c10) (.string rt)).mono (by omega)))
  clear kP10 kR10 kO11 kR11 kP11 b11 oq11 ow11 oh11 ot11 on11
  go_wp2
  refine bodyPost_ret (v:=.agg #[.int .i64 id,.int .i64 ep,.int .i64 rd,.string mk,.int .i64 qr,.int .i64 qb,.slice a4 qw.length c4,.int .i64 tr,.slice a6 tw.length c6,.slice h6a th.length h6c,.slice a8 ts.length c8,.bool en,.slice a10 nx.length c10,.string rt]) (by simp [results,Try.f40,go_sem,e0,e1,e2,e3,e4,e5,e6,e7,e8,e9,e10,e11,e12,e13]) rfl ?_
  exact ⟨⟨_,_,_,_,_⟩,rfl,⟨HQ.out,HP.out,HH.out,HT.out,HN.out⟩,Hne.out,HB.out⟩
end Go.Proofs.Ytfdbedenlbikgaa
