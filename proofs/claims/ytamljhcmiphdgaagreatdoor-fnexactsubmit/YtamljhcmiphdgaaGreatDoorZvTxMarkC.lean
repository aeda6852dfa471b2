/- Orders marked, with what they are then, and held against their marks. -/
import Derived.Test.YtamljhcmiphdgaaGreatDoorZvBkTo
import Derived.Deep.MidRow
import Derived.Laws.IdiomCopy
import Derived.Deep.RegionWith
set_option maxRecDepth 20000
set_option maxHeartbeats 4000000
namespace Go.Proofs.YtamljhcmiphdgaaGreatDoor
open Go.RowKit
set_option linter.unusedVariables false
theorem fq_ (b:Bk) (v:Bv) (w:World) (hr:RdK w b v) (hf:FewK b) :
  Calls Tryz.prog 93 #[bkV b v] w fun e w'=>∃ v',e=.returned (bkV b v')/\OwnK w.heap.size w' b v'/\(∀ g,v'.q.ownBlock=some g->v'.w.ownBlock ≠ some g)/\Below w.heap.size w w':=by
 have hlq:=hf.q
 have hlw:=hf.w
 have hlh:=hf.h
 have hlt:=hf.t
 have hln:=hf.n
 clear hf
 obtain ⟨id,ep,rd,mk,qr,qb,qw,tr,tw,th,ts,en,nx,rt⟩:=b
 obtain ⟨vq,vw,vh,vt,vn⟩:=v
 obtain ⟨hq,hw,hh,ht,hn⟩:=hr
 simp only at *
 obtain ⟨aq,cq,rfl⟩:=hq.shape
 obtain ⟨aw,cw,rfl⟩:=hw.shape
 obtain ⟨ah,ch,rfl⟩:=hh.shape
 obtain ⟨at_,ct,rfl⟩:=ht.shape
 obtain ⟨an,cn,rfl⟩:=hn.shape
 have E1:=a_ (fun V (hV:Below w.heap.size w V)=>cJ_ qr qb (.slice aq qw.length cq) qw V (hq.below hV (nr_ _)) hlq)
 have E2:=a_ (fun V (hV:Below w.heap.size w V)=>eT_ tr (.slice aw tw.length cw) (.slice ah th.length ch) tw th V (hw.below hV (nr_ _)) (hh.below hV (nr_ _)) hlw hlh)
 have E3:=a_ (fun V (hV:Below w.heap.size w V)=>eo_ (.slice at_ ts.length ct) ts V (ht.below hV (nr_ _)) hlt)
 have E4:=a_ (fun V (hV:Below w.heap.size w V)=>dv_ (.slice an nx.length cn) nx V (hn.below hV (nr_ _)) hln)
 clear hq hw hh ht hn
 simp only [bkV,qcV,tcV] at *
 go_enter Tryz.func93,Tryz.ntmps93
 go_wp2_with fail
 obtain ⟨w3,hw3⟩:∃ x,((w.alloc (.cells #[.int .i64 id,.int .i64 ep,.int .i64 rd,.string mk,.int .i64 qr,.int .i64 qb,.slice aq qw.length cq,.int .i64 tr,.slice aw tw.length cw,.slice ah th.length ch,.slice at_ ts.length ct,.bool en,.slice an nx.length cn,.string rt] 122)).alloc (.cells bkZ_ 146)).alloc (.cells #[.int .i64 id,.int .i64 ep,.int .i64 rd,.string mk,.int .i64 0,.int .i64 0,.slice none 0 0,.int .i64 0,.slice none 0 0,.slice none 0 0,.slice none 0 0,.bool false,.slice none 0 0,.string { data:=#[] }] 146)=x:=⟨_,rfl⟩
 rw [hw3]
 have b3:Below w.heap.size w w3:=by rw [<- hw3];exact (((br_ _ w).alloc (nr_ _) _).alloc (by simp) _).alloc (by simp;omega) _
 have s3:w3.heap.size=w.heap.size+3:=by rw [<- hw3];simp
 have kP3:Blk w3 w.heap.size 122 [.int .i64 id,.int .i64 ep,.int .i64 rd,.string mk,.int .i64 qr,.int .i64 qb,.slice aq qw.length cq,.int .i64 tr,.slice aw tw.length cw,.slice ah th.length ch,.slice at_ ts.length ct,.bool en,.slice an nx.length cn,.string rt]:=by rw [<- hw3];exact (Blk.new w _ _).below (((br_ (w.heap.size+1) _).alloc (by simp) _).alloc (by simp) _) (by omega)
 have kR3:Blk w3 (w.heap.size+1) 146 bkY_:=by rw [<- hw3];exact (Blk.newR _ _ bkY_ _ (by simp)).below ((br_ (w.heap.size+2) _).alloc (by simp) _) (by omega)
 have kO3:Blk w3 (w.heap.size+2) 146 [.int .i64 id,.int .i64 ep,.int .i64 rd,.string mk,.int .i64 0,.int .i64 0,.slice none 0 0,.int .i64 0,.slice none 0 0,.slice none 0 0,.slice none 0 0,.bool false,.slice none 0 0,.string { data:=#[] }]:=by rw [<- hw3];exact Blk.newR _ _ [.int .i64 id,.int .i64 ep,.int .i64 rd,.string mk,.int .i64 0,.int .i64 0,.slice none 0 0,.int .i64 0,.slice none 0 0,.slice none 0 0,.slice none 0 0,.bool false,.slice none 0 0,.string { data:=#[] }] _ (by simp)
 clear hw3
 refine (E1.out _ b3).mono ?_
 rintro e w4 ⟨v4,rfl,oq4,hb4⟩
 obtain ⟨a4,c4,rfl⟩:=oq4.rd.shape
 have z4:=hb4.size
 have b4:=b3.trans (hb4.mono b3.size)
 have kP4:=kP3.below hb4 kP3.lt
 have kR4:=kR3.below hb4 kR3.lt
 have kO4:=kO3.below hb4 kO3.lt
 obtain ⟨w5,hw5⟩:∃ x,(((w4).setCell ⟨w.heap.size+2,4,none⟩ (.int .i64 qr)).setCell ⟨w.heap.size+2,5,none⟩ (.int .i64 qb)).setCell ⟨w.heap.size+2,6,none⟩ (.slice a4 qw.length c4)=x:=⟨_,rfl⟩
 have kO5:Blk w5 (w.heap.size+2) 146 [.int .i64 id,.int .i64 ep,.int .i64 rd,.string mk,.int .i64 qr,.int .i64 qb,.slice a4 qw.length c4,.int .i64 0,.slice none 0 0,.slice none 0 0,.slice none 0 0,.bool false,.slice none 0 0,.string { data:=#[] }]:=by rw [<- hw5];exact (((kO4).setC 4 _).setC 5 _).setC 6 _
 have kR5:Blk w5 (w.heap.size+1) 146 bkY_:=by rw [<- hw5];exact (((kR4).otherC _ 4 _ (by omega)).otherC _ 5 _ (by omega)).otherC _ 6 _ (by omega)
 have kP5:Blk w5 w.heap.size 122 [.int .i64 id,.int .i64 ep,.int .i64 rd,.string mk,.int .i64 qr,.int .i64 qb,.slice aq qw.length cq,.int .i64 tr,.slice aw tw.length cw,.slice ah th.length ch,.slice at_ ts.length ct,.bool en,.slice an nx.length cn,.string rt]:=by rw [<- hw5];exact (((kP4).otherC _ 4 _ (by omega)).otherC _ 5 _ (by omega)).otherC _ 6 _ (by omega)
 have oq5:OwnS w3.heap.size w5 (.slice a4 qw.length c4) qw:=by rw [<- hw5];exact (((oq4).olderC (by omega) 4 _).olderC (by omega) 5 _).olderC (by omega) 6 _
 have b5:Below w.heap.size w w5:=by rw [<- hw5];exact (((b4).setCell (p:=⟨w.heap.size+2,4,none⟩) (show w.heap.size<=w.heap.size+2 by omega) _).setCell (p:=⟨w.heap.size+2,5,none⟩) (show w.heap.size<=w.heap.size+2 by omega) _).setCell (p:=⟨w.heap.size+2,6,none⟩) (show w.heap.size<=w.heap.size+2 by omega) _
 have z5:w5.heap.size=w4.heap.size:=by rw [<- hw5];simp
 have q4:=kO4.cell 4
 have g4:=kO4.frozen 4
 have q5:=kO4.cell 5
 have g5:=kO4.frozen 5
 have q6:=kO4.cell 6
 have g6:=kO4.frozen 6
 simp only [gz_,gs_] at q4 q5 q6
 clear kP3 kR3 kO3 b3 kP4 kR4 kO4 b4 oq4 hb4
 have p7:=kP5.cell 7
 have p8:=kP5.cell 8
 have p9:=kP5.cell 9
 simp only [gz_,gs_] at p7 p8 p9
 go_wp2_with fail
 refine (E2.out _ b5).mono ?_
 rintro e w6 ⟨v6,u6,rfl,ow6,oh6,hb6⟩
 obtain ⟨a6,c6,rfl⟩:=ow6.rd.shape
 obtain ⟨h6a,h6c,rfl⟩:=oh6.rd.shape
 have Hne:Hid (∀ g,(Value.slice a4 qw.length c4).ownBlock=some g->(Value.slice a6 tw.length c6).ownBlock ≠ some g):=a_ (fun g h1 h2=>by have e1:=(World.ownsRow.lt oq5 g h1).2;have e2:=(World.ownsRow.lt ow6 g h2).1;omega)
 have z6:=hb6.size
 have b6:=b5.trans (hb6.mono b5.size)
 have kP6:=kP5.below hb6 kP5.lt
 have kR6:=kR5.below hb6 kR5.lt
 have kO6:=kO5.below hb6 kO5.lt
 have oq6:=oq5.below hb6 (nr_ _)
 clear p7 p8 p9
 obtain ⟨w7,hw7⟩:∃ x,(((w6).setCell ⟨w.heap.size+2,7,none⟩ (.int .i64 tr)).setCell ⟨w.heap.size+2,8,none⟩ (.slice a6 tw.length c6)).setCell ⟨w.heap.size+2,9,none⟩ (.slice h6a th.length h6c)=x:=⟨_,rfl⟩
 have kO7:Blk w7 (w.heap.size+2) 146 [.int .i64 id,.int .i64 ep,.int .i64 rd,.string mk,.int .i64 qr,.int .i64 qb,.slice a4 qw.length c4,.int .i64 tr,.slice a6 tw.length c6,.slice h6a th.length h6c,.slice none 0 0,.bool false,.slice none 0 0,.string { data:=#[] }]:=by rw [<- hw7];exact (((kO6).setC 7 _).setC 8 _).setC 9 _
 have kR7:Blk w7 (w.heap.size+1) 146 bkY_:=by rw [<- hw7];exact (((kR6).otherC _ 7 _ (by omega)).otherC _ 8 _ (by omega)).otherC _ 9 _ (by omega)
 have kP7:Blk w7 w.heap.size 122 [.int .i64 id,.int .i64 ep,.int .i64 rd,.string mk,.int .i64 qr,.int .i64 qb,.slice aq qw.length cq,.int .i64 tr,.slice aw tw.length cw,.slice ah th.length ch,.slice at_ ts.length ct,.bool en,.slice an nx.length cn,.string rt]:=by rw [<- hw7];exact (((kP6).otherC _ 7 _ (by omega)).otherC _ 8 _ (by omega)).otherC _ 9 _ (by omega)
 have oq7:OwnS w3.heap.size w7 (.slice a4 qw.length c4) qw:=by rw [<- hw7];exact (((oq6).olderC (by omega) 7 _).olderC (by omega) 8 _).olderC (by omega) 9 _
 have ow7:OwnS w5.heap.size w7 (.slice a6 tw.length c6) tw:=by rw [<- hw7];exact (((ow6).olderC (by omega) 7 _).olderC (by omega) 8 _).olderC (by omega) 9 _
 have oh7:OwnI w5.heap.size w7 (.slice h6a th.length h6c) th:=by rw [<- hw7];exact (((oh6).olderC (by omega) 7 _).olderC (by omega) 8 _).olderC (by omega) 9 _
 have b7:Below w.heap.size w w7:=by rw [<- hw7];exact (((b6).setCell (p:=⟨w.heap.size+2,7,none⟩) (show w.heap.size<=w.heap.size+2 by omega) _).setCell (p:=⟨w.heap.size+2,8,none⟩) (show w.heap.size<=w.heap.size+2 by omega) _).setCell (p:=⟨w.heap.size+2,9,none⟩) (show w.heap.size<=w.heap.size+2 by omega) _
 have z7:w7.heap.size=w6.heap.size:=by rw [<- hw7];simp
 have q7:=kO6.cell 7
 have g7:=kO6.frozen 7
 have q8:=kO6.cell 8
 have g8:=kO6.frozen 8
 have q9:=kO6.cell 9
 have g9:=kO6.frozen 9
 simp only [gz_,gs_] at q7 q8 q9
 clear hw5 q4 q5 q6 g4 g5 g6 kP5 kR5 kO5 b5 kP6 kR6 kO6 b6 ow6 oh6 hb6 oq5 oq6
 have p10:=kP7.cell 10
 simp only [gz_,gs_] at p10
 go_wp2_with fail
 refine (E3.out _ b7).mono ?_
 rintro e w8 ⟨v8,rfl,ot8,hb8⟩
 obtain ⟨a8,c8,rfl⟩:=ot8.rd.shape
 have z8:=hb8.size
 have b8:=b7.trans (hb8.mono b7.size)
 have kP8:=kP7.below hb8 kP7.lt
 have kR8:=kR7.below hb8 kR7.lt
 have kO8:=kO7.below hb8 kO7.lt
 have oq8:=oq7.below hb8 (nr_ _)
 have ow8:=ow7.below hb8 (nr_ _)
 have oh8:=oh7.below hb8 (nr_ _)
 clear p10
 obtain ⟨w9,hw9⟩:∃ x,((w8).setCell ⟨w.heap.size+2,10,none⟩ (.slice a8 ts.length c8)).setCell ⟨w.heap.size+2,11,none⟩ (.bool en)=x:=⟨_,rfl⟩
 have kO9:Blk w9 (w.heap.size+2) 146 [.int .i64 id,.int .i64 ep,.int .i64 rd,.string mk,.int .i64 qr,.int .i64 qb,.slice a4 qw.length c4,.int .i64 tr,.slice a6 tw.length c6,.slice h6a th.length h6c,.slice a8 ts.length c8,.bool en,.slice none 0 0,.string { data:=#[] }]:=by rw [<- hw9];exact ((kO8).setC 10 _).setC 11 _
 have kR9:Blk w9 (w.heap.size+1) 146 bkY_:=by rw [<- hw9];exact ((kR8).otherC _ 10 _ (by omega)).otherC _ 11 _ (by omega)
 have kP9:Blk w9 w.heap.size 122 [.int .i64 id,.int .i64 ep,.int .i64 rd,.string mk,.int .i64 qr,.int .i64 qb,.slice aq qw.length cq,.int .i64 tr,.slice aw tw.length cw,.slice ah th.length ch,.slice at_ ts.length ct,.bool en,.slice an nx.length cn,.string rt]:=by rw [<- hw9];exact ((kP8).otherC _ 10 _ (by omega)).otherC _ 11 _ (by omega)
 have oq9:OwnS w3.heap.size w9 (.slice a4 qw.length c4) qw:=by rw [<- hw9];exact ((oq8).olderC (by omega) 10 _).olderC (by omega) 11 _
 have ow9:OwnS w5.heap.size w9 (.slice a6 tw.length c6) tw:=by rw [<- hw9];exact ((ow8).olderC (by omega) 10 _).olderC (by omega) 11 _
 have oh9:OwnI w5.heap.size w9 (.slice h6a th.length h6c) th:=by rw [<- hw9];exact ((oh8).olderC (by omega) 10 _).olderC (by omega) 11 _
 have ot9:OwnT w7.heap.size w9 (.slice a8 ts.length c8) ts:=by rw [<- hw9];exact ((ot8).olderC (by omega) 10 _).olderC (by omega) 11 _
 have b9:Below w.heap.size w w9:=by rw [<- hw9];exact ((b8).setCell (p:=⟨w.heap.size+2,10,none⟩) (show w.heap.size<=w.heap.size+2 by omega) _).setCell (p:=⟨w.heap.size+2,11,none⟩) (show w.heap.size<=w.heap.size+2 by omega) _
 have z9:w9.heap.size=w8.heap.size:=by rw [<- hw9];simp
 have q10:=kO8.cell 10
 have g10:=kO8.frozen 10
 have q11:=kO8.cell 11
 have g11:=kO8.frozen 11
 simp only [gz_,gs_] at q10 q11
 clear hw7 q7 q8 q9 g7 g8 g9 kP7 kR7 kO7 b7 kR8 kO8 b8 ot8 hb8 oq7 oq8 ow7 ow8 oh7 oh8
 have p11:=(kP8.otherC (w.heap.size+2) 10 (.slice a8 ts.length c8) (by omega)).cell 11
 have p11b:=kP8.cell 11
 simp only [gz_,gs_] at p11 p11b
 have p12:=kP9.cell 12
 simp only [gz_,gs_] at p12
 go_wp2_with fail
 refine (E4.out _ b9).mono ?_
 rintro e w10 ⟨v10,rfl,on10,hb10⟩
 obtain ⟨a10,c10,rfl⟩:=on10.rd.shape
 have z10:=hb10.size
 have b10:=b9.trans (hb10.mono b9.size)
 have kP10:=kP9.below hb10 kP9.lt
 have kR10:=kR9.below hb10 kR9.lt
 have kO10:=kO9.below hb10 kO9.lt
 have oq10:=oq9.below hb10 (nr_ _)
 have ow10:=ow9.below hb10 (nr_ _)
 have oh10:=oh9.below hb10 (nr_ _)
 have ot10:=ot9.below hb10 (nr_ _)
 clear p12
 obtain ⟨w11,hw11⟩:∃ x,((w10).setCell ⟨w.heap.size+2,12,none⟩ (.slice a10 nx.length c10)).setCell ⟨w.heap.size+2,13,none⟩ (.string rt)=x:=⟨_,rfl⟩
 have kO11:Blk w11 (w.heap.size+2) 146 [.int .i64 id,.int .i64 ep,.int .i64 rd,.string mk,.int .i64 qr,.int .i64 qb,.slice a4 qw.length c4,.int .i64 tr,.slice a6 tw.length c6,.slice h6a th.length h6c,.slice a8 ts.length c8,.bool en,.slice a10 nx.length c10,.string rt]:=by rw [<- hw11];exact ((kO10).setC 12 _).setC 13 _
 have kR11:Blk w11 (w.heap.size+1) 146 bkY_:=by rw [<- hw11];exact ((kR10).otherC _ 12 _ (by omega)).otherC _ 13 _ (by omega)
 have kP11:Blk w11 w.heap.size 122 [.int .i64 id,.int .i64 ep,.int .i64 rd,.string mk,.int .i64 qr,.int .i64 qb,.slice aq qw.length cq,.int .i64 tr,.slice aw tw.length cw,.slice ah th.length ch,.slice at_ ts.length ct,.bool en,.slice an nx.length cn,.string rt]:=by rw [<- hw11];exact ((kP10).otherC _ 12 _ (by omega)).otherC _ 13 _ (by omega)
 have oq11:OwnS w3.heap.size w11 (.slice a4 qw.length c4) qw:=by rw [<- hw11];exact ((oq10).olderC (by omega) 12 _).olderC (by omega) 13 _
 have ow11:OwnS w5.heap.size w11 (.slice a6 tw.length c6) tw:=by rw [<- hw11];exact ((ow10).olderC (by omega) 12 _).olderC (by omega) 13 _
 have oh11:OwnI w5.heap.size w11 (.slice h6a th.length h6c) th:=by rw [<- hw11];exact ((oh10).olderC (by omega) 12 _).olderC (by omega) 13 _
 have ot11:OwnT w7.heap.size w11 (.slice a8 ts.length c8) ts:=by rw [<- hw11];exact ((ot10).olderC (by omega) 12 _).olderC (by omega) 13 _
 have on11:OwnV w9.heap.size w11 (.slice a10 nx.length c10) nx:=by rw [<- hw11];exact ((on10).olderC (by omega) 12 _).olderC (by omega) 13 _
 have b11:Below w.heap.size w w11:=by rw [<- hw11];exact ((b10).setCell (p:=⟨w.heap.size+2,12,none⟩) (show w.heap.size<=w.heap.size+2 by omega) _).setCell (p:=⟨w.heap.size+2,13,none⟩) (show w.heap.size<=w.heap.size+2 by omega) _
 have z11:w11.heap.size=w10.heap.size:=by rw [<- hw11];simp
 have q12:=kO10.cell 12
 have g12:=kO10.frozen 12
 have q13:=kO10.cell 13
 have g13:=kO10.frozen 13
 simp only [gz_,gs_] at q12 q13
 clear hw9 q10 q11 g10 g11 kP9 kR9 kO9 b9 kO10 b10 on10 hb10 oq9 oq10 ow9 ow10 oh9 oh10 ot9 ot10 kP8 p11 p11b
 have p13:=(kP10.otherC (w.heap.size+2) 12 (.slice a10 nx.length c10) (by omega)).cell 13
 have p13b:=kP10.cell 13
 simp only [gz_,gs_] at p13 p13b
 have t0:=kO11.cell 0
 have t1:=kO11.cell 1
 have t2:=kO11.cell 2
 have t3:=kO11.cell 3
 have t4:=kO11.cell 4
 have t5:=kO11.cell 5
 have t6:=kO11.cell 6
 have t7:=kO11.cell 7
 have t8:=kO11.cell 8
 have t9:=kO11.cell 9
 have t10:=kO11.cell 10
 have t11:=kO11.cell 11
 have t12:=kO11.cell 12
 have t13:=kO11.cell 13
 simp only [gz_,gs_] at t0 t1 t2 t3 t4 t5 t6 t7 t8 t9 t10 t11 t12 t13
 have e0:=kR11.cell 0
 have f0:=kR11.frozen 0
 have e1:=kR11.cell 1
 have f1:=kR11.frozen 1
 have e2:=kR11.cell 2
 have f2:=kR11.frozen 2
 have e3:=kR11.cell 3
 have f3:=kR11.frozen 3
 have e4:=kR11.cell 4
 have f4:=kR11.frozen 4
 have e5:=kR11.cell 5
 have f5:=kR11.frozen 5
 have e6:=kR11.cell 6
 have f6:=kR11.frozen 6
 have e7:=kR11.cell 7
 have f7:=kR11.frozen 7
 have e8:=kR11.cell 8
 have f8:=kR11.frozen 8
 have e9:=kR11.cell 9
 have f9:=kR11.frozen 9
 have e10:=kR11.cell 10
 have f10:=kR11.frozen 10
 have e11:=kR11.cell 11
 have f11:=kR11.frozen 11
 have e12:=kR11.cell 12
 have f12:=kR11.frozen 12
 have e13:=kR11.cell 13
 have f13:=kR11.frozen 13
 simp only [gz_,gs_] at e0 e1 e2 e3 e4 e5 e6 e7 e8 e9 e10 e11 e12 e13
 have HQ:=a_ ((oq11.put14 (g:=w.heap.size+1) (by omega) (.int .i64 id) (.int .i64 ep) (.int .i64 rd) (.string mk) (.int .i64 qr) (.int .i64 qb) (.slice a4 qw.length c4) (.int .i64 tr) (.slice a6 tw.length c6) (.slice h6a th.length h6c) (.slice a8 ts.length c8) (.bool en) (.slice a10 nx.length c10) (.string rt)).mono (show w.heap.size<=w3.heap.size by omega))
 have HP:=a_ ((ow11.put14 (g:=w.heap.size+1) (by omega) (.int .i64 id) (.int .i64 ep) (.int .i64 rd) (.string mk) (.int .i64 qr) (.int .i64 qb) (.slice a4 qw.length c4) (.int .i64 tr) (.slice a6 tw.length c6) (.slice h6a th.length h6c) (.slice a8 ts.length c8) (.bool en) (.slice a10 nx.length c10) (.string rt)).mono (show w.heap.size<=w5.heap.size by omega))
 have HH:=a_ ((oh11.put14 (g:=w.heap.size+1) (by omega) (.int .i64 id) (.int .i64 ep) (.int .i64 rd) (.string mk) (.int .i64 qr) (.int .i64 qb) (.slice a4 qw.length c4) (.int .i64 tr) (.slice a6 tw.length c6) (.slice h6a th.length h6c) (.slice a8 ts.length c8) (.bool en) (.slice a10 nx.length c10) (.string rt)).mono (show w.heap.size<=w5.heap.size by omega))
 have HT:=a_ ((ot11.put14 (g:=w.heap.size+1) (by omega) (.int .i64 id) (.int .i64 ep) (.int .i64 rd) (.string mk) (.int .i64 qr) (.int .i64 qb) (.slice a4 qw.length c4) (.int .i64 tr) (.slice a6 tw.length c6) (.slice h6a th.length h6c) (.slice a8 ts.length c8) (.bool en) (.slice a10 nx.length c10) (.string rt)).mono (show w.heap.size<=w7.heap.size by omega))
 have HN:=a_ ((on11.put14 (g:=w.heap.size+1) (by omega) (.int .i64 id) (.int .i64 ep) (.int .i64 rd) (.string mk) (.int .i64 qr) (.int .i64 qb) (.slice a4 qw.length c4) (.int .i64 tr) (.slice a6 tw.length c6) (.slice h6a th.length h6c) (.slice a8 ts.length c8) (.bool en) (.slice a10 nx.length c10) (.string rt)).mono (show w.heap.size<=w9.heap.size by omega))
 have HB:=a_ (b11.trans ((aS_ w11 (w.heap.size+1) (.int .i64 id) (.int .i64 ep) (.int .i64 rd) (.string mk) (.int .i64 qr) (.int .i64 qb) (.slice a4 qw.length c4) (.int .i64 tr) (.slice a6 tw.length c6) (.slice h6a th.length h6c) (.slice a8 ts.length c8) (.bool en) (.slice a10 nx.length c10) (.string rt)).mono (by omega)))
 clear kP10 kR10 kO11 kR11 kP11 b11 oq11 ow11 oh11 ot11 on11
 go_wp2
 refine bodyPost_ret (v:=.agg #[.int .i64 id,.int .i64 ep,.int .i64 rd,.string mk,.int .i64 qr,.int .i64 qb,.slice a4 qw.length c4,.int .i64 tr,.slice a6 tw.length c6,.slice h6a th.length h6c,.slice a8 ts.length c8,.bool en,.slice a10 nx.length c10,.string rt]) (by simp [results,Tryz.f93,go_sem,e0,e1,e2,e3,e4,e5,e6,e7,e8,e9,e10,e11,e12,e13]) rfl ?_
 exact ⟨⟨_,_,_,_,_⟩,rfl,⟨HQ.out,HP.out,HH.out,HT.out,HN.out⟩,Hne.out,HB.out⟩
theorem eI_ {a b c:World} {r:Option Nat} (h:a.grownBy b r) (k:b.grownBy c r):a.grownBy c r :=
 ⟨k.os.trans h.os,k.tape.trans h.tape,k.output.trans h.output,Nat.le_trans h.size k.size,fun i hi hn=>(k.block i (Nat.lt_of_lt_of_le hi h.size) hn).trans (h.block i hi hn)⟩
theorem RdK.shapes9 {w:World} {b:Bk} {v:Bv} (h:RdK w b v):∃ aq cq aw cw ah ch at_ ct an cn,v=⟨.slice aq b.qw.length cq,.slice aw b.tw.length cw,.slice ah b.th.length ch,.slice at_ b.ts.length ct,.slice an b.nx.length cn⟩:=by
 obtain ⟨q,p,hh,t,n⟩:=h
 obtain ⟨vq,vw,vh,vt,vn⟩:=v
 obtain ⟨aq,cq,rfl⟩:=q.shape
 obtain ⟨aw,cw,rfl⟩:=p.shape
 obtain ⟨ah,ch,rfl⟩:=hh.shape
 obtain ⟨at_,ct,rfl⟩:=t.shape
 obtain ⟨an,cn,rfl⟩:=n.shape
 exact ⟨aq,cq,aw,cw,ah,ch,at_,ct,an,cn,rfl⟩
def setAll {α:Type}:List α->Nat->List α->List α
 | xs,_,[]=>xs
 | xs,o,y :: ys=>setAll (xs.set o y) (o+1) ys
theorem ac_ (g:Nat):∀ (ys:List Value) (w:World) (o:Nat),w.grownBy (w.setCells g o ys) (some g)
 | [],w,o=>World.grownBy.refl _ _
 | y :: ys,w,o=>eI_ (B_ w g o y) (ac_ g ys _ (o+1))
theorem cz_ {base:Nat} {T:TypeId} {sz g n cap:Nat}:∀ (ys:List Value) (w:World) (o:Nat) (xs:List Value),w.ownsRow base T sz (.slice (some ⟨g,0,none⟩) n cap) n xs->(w.setCells g o ys).ownsRow base T sz (.slice (some ⟨g,0,none⟩) n cap) n (setAll xs o ys)
 | [],w,o,xs,h=>h
 | y :: ys,w,o,xs,h=>cz_ ys _ (o+1) _ (h.stored o y).1
theorem e_ {B g:Nat} (hB:B<=g):∀ (ys:List Value) (w:World) (o:Nat),Below B w (w.setCells g o ys)
 | [],w,o=>br_ B w
 | y :: ys,w,o=>((br_ B w).setCell (p:=⟨g,o,none⟩) hB y).trans (e_ hB ys _ (o+1))
theorem cp_ {α:Type} (sz:Nat):∀ (ys:List α) (L:List (List α)) (i j:Nat) (hi:i < L.length),(∀ x ∈ L,x.length=sz)->j+ys.length<=sz->setAll L.flatten (i * sz+j) ys=(L.set i (setAll L[i] j ys)).flatten
 | [],L,i,j,hi,h,hj=>by simp [setAll]
 | y :: ys,L,i,j,hi,h,hj=>by
  simp only [List.length_cons] at hj
  have hL:∀ x ∈ L.set i (L[i].set j y),x.length=sz:=fun x hx=>by
   rcases List.mem_or_eq_of_mem_set hx with h' | rfl
   ·exact h x h'
   ·simpa using h L[i] (List.getElem_mem hi)
  rw [setAll,Y_ sz y L i j hi h (by omega),Nat.add_assoc,cp_ sz ys _ i (j+1) (by simpa using hi) hL (by omega)]
  simp [setAll,List.set_set]
theorem aJ_ {α:Type}:∀ (ys xs ps:List α),xs.length=ys.length->setAll (ps ++ xs) ps.length ys=ps ++ ys
 | [],xs,ps,h=>by rw [List.length_eq_zero_iff.1 h];rfl
 | y :: ys,[],ps,h=>by simp at h
 | y :: ys,x :: xs,ps,h=>by
  have e:=aJ_ ys xs (ps ++ [y]) (by simpa using h)
  rw [setAll,List.set_append_right _ _ (nr_ _),Nat.sub_self,sz_]
  simp only [List.length_append,List.length_cons,List.length_nil,Nat.zero_add,List.append_assoc,List.singleton_append] at e
  exact e
theorem aq_ {α:Type} (sz:Nat) (ys:List α) (L:List (List α)) (i:Nat) (hi:i < L.length) (h:∀ x ∈ L,x.length=sz) (hy:ys.length=sz):setAll L.flatten (i * sz) ys=(L.set i ys).flatten:=by
 have e:=cp_ sz ys L i 0 hi h (by omega)
 rw [Nat.add_zero] at e
 rw [e]
 have e2:=aJ_ ys L[i] [] (by rw [h _ (List.getElem_mem hi),hy])
 simp only [List.nil_append,List.length_nil] at e2
 rw [e2]
theorem ku_ (w:World) (g o:Nat) (cs:List Value) (hl:cs.length=14) (ht:w.there g o 14) (h1:cs.all (·.oneCell')=true):(storeCells ⟨g,o,none⟩ cs).run Tryz.prog w=.ok () (w.setCells g o cs):=by
 have h:=run_storeAt_mid (P:=Tryz.prog) w g o 146 cs.toArray (by simpa [hl] using ht) (by rw [show cs.toArray.size=14 by simpa using hl];kernel_rfl) (by simpa using h1)
 simpa [go_sem,hl] using h
theorem iq_ {base:Nat} {w:World} {T:TypeId} {sz g n cap o:Nat} {xs:List Value} (h:w.ownsRow base T sz (.slice (some ⟨g,0,none⟩) n cap) n xs) (ho:o+14<=xs.length):w.there g o 14:=fun j hj=>by
 have hx:=h.1
 refine ⟨?_,h.frozenAt (o+j)⟩
 rw [h.cellAt (o+j) (by omega),List.getElem?_eq_getElem (by omega)]
 rfl
theorem hi_ {w:World} {b:Bk} {v:Bv} (h:RdK w b v):(bkC b v).all (·.oneCell')=true:=by
 obtain ⟨aq,cq,aw,cw,ah,ch,at_,ct,an,cn,rfl⟩:=h.shapes9
 simp [bkC,Value.oneCell']
def BkAt (w:World) (g o:Nat) (b:Bk) (v:Bv):Prop:=∀ j,j < 14->w.cell? ⟨g,o+j,none⟩=(bkC b v)[j]?
theorem BkAt.below {w w':World} {B g o:Nat} {b:Bk} {v:Bv} (h:BkAt w g o b v) (hb:Below B w w') (hB:g < B):BkAt w' g o b v :=
 fun j hj=>(hb.cell (p:=⟨g,o+j,none⟩) hB).trans (h j hj)
theorem BkAt.cells {w:World} {g o:Nat} {b:Bk} {v:Bv} (h:BkAt w g o b v):w.cell? ⟨g,o,none⟩=some (.int .i64 b.id)/\w.cell? ⟨g,o+1,none⟩=some (.int .i64 b.ep)/\w.cell? ⟨g,o+2,none⟩=some (.int .i64 b.rd)/\w.cell? ⟨g,o+3,none⟩=some (.string b.md)/\w.cell? ⟨g,o+4,none⟩=some (.int .i64 b.qr)/\w.cell? ⟨g,o+5,none⟩=some (.int .i64 b.qb)/\w.cell? ⟨g,o+6,none⟩=some (v.q)/\w.cell? ⟨g,o+7,none⟩=some (.int .i64 b.tr)/\w.cell? ⟨g,o+8,none⟩=some (v.w)/\w.cell? ⟨g,o+9,none⟩=some (v.h)/\w.cell? ⟨g,o+10,none⟩=some (v.t)/\w.cell? ⟨g,o+11,none⟩=some (.bool b.en)/\w.cell? ⟨g,o+12,none⟩=some (v.n)/\w.cell? ⟨g,o+13,none⟩=some (.string b.rt) :=
 ⟨h 0 (by omega),h 1 (by omega),h 2 (by omega),h 3 (by omega),h 4 (by omega),h 5 (by omega),h 6 (by omega),h 7 (by omega),h 8 (by omega),h 9 (by omega),h 10 (by omega),h 11 (by omega),h 12 (by omega),h 13 (by omega)⟩
def RdKs (w:World) (v:Value) (l:List Bk):Prop :=
 (∃ a cap,v=.slice a 0 cap/\l=[]/\(a=none->cap=0)) \/
 ∃ b off cap,l ≠ []/\v=.slice (some ⟨b,off,none⟩) l.length cap/\l.length<=cap/\cap<=maxLen/\b < w.heap.size /\
  ∀ i (h:i < l.length),∃ bv,BkAt w b (off+i * 14) l[i] bv/\RdK w l[i] bv
theorem RdKs.shape {w:World} {v:Value} {l:List Bk} (h:RdKs w v l):∃ a cap,v=.slice a l.length cap:=by
 rcases h with ⟨a,cap,rfl,rfl,-⟩ | ⟨b,off,cap,h0,rfl,_⟩
 ·exact ⟨a,cap,rfl⟩
 ·exact ⟨_,cap,rfl⟩
theorem RdKs.below {B:Nat} {w w':World} {v:Value} {l:List Bk} (h:RdKs w v l) (hb:Below B w w') (hB:w.heap.size<=B):RdKs w' v l:=by
 rcases h with h | ⟨b,off,cap,h0,hv,h1,h2,h3,h4⟩
 ·exact .inl h
 ·refine .inr ⟨b,off,cap,h0,hv,h1,h2,by have:=hb.size;omega,fun i hi=>?_⟩
  obtain ⟨lv,k1,k2⟩:=h4 i hi
  exact ⟨lv,k1.below hb (by omega),k2.below hb hB⟩
def Bv.has (v:Bv) (g:Nat):Prop:=v.q.ownBlock=some g\/v.w.ownBlock=some g\/v.h.ownBlock=some g\/v.t.ownBlock=some g\/v.n.ownBlock=some g
def bkP (q:Bk × Bv):List Value:=bkC q.1 q.2
def bkZ:List Value:=bkY_
theorem bG_ (l:List (Bk × Bv)):∀ x ∈ l.map bkP,x.length=14:=fun x hx=>by obtain ⟨p,_,rfl⟩:=List.mem_map.1 hx;rfl
theorem OwnK.below9 {B base:Nat} {w w':World} {b:Bk} {v:Bv} (h:OwnK base w b v) (hb:Below B w w') (hB:w.heap.size<=B):OwnK base w' b v :=
 ⟨j_ h.q hb hB,j_ h.p hb hB,j_ h.h hb hB,j_ h.t hb hB,j_ h.n hb hB⟩
theorem OwnK.mono9 {base base':Nat} {w:World} {b:Bk} {v:Bv} (h:OwnK base w b v) (hB:base'<=base):OwnK base' w b v :=
 ⟨h.q.mono hB,h.p.mono hB,h.h.mono hB,h.t.mono hB,h.n.mono hB⟩
theorem OwnK.in9 {base:Nat} {w:World} {b:Bk} {v:Bv} (h:OwnK base w b v) (g:Nat) (hg:v.has g):base<=g/\g < w.heap.size:=by
 rcases hg with e | e | e | e | e
 ·exact World.ownsRow.lt h.q g e
 ·exact World.ownsRow.lt h.p g e
 ·exact World.ownsRow.lt h.h g e
 ·exact World.ownsRow.lt h.t g e
 ·exact World.ownsRow.lt h.n g e
theorem OwnK.grown9 {base:Nat} {w w':World} {b:Bk} {v:Bv} {g:Nat} (h:OwnK base w b v) (hg:w.grownBy w' (some g)) (hn:¬ v.has g):OwnK base w' b v:=by
 have k:∀ x:Value,(x.ownBlock=some g->v.has g)->(x.ownBlock=none\/x.ownBlock ≠ some g):=fun x hx=>.inr (fun e=>hn (hx e))
 exact ⟨World.ownsRow.kept h.q hg (k _ (fun e=>.inl e)),World.ownsRow.kept h.p hg (k _ (fun e=>.inr (.inl e))),World.ownsRow.kept h.h hg (k _ (fun e=>.inr (.inr (.inl e)))),World.ownsRow.kept h.t hg (k _ (fun e=>.inr (.inr (.inr (.inl e))))),World.ownsRow.kept h.n hg (k _ (fun e=>.inr (.inr (.inr (.inr e)))))⟩
structure Kvs (base:Nat) (w:World) (g:Nat) (Z:List (Bk × Bv)):Prop where
 own:∀ i (h:i < Z.length),OwnK base w Z[i].1 Z[i].2
 far:∀ i (h:i < Z.length),¬ Z[i].2.has g
 inner:∀ i (h:i < Z.length) k,Z[i].2.q.ownBlock=some k->Z[i].2.w.ownBlock ≠ some k
 apart:∀ i j (hi:i < Z.length) (hj:j < Z.length),i ≠ j->∀ k,Z[i].2.has k->¬ Z[j].2.has k
theorem Kvs.nil (base:Nat) (w:World) (g:Nat):Kvs base w g []:=⟨fun i h=>by simp at h,fun i h=>by simp at h,fun i h=>by simp at h,fun i j h=>by simp at h⟩
theorem Kvs.below {B base:Nat} {w w':World} {g:Nat} {Z:List (Bk × Bv)} (h:Kvs base w g Z) (hb:Below B w w') (hB:w.heap.size<=B):Kvs base w' g Z :=
 ⟨fun i hi=>(h.own i hi).below9 hb hB,h.far,h.inner,h.apart⟩
theorem Kvs.grown {base:Nat} {w w':World} {g:Nat} {Z:List (Bk × Bv)} (h:Kvs base w g Z) (hg:w.grownBy w' (some g)):Kvs base w' g Z :=
 ⟨fun i hi=>(h.own i hi).grown9 hg (h.far i hi),h.far,h.inner,h.apart⟩
theorem Kvs.snoc {base:Nat} {w:World} {g:Nat} {Z:List (Bk × Bv)} (h:Kvs base w g Z) (q:Bk × Bv) (ho:OwnK base w q.1 q.2) (hf:¬ q.2.has g) (hin:∀ k,q.2.q.ownBlock=some k->q.2.w.ownBlock ≠ some k)
  (hn:∀ i (hi:i < Z.length) k,Z[i].2.has k->¬ q.2.has k):Kvs base w g (Z ++ [q]):=by
 have at1:∀ i (hi:i < (Z ++ [q]).length),(∃ h':i < Z.length,(Z ++ [q])[i]=Z[i])\/(i=Z.length/\(Z ++ [q])[i]=q):=fun i hi=>by
  by_cases h':i < Z.length
  ·exact .inl ⟨h',List.getElem_append_left h'⟩
  ·have e:i=Z.length:=by simp at hi;omega
   subst e
   exact .inr ⟨rfl,by simp⟩
 refine ⟨fun i hi=>?_,fun i hi=>?_,fun i hi k hk=>?_,fun i j hi hj hij k hk=>?_⟩
 ·rcases at1 i hi with ⟨h',e⟩ | ⟨_,e⟩
  ·rw [e];exact h.own i h'
  ·rw [e];exact ho
 ·rcases at1 i hi with ⟨h',e⟩ | ⟨_,e⟩
  ·rw [e];exact h.far i h'
  ·rw [e];exact hf
 ·rcases at1 i hi with ⟨h',e⟩ | ⟨_,e⟩
  ·rw [e] at hk ⊢;exact h.inner i h' k hk
  ·rw [e] at hk ⊢;exact hin k hk
 ·rcases at1 i hi with ⟨h',e⟩ | ⟨ei,e⟩ <;> rcases at1 j hj with ⟨h2,e2⟩ | ⟨ej,e2⟩
  ·rw [e] at hk;rw [e2];exact h.apart i j h' h2 hij k hk
  ·rw [e] at hk;rw [e2];exact hn i h' k hk
  ·rw [e] at hk;rw [e2];exact fun e3=>hn j h2 k e3 hk
  ·omega
def OwnKs (base:Nat) (w:World) (v:Value) (l:List Bk):Prop :=
 ∃ (g cap:Nat) (Z:List (Bk × Bv)),Z.map (·.1)=l/\v=.slice (some ⟨g,0,none⟩) l.length cap/\w.ownsRow base 146 14 v l.length (Z.map bkP).flatten/\Kvs base w g Z
theorem kv_ {base:Nat} {w:World} {g cap n:Nat} {Z:List (Bk × Bv)} (ho:w.ownsRow base 146 14 (.slice (some ⟨g,0,none⟩) n cap) n (Z.map bkP).flatten) (hn:Z.length=n) (i:Nat) (hi:i < Z.length):BkAt w g (0+i * 14) Z[i].1 Z[i].2:=fun j hj=>by
 rw [Nat.zero_add,ho.cellAt (i * 14+j) (by omega),i_ 14 (Z.map bkP) i j (by simpa using hi) (bG_ Z) hj]
 simp [bkP]
theorem OwnKs.rd {base:Nat} {w:World} {v:Value} {l:List Bk} (h:OwnKs base w v l):RdKs w v l:=by
 obtain ⟨g,cap,Z,hZ,rfl,ho,hl⟩:=h
 have hlen:Z.length=l.length:=by rw [<- hZ];simp
 by_cases hn:l=[]
 ·subst hn;exact .inl ⟨_,_,rfl,rfl,fun h=>by cases h⟩
 ·rcases ho.2 with ⟨hv,_⟩ | ⟨g',cap',cur,hv,hb,hg,hnc,hcm,hcs,ht⟩
  ·cases hv
  ·simp only [Value.slice.injEq,Option.some.injEq,Addr.mk.injEq,and_true,true_and] at hv
   obtain ⟨rfl,rfl⟩:=hv
   refine .inr ⟨g,0,cap,hn,rfl,hnc,hcm,(Array.getElem?_eq_some_iff.1 hg).1,fun i hi=>?_⟩
   have hi':i < Z.length:=by omega
   have e:l[i]=Z[i].1:=by subst hZ;simp
   exact ⟨Z[i].2,by rw [e];exact kv_ ho hlen i hi',by rw [e];exact (hl.own i hi').rd⟩
theorem Tryz.infoBk:(Tryz.prog.info? 146).map (fun i=>(i.zero,i.size,i.bytes))=some (some (.agg bkZ_),14,208):=by kernel_rfl
theorem R_ (v:Value) (k n:Nat) (w:World) (hr:RdS w v (mkS k n)) (hl:n<=10000000) (hk:k<=100000000) (hk0:0 < k) :
  Calls Tryz.prog 120 #[v,.int .i64 (k:Int)] w fun e w'=>e=.returned (.int .i64 ((k+n:Nat):Int))/\Below w.heap.size w w':=by
 have hML:=ao_ k n
 have hMA:=jf_ k n
 generalize hMd:mkS k n=M at hML hMA hr
 clear hMd
 rcases hr with ⟨a,cap,rfl,rfl,-⟩ | ⟨b,off,cap,h0,rfl,h1,h2,h3,h4⟩
 ·simp at hML
  subst hML
  clear hMA
  go_enter Tryz.func120,Tryz.ntmps120
  go_wp2
  refine wp_loop_rounds 1 ?_
  rw [rounds_succ]
  go_wp2
  go_ret
  exact ⟨rfl,br_ _ _⟩
 ·have HML:=a_ hML
  have HMA:=a_ hMA
  have hMl:n<=M.length:=by omega
  have hMg:M.length<=n:=by omega
  have H4:=a_ h4
  clear hML hMA h4
  go_enter Tryz.func120,Tryz.ntmps120
  go_wp2
  go_loopw [1,5] (fun kv iv wr=>∃ j:Nat,j<=n/\iv=.int .i64 (j:Int)/\kv=.int .i64 ((k+j:Nat):Int)/\Below w.heap.size w wr) (fun _ iv _=>n - (intOf iv).toNat)
  case atStart=>exact ⟨0,Nat.zero_le _,rfl,rfl,br_ _ _⟩
  case round =>
   obtain ⟨j,hj,rfl,rfl,hb⟩:=hrel
   by_cases hlt:j < n
   ·have hjM:j < M.length:=by omega
    have hc:wr.cell? ⟨b,off+j,none⟩=some (.string M[j]):=(hb.cell (p:=⟨b,off+j,none⟩) h3).trans (H4.out j hjM)
    obtain ⟨K,hK⟩:∃ K:Nat,k+j=K:=⟨_,rfl⟩
    have hK2:K<=200000000:=by omega
    have hK0:0 < K:=by omega
    have Hm:=a_ (fun w=>n_ K w hK0 hK2)
    rw [HMA.out j hjM,hK] at hc
    rw [hK]
    have HK:=a_ hK
    have hsz:=hb.size
    have hbw:b < wr.heap.size:=by omega
    have hli:(j:Int) < (M.length:Int):=by omega
    have Hb:=a_ hb
    clear hK hb
    go_wp2_with fail
    go_region_with (go_at_call 117;refine (Hm.out _).mono ?_;rintro e w2 ⟨rfl,hb2⟩;have hc2:=(hb2.cell (p:=⟨b,off+j,none⟩) (by exact hbw)).trans (by exact hc))
    all_goals
     rename Below _ _ _=>hb2
     go_wp2
     go_roundw
     case rel=>exact ⟨j+1,by omega,by go_num,by rw [show k+(j+1)=K+1 from by have:=HK.out;omega];go_num,Hb.out.drew.trans (hb2.mono hsz)⟩
     case measure=>simp [intOf];omega
   ·have e:j=n:=by omega
    have He:=a_ e
    clear e
    go_wp2
    go_ret
    exact ⟨h_ (by rw [<- He.out]),hb⟩
open Go.RowKit Go.Sort
structure Oth (S:Nat->Prop) (w w':World):Prop where
 os:w'.os=w.os
 tape:w'.tape=w.tape
 output:w'.output=w.output
 size:w.heap.size<=w'.heap.size
 block:∀ k,k < w.heap.size->¬ S k->w'.heap[k]?=w.heap[k]?
theorem Oth.of_below {S:Nat->Prop} {w w':World} (h:Below w.heap.size w w'):Oth S w w':=⟨h.os,h.tape,h.output,h.size,fun k hk _=>h.block k hk⟩
theorem Oth.trans {S:Nat->Prop} {a b c:World} (h:Oth S a b) (k:Oth S b c):Oth S a c :=
 ⟨k.os.trans h.os,k.tape.trans h.tape,k.output.trans h.output,Nat.le_trans h.size k.size,fun i hi ho=>(k.block i (Nat.lt_of_lt_of_le hi h.size) ho).trans (h.block i hi ho)⟩
theorem Oth.mono {S T:Nat->Prop} {a b:World} (h:Oth S a b) (hs:∀ k,S k->T k):Oth T a b:=⟨h.os,h.tape,h.output,h.size,fun k hk hn=>h.block k hk (fun e=>hn (hs k e))⟩
theorem Oth.of_grown {S:Nat->Prop} {w w':World} {row:Option Nat} (h:w.grownBy w' row) (hr:∀ k,row=some k->S k):Oth S w w' :=
 ⟨h.os,h.tape,h.output,h.size,fun k hk ho=>h.block k hk (fun e=>ho (hr k e.symm))⟩
theorem Oth.refl (S:Nat->Prop) (w:World):Oth S w w:=⟨rfl,rfl,rfl,nr_ _,fun _ _ _=>rfl⟩
theorem Oth.set {S:Nat->Prop} {w w':World} (h:Oth S w w') {g:Nat} (h1:S g) (j:Nat) (u:Value):Oth S w (w'.setCell ⟨g,j,none⟩ u) :=
 h.trans (Oth.of_grown (B_ w' g j u) (fun k e=>by cases e;exact h1))
theorem Oth.below {S:Nat->Prop} {B:Nat} {w w':World} (h:Oth S w w') (hB:∀ k,S k->B<=k) (hs:B<=w.heap.size):Below B w w' :=
 ⟨h.os,h.tape,h.output,h.size,fun k hk=>h.block k (by omega) (fun e=>by have:=hB k e;omega)⟩
theorem g_ {S:Nat->Prop} {base:Nat} {w w':World} {e:TypeId} {size:Nat} {v:Value} {n:Nat} {xs:List Value} (h:w.ownsRow base e size v n xs) (hb:Oth S w w') (hn:∀ k,v.ownBlock=some k->¬ S k):w'.ownsRow base e size v n xs:=by
 refine ⟨h.1,?_⟩
 rcases h.2 with h' | ⟨g,cap,cur,hv,hbb,hg,r⟩
 ·exact .inl h'
 ·refine .inr ⟨g,cap,cur,hv,hbb,?_,r⟩
  have hlt:g < w.heap.size:=(Array.getElem?_eq_some_iff.1 hg).1
  rw [hb.block g hlt (hn g (by rw [hv];rfl))]
  exact hg
theorem aa_ {base g n cap:Nat} {w:World} {T:TypeId} {Y:List Value} (h:w.ownsRow base T 5 (.slice (some ⟨g,0,none⟩) n cap) n Y) (hY:Y.length=5 * n) (i:Nat) (hi:i < 5 * n) :
  (∃ y,w.cell? ⟨g,i,none⟩=some y)/\w.frozen? ⟨g,i,none⟩=false/\∀ u,(w.setCell ⟨g,i,none⟩ u).ownsRow base T 5 (.slice (some ⟨g,0,none⟩) n cap) n (Y.set i u) :=
 ⟨⟨Y[i]'(by omega),by rw [h.cellAt i (by omega)];exact List.getElem?_eq_getElem (by omega)⟩,h.frozenAt i,fun u=>(h.stored i u).1⟩
def mkT (k n:Nat):List Tx5:=(List.range n).map (fun j=>(((k+5 * j:Nat):Int),mtx (k+5 * j+1),mtx (k+5 * j+2),((k+5 * j+3:Nat):Int),((k+5 * j+4:Nat):Int)))
theorem dI_ (k n:Nat):(mkT k n).length=n:=by simp [mkT]
theorem iw_ (k n j:Nat) (h:j < (mkT k n).length):(mkT k n)[j]=(((k+5 * j:Nat):Int),mtx (k+5 * j+1),mtx (k+5 * j+2),((k+5 * j+3:Nat):Int),((k+5 * j+4:Nat):Int)):=by simp [mkT]
theorem mixT {M l:List Tx5} {j:Nat} (hl:M.length=l.length) (hj:j < l.length):((M.take j ++ l.drop j).map txC).set j (txC (M[j]'(by omega)))=(M.take (j+1) ++ l.drop (j+1)).map txC:=by
 rw [List.take_succ_eq_append_getElem (by omega),<- List.map_set]
 congr 1
 rw [List.set_append_right _ _ (by simp;omega),List.length_take,show min j M.length=j from by omega,Nat.sub_self,List.drop_eq_getElem_cons hj,sz_,List.append_assoc]
 rfl
theorem gR_ (M l:List Tx5) (j:Nat):∀ x ∈ (M.take j ++ l.drop j).map txC,x.length=5:=fun x hx=>by obtain ⟨p,_,rfl⟩:=List.mem_map.1 hx;rfl
theorem cl_ (v:Value) (l:List Tx5) (k base:Nat) (w:World) (ho:OwnT base w v l) (hl:l.length<=10000000) (hk:k+5 * l.length<=90000000) (hk0:0 < k) :
  Calls Tryz.prog 58 #[v,.int .i64 (k:Int)] w fun e w'=>e=.returned (.int .i64 ((k+5 * l.length:Nat):Int))/\OwnT base w' v (mkT k l.length)/\Oth (fun g=>v.ownBlock=some g) w w':=by
 have hML:=dI_ k l.length
 have hMA:=iw_ k l.length
 generalize hMd:mkT k l.length=M at hML hMA ⊢
 clear hMd
 by_cases hne:l=[]
 ·subst hne
  obtain ⟨a,c,rfl⟩:=ho.rd.shape
  have e2:M=[]:=List.length_eq_zero_iff.1 hML
  subst e2
  have Ho:=a_ ho
  clear ho
  go_enter Tryz.func58,Tryz.ntmps58
  go_wp2
  refine wp_loop_rounds 1 ?_
  rw [rounds_succ]
  go_wp2
  go_ret
  exact ⟨by simp <;> rfl,Ho.out,Oth.refl _ _⟩
 ·obtain ⟨g,cap,rfl⟩:∃ g cap,v=.slice (some ⟨g,0,none⟩) l.length cap:=by
   rcases ho.2 with ⟨rfl,hn⟩ | ⟨g,cap,cur,rfl,-⟩
   ·exact absurd (List.length_eq_zero_iff.1 hn) hne
   ·exact ⟨g,cap,rfl⟩
  have Hrow:Hid (w.ownsRow base 59 5 (.slice (some ⟨g,0,none⟩) l.length cap) l.length (l.map txC).flatten):=a_ ho
  have HML:=a_ hML
  have HMA:=a_ hMA
  clear ho hML hMA
  have hS:Hid ((fun x=>(Value.slice (some ⟨g,0,none⟩) l.length cap).ownBlock=some x) g):=a_ rfl
  go_enter Tryz.func58,Tryz.ntmps58
  go_wp2
  go_loopw [1,5] (fun kv iv wr=>∃ j:Nat,j<=l.length/\iv=.int .i64 (j:Int)/\kv=.int .i64 ((k+5 * j:Nat):Int)/\wr.ownsRow base 59 5 (.slice (some ⟨g,0,none⟩) l.length cap) l.length ((M.take j ++ l.drop j).map txC).flatten/\Oth (fun x=>(Value.slice (some ⟨g,0,none⟩) l.length cap).ownBlock=some x) w wr)
   (fun _ iv _=>l.length - (intOf iv).toNat)
  case atStart=>exact ⟨0,Nat.zero_le _,rfl,rfl,by simpa using Hrow.out,Oth.refl _ _⟩
  case round =>
   obtain ⟨j,hj,rfl,rfl,hown,hbt⟩:=hrel
   clear Hrow
   have HLl:Hid ((M.take j ++ l.drop j).length=l.length):=a_ (by have:=HML.out;simp;omega)
   have hYl:((M.take j ++ l.drop j).map txC).flatten.length=5 * l.length:=by
    rw [s_ 5 _ (gR_ M l j),List.length_map,HLl.out];omega
   by_cases hlt:j < l.length
   ·have hli:(j:Int) < (l.length:Int):=by omega
    have Hnx:Hid (k+5 * (j+1)=k+5 * j+5):=a_ (by omega)
    have hK1:k+5 * j+5<=90000000:=by omega
    have hK0:0 < k+5 * j:=by omega
    have HEnd:Hid (((((((M.take j ++ l.drop j).map txC).flatten.set (j * 5) (.int .i64 ((k+5 * j:Nat):Int))).set (j * 5+1) (.string (mtx (k+5 * j+1)))).set (j * 5+2) (.string (mtx (k+5 * j+2)))).set (j * 5+3) (.int .i64 ((k+5 * j+3:Nat):Int))).set (j * 5+4) (.int .i64 ((k+5 * j+4:Nat):Int))=((M.take (j+1) ++ l.drop (j+1)).map txC).flatten):=a_ (by
     rw [aA_ _ j _ _ _ _ _ (by rw [List.length_map,HLl.out];exact hlt) (gR_ M l j),<- mixT HML.out hlt,HMA.out j (by have:=HML.out;omega)]
     rfl)
    generalize ((M.take j ++ l.drop j).map txC).flatten=Y at hown hYl HEnd
    generalize k+5 * j=K at Hnx hK1 hK0 HEnd ⊢
    have Hm1:=a_ (fun w=>n_ (K+1) w (by omega) (by omega))
    have Hm2:=a_ (fun w=>n_ (K+1+1) w (by omega) (by omega))
    obtain ⟨⟨y0,q0⟩,f0,s0⟩:=aa_ hown hYl (j * 5) (by omega)
    have S0:=a_ s0
    have Hbt:=a_ hbt
    clear hown hbt s0
    go_wp2_with fail
    refine (Hm1.out _).mono ?_
    rintro e w1 ⟨rfl,hb1⟩
    have r1:=j_ (S0.out (.int .i64 (K:Int))) hb1 (nr_ _)
    have Hbt1:=a_ ((Hbt.out.set hS.out (j * 5) (.int .i64 (K:Int))).trans (Oth.of_below hb1))
    clear hb1 q0 f0
    obtain ⟨⟨y1,q1⟩,f1,s1⟩:=aa_ r1 (by simp [hYl]) (j * 5+1) (by omega)
    have S1:=a_ s1
    clear r1 s1
    go_wp2_with fail
    refine (Hm2.out _).mono ?_
    rintro e w2 ⟨rfl,hb2⟩
    have r2:=j_ (S1.out (.string (mtx (K+1)))) hb2 (nr_ _)
    have Hbt2:=a_ ((Hbt1.out.set hS.out (j * 5+1) (.string (mtx (K+1)))).trans (Oth.of_below hb2))
    clear hb2 q1 f1
    obtain ⟨⟨y2,q2⟩,f2,s2⟩:=aa_ r2 (by simp [hYl]) (j * 5+2) (by omega)
    obtain ⟨⟨y3,q3⟩,f3,-⟩:=aa_ r2 (by simp [hYl]) (j * 5+3) (by omega)
    obtain ⟨⟨y4,q4⟩,f4,-⟩:=aa_ r2 (by simp [hYl]) (j * 5+4) (by omega)
    have S2:=a_ (fun u2 u3 u4=>(((aa_ (((aa_ (s2 u2) (by simp [hYl]) (j * 5+3) (by omega)).2.2) u3) (by simp [hYl]) (j * 5+4) (by omega)).2.2) u4))
    have S3:=a_ (S2.out (.string (mtx (K+1+1))) (.int .i64 ((K+3:Nat):Int)) (.int .i64 ((K+4:Nat):Int)))
    rw [show K+1+1=K+2 from rfl] at S3 ⊢
    rw [HEnd.out] at S3
    clear r2 s2 S2 HEnd
    go_wp2
    have e3:(K:Int)+1+1+1=((K+3:Nat):Int):=by omega
    have e4:(K:Int)+1+1+1+1=((K+4:Nat):Int):=by omega
    go_roundw
    case rel =>
     refine ⟨j+1,by omega,by go_num,by rw [Hnx.out];go_num,?_,((Hbt2.out.set hS.out _ _).set hS.out _ _).set hS.out _ _⟩
     exact S3.out
    case measure=>simp [intOf];omega
   ·have ej:j=l.length:=by omega
    have e9:M.take j ++ l.drop j=M:=by rw [List.take_of_length_le (by have:=HML.out;omega),List.drop_of_length_le (by omega),List.append_nil]
    rw [e9] at hown
    subst ej
    have Hbt:=a_ hbt
    have Ho':Hid (OwnT base wr (.slice (some ⟨g,0,none⟩) l.length cap) M):=a_ (by unfold OwnT;rw [HML.out];exact hown)
    clear hown hbt e9 hYl HLl
    go_wp2
    go_ret
    exact ⟨rfl,Ho'.out,Hbt.out⟩
theorem cs_ (v:Value) (k n:Nat) (w:World) (hr:RdT w v (mkT k n)) (hl:n<=10000000) (hk:k+5 * n<=100000000) (hk0:0 < k) :
  Calls Tryz.prog 68 #[v,.int .i64 (k:Int)] w fun e w'=>e=.returned (.int .i64 ((k+5 * n:Nat):Int))/\Below w.heap.size w w':=by
 have hML:=dI_ k n
 have hMA:=iw_ k n
 generalize hMd:mkT k n=M at hML hMA hr
 clear hMd
 rcases hr with ⟨a,cap,rfl,rfl,-⟩ | ⟨b,off,cap,h0,rfl,h1,h2,h3,h4⟩
 ·simp at hML
  subst hML
  clear hMA
  go_enter Tryz.func68,Tryz.ntmps68
  go_wp2
  refine wp_loop_rounds 1 ?_
  rw [rounds_succ]
  go_wp2
  go_ret
  exact ⟨rfl,br_ _ _⟩
 ·have HMA:=a_ hMA
  have hMl:n<=M.length:=by omega
  have hMg:M.length<=n:=by omega
  have H4:=a_ h4
  clear hML hMA h4
  go_enter Tryz.func68,Tryz.ntmps68
  go_wp2
  go_loopw [1,5] (fun kv iv wr=>∃ j:Nat,j<=n/\iv=.int .i64 (j:Int)/\kv=.int .i64 ((k+5 * j:Nat):Int)/\Below w.heap.size w wr) (fun _ iv _=>n - (intOf iv).toNat)
  case atStart=>exact ⟨0,Nat.zero_le _,rfl,rfl,br_ _ _⟩
  case round =>
   obtain ⟨j,hj,rfl,rfl,hb⟩:=hrel
   by_cases hlt:j < n
   ·have hjM:j < M.length:=by omega
    have hat:=H4.out j hjM
    have HC:Hid (∀ V,Below w.heap.size w V->V.cell? ⟨b,off+j * 5,none⟩=some (.int .i64 M[j].1)/\V.cell? ⟨b,off+j * 5+1,none⟩=some (.string M[j].2.1)/\V.cell? ⟨b,off+j * 5+2,none⟩=some (.string M[j].2.2.1)/\V.cell? ⟨b,off+j * 5+3,none⟩=some (.int .i64 M[j].2.2.2.1)/\V.cell? ⟨b,off+j * 5+4,none⟩=some (.int .i64 M[j].2.2.2.2)):=a_ (fun V hV=>by
     obtain ⟨d0,d1,d2,d3,d4⟩:=hat.below hV h3
     exact ⟨d0,d1,d2,d3,d4⟩)
    rw [HMA.out j hjM] at HC
    simp only at HC
    obtain ⟨K,hK⟩:∃ K:Nat,k+5 * j=K:=⟨_,rfl⟩
    have hK2:K<=150000000:=by omega
    have hK0:0 < K:=by omega
    rw [hK] at HC ⊢
    have HK:=a_ hK
    have hli:(j:Int) < (M.length:Int):=by omega
    clear hK hat
    have Hb:=a_ hb
    have HM1:=a_ (fun V=>n_ (K+1) V (by omega) (by omega))
    have HM2:=a_ (fun V=>n_ (K+2) V (by omega) (by omega))
    generalize mtx (K+1)=m1 at HC HM1
    generalize mtx (K+2)=m2 at HC HM2
    obtain ⟨c0,c1,-,-,-⟩:=HC.out wr hb
    have g1:=cell_regrown c1
    have HR1:=a_ (fun (d:Nat) (os:Array Obj)=>Calls.regrown_of (HM1.out (grow (redrawn wr d) os)))
    have e1:((K+1:Nat):Int)=(K:Int)+1:=by omega
    have e2:((K+2:Nat):Int)=(K:Int)+1+1:=by omega
    rw [e1] at HR1
    clear hb c1 HM1 e1
    go_wp2
    refine wp_region_quiet_below (by kernel_rfl) (by kernel_rfl) ?_
    repeat (go_big_quiet_step ((go_at_call 117;exact HR1.out _ _)))
    refine wpQuiet_nil ?_
    intro _ hw'
    obtain ⟨⟨dq,osq⟩,hw''⟩:=hw'
    subst hw''
    have hb2:=Hb.out.trans ((below_regrown wr dq osq).mono Hb.out.size)
    generalize grow (redrawn wr dq) osq=w2 at hb2 ⊢
    clear g1 HR1 c0 Hb
    obtain ⟨-,-,c2,-,-⟩:=HC.out w2 hb2
    have g2:=cell_regrown c2
    have HR2:=a_ (fun (d:Nat) (os:Array Obj)=>Calls.regrown_of (HM2.out (grow (redrawn w2 d) os)))
    rw [e2] at HR2
    have Hb2:=a_ hb2
    clear HM2 e2 c2 hb2
    go_wp2
    refine wp_region_quiet_below (by kernel_rfl) (by kernel_rfl) ?_
    repeat (go_big_quiet_step ((go_at_call 117;exact HR2.out _ _)))
    refine wpQuiet_nil ?_
    intro _ hw'
    obtain ⟨⟨dq2,osq2⟩,hw''⟩:=hw'
    subst hw''
    have hb3:=Hb2.out.trans ((below_regrown w2 dq2 osq2).mono Hb2.out.size)
    generalize grow (redrawn w2 dq2) osq2=w3 at hb3 ⊢
    clear g2 HR2 Hb2
    obtain ⟨-,-,-,c3,c4⟩:=HC.out w3 hb3
    have e3:((K+3:Nat):Int)=(K:Int)+1+1+1:=by omega
    have e4:((K+4:Nat):Int)=(K:Int)+1+1+1+1:=by omega
    rw [e3] at c3
    rw [e4] at c4
    clear e3 e4 HC
    go_wp2
    go_roundw
    case rel=>exact ⟨j+1,by omega,by go_num,by rw [show k+5 * (j+1)=K+5 from by have:=HK.out;omega];go_num,hb3⟩
    case measure=>simp [intOf];omega
   ·have e:j=n:=by omega
    have He:=a_ e
    clear e
    go_wp2
    go_ret
    exact ⟨h_ (by rw [<- He.out]),hb⟩
end Go.Proofs.YtamljhcmiphdgaaGreatDoor
