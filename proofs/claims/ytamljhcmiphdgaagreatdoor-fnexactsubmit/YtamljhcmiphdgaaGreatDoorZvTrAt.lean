/- Where a block stands, by the model. -/
import Derived.Test.YtamljhcmiphdgaaGreatDoorZvBkMark
import Derived.Deep.CutBlock
set_option maxRecDepth 20000
set_option maxHeartbeats 8000000
namespace Go.Proofs.YtamljhcmiphdgaaGreatDoor
open Go.RowKit
set_option linter.unusedVariables false
theorem bt_ (w:World) (base:Nat) (h:base<=w.heap.size):OwnS base (w.alloc (.cells #[] 9)) (.slice (some ⟨w.heap.size,0,none⟩) 0 0) [] :=
 World.ownsRow_lit w #[] 0 h (by unfold maxLen;omega) (by simp)
theorem bp_ {ops:Array Oper} {rest:List Oper} {o:Oper} {a:Act} {Q:Exit->Act->World->Prop} (w:World) (hgd:o.guard=none) (s x:Operand)
  (ho:o.op=.call { callee:=.builtin .append,args:=#[s,x],argTypes:=#[27,27] })
  (base:Nat) (v vx:Value) (l k:List ByteArray) (hs:a.eval s=v) (hx:a.eval x=vx) (hown:OwnS base w v l) (hrd:RdS w vx k)
  (hlen:l.length+k.length<=100000000) (hbase:base<=w.heap.size)
  (h:∀ v' w',OwnS base w' v' (l ++ k)->Below base w w'->wpList Tryz.prog ops Q rest (a.put o.dst v') w'):wpList Tryz.prog ops Q (o :: rest) a w:=by
 obtain ⟨i0,hi,hz0,hz1,hz2⟩:=info_parts Tryz.infoStr
 have hbel:∀ w',w.grownBy w' v.ownBlock->Below base w w':=fun w' hg=>(br_ _ _).grown hg hbase (fun k hk=>(World.ownsRow.lt hown k hk).1)
 rcases hrd with ⟨ax,cap,rfl,rfl,hnil⟩ | ⟨b,off,cap,h0,rfl,h1,h2,h3,h4⟩
 ·cases ax with
  | none =>
   have hc:cap=0:=hnil rfl
   subst hc
   refine wpList_append_own_none hgd s x 27 ho base 9 i0 1 Tryz.underlying27 hi v l.length (l.map Value.string) hs hown hx ?_
   exact h v w (by simpa [OwnS] using hown) (br_ _ _)
  | some ad =>
   refine wpList_append_own w hgd s x 27 ho base 9 i0 (.string ByteArray.empty) 1 16 Tryz.underlying27 hi hz0 hz1 hz2 rfl (by decide) v l.length (l.map Value.string) hs hown ad 0 cap [] hx rfl (by intro j u hj;simp at hj) (by intro u hu;simp at hu) (by unfold maxLen;simp at hlen;omega) (by simp at hlen;omega) hbase ?_
   intro v' w' ho' hg _
   exact h v' w' (by simpa [OwnS] using ho') (hbel w' hg)
 ·refine wpList_append_own w hgd s x 27 ho base 9 i0 (.string ByteArray.empty) 1 16 Tryz.underlying27 hi hz0 hz1 hz2 rfl (by decide) v l.length (l.map Value.string) hs hown ⟨b,off,none⟩ k.length cap (k.map Value.string) hx (by simp) ?_ ?_ (by unfold maxLen;omega) (by omega) hbase ?_
  ·intro j u hj
   have hj':j < k.length:=by have:=(List.getElem?_eq_some_iff.1 hj).1;simpa using this
   have ea:(⟨b,off,none⟩:Addr).add j=⟨b,off+j,none⟩:=by
    by_cases hz:j=0
    ·subst hz;simp [Addr.add]
    ·simp [Addr.add,hz]
   rw [ea,h4 j hj']
   simp [hj'] at hj
   rw [<- hj]
  ·intro u hu
   obtain ⟨c,_,rfl⟩:=List.mem_map.1 hu
   rfl
  ·intro v' w' ho' hg _
   exact h v' w' (by simpa [OwnS] using ho') (hbel w' hg)
structure Cp (w S:World) (cs:List Value):Prop where
 p:Blk S w.heap.size 146 cs
 r:Blk S (w.heap.size+1) 146 bkY_
 b:Below w.heap.size w S
theorem Cp.lt {w S:World} {cs:List Value} (h:Cp w S cs):w.heap.size+2<=S.heap.size:=by have:=h.r.lt;omega
theorem Cp.step {w S w':World} {cs:List Value} (h:Cp w S cs) (hb:Below S.heap.size S w') (p:Nat) (u:Value):Cp w (w'.setCell ⟨w.heap.size,p,none⟩ u) (cs.set p u) :=
 ⟨(h.p.below hb h.p.lt).setC p u,(h.r.below hb h.r.lt).otherC _ p u (by omega),(h.b.trans (hb.mono h.b.size)).setCell (p:=⟨w.heap.size,p,none⟩) (nr_ _) u⟩
theorem bS_ {w S w':World} (hb:Below S.heap.size S w') (p:Nat) (u:Value):Oth (fun g=>g=w.heap.size) S (w'.setCell ⟨w.heap.size,p,none⟩ u) :=
 (Oth.of_below (S:=fun g=>g=w.heap.size) hb).set (g:=w.heap.size) rfl p u
theorem fW_ (w:World) (cs:List Value):Cp w ((w.alloc (.cells cs.toArray 146)).alloc (.cells bkZ_ 146)) cs :=
 ⟨(Blk.new w _ cs).below ((br_ (w.heap.size+1) _).alloc (by simp) _) (by omega),Blk.newR _ _ bkY_ _ (by simp),((br_ _ w).alloc (nr_ _) _).alloc (by simp) _⟩
structure CpG (T:TypeId) (zs:List Value) (w S:World) (cs:List Value):Prop where
 p:Blk S w.heap.size T cs
 r:Blk S (w.heap.size+1) T zs
 b:Below w.heap.size w S
theorem CpG.lt {T:TypeId} {zs:List Value} {w S:World} {cs:List Value} (h:CpG T zs w S cs):w.heap.size+2<=S.heap.size:=by have:=h.r.lt;omega
theorem CpG.step {T:TypeId} {zs:List Value} {w S w':World} {cs:List Value} (h:CpG T zs w S cs) (hb:Below S.heap.size S w') (p:Nat) (u:Value):CpG T zs w (w'.setCell ⟨w.heap.size,p,none⟩ u) (cs.set p u) :=
 ⟨(h.p.below hb h.p.lt).setC p u,(h.r.below hb h.r.lt).otherC _ p u (by omega),(h.b.trans (hb.mono h.b.size)).setCell (p:=⟨w.heap.size,p,none⟩) (nr_ _) u⟩
theorem aN_ (T:TypeId) (w:World) (cs zs:List Value):CpG T zs w ((w.alloc (.cells cs.toArray T)).alloc (.cells zs.toArray T)) cs :=
 ⟨(Blk.new w _ cs).below ((br_ (w.heap.size+1) _).alloc (by simp) _) (by omega),Blk.newR _ _ zs _ (by simp),((br_ _ w).alloc (nr_ _) _).alloc (by simp) _⟩
theorem ak_ (r b:Int) (vw:Value) (ws:List ByteArray) (w:World) (hrw:RdS w vw ws) (hlw:ws.length<=4000000) :
  Calls Tryz.prog 104 #[qcV r b vw] w fun e w'=>∃ vw',e=.returned (qcV r b vw')/\OwnS w.heap.size w' vw' ws/\Below w.heap.size w w':=by
 obtain ⟨aw,cw,rfl⟩:=hrw.shape
 have HRq:=a_ (fun V (hV:Below w.heap.size w V)=>hrw.below hV (nr_ _))
 simp only [qcV]
 obtain ⟨S0,hS0⟩:∃ x,(w.alloc (.cells #[.int .i64 r,.int .i64 b,.slice aw ws.length cw] 48)).alloc (.cells #[.int .i64 0,.int .i64 0,.slice none 0 0] 48)=x:=⟨_,rfl⟩
 have C0:=a_ (show CpG 48 [.int .i64 0,.int .i64 0,.slice none 0 0] w S0 [.int .i64 r,.int .i64 b,.slice aw ws.length cw] from by rw [<- hS0];exact aN_ _ w [.int .i64 r,.int .i64 b,.slice aw ws.length cw] [.int .i64 0,.int .i64 0,.slice none 0 0])
 clear hrw
 have x2:=(C0.out.p.below ((br_ S0.heap.size S0).alloc (nr_ _) (.cells #[] 9)) C0.out.p.lt).cell 2
 simp only [gz_,gs_] at x2
 go_enter Tryz.func104,Tryz.ntmps104
 go_wp2_with (at_builtin;(try rw [hS0]);refine bp_ _ rfl _ _ rfl S0.heap.size _ _ [] ws rfl rfl (bt_ S0 S0.heap.size (nr_ _)) ((HRq.out S0 C0.out.b).below ((br_ S0.heap.size S0).alloc (nr_ _) (.cells #[] 9)) (nr_ _)) (by simp;omega) (by simp) ?_;intro u1 w1 o1 hb1;rw [List.nil_append] at o1;obtain ⟨a1,c1,rfl⟩:=o1.rd.shape;have h1:=(((br_ S0.heap.size S0).alloc (nr_ _) (.cells #[] 9))).trans hb1;have kp:=C0.out.p.below h1 C0.out.p.lt;have y2:=kp.cell 2;have g2:=kp.frozen 2;simp only [gz_,gs_] at y2;obtain ⟨S1,hS1⟩:∃ x,w1.setCell ⟨w.heap.size,2,none⟩ (.slice a1 ws.length c1)=x:=⟨_,rfl⟩;have C1:=a_ (show CpG 48 [.int .i64 0,.int .i64 0,.slice none 0 0] w S1 [.int .i64 r,.int .i64 b,.slice a1 ws.length c1] from by rw [<- hS1];exact C0.out.step h1 2 _);have O1:=a_ (show OwnS S0.heap.size S1 (.slice a1 ws.length c1) ws from by rw [<- hS1];exact p_ o1 w.heap.size 2 _ (fun k hk e=>by have:=(World.ownsRow.lt o1 k hk).1;have:=C0.out.lt;omega));clear kp o1 hb1 h1;have t0:=C1.out.p.cell 0;have t1:=C1.out.p.cell 1;have t2:=C1.out.p.cell 2;have e0:=C1.out.r.cell 0;have e1:=C1.out.r.cell 1;have e2:=C1.out.r.cell 2;have f0:=C1.out.r.frozen 0;have f1:=C1.out.r.frozen 1;have f2:=C1.out.r.frozen 2;simp only [gz_,gs_] at t0 t1 t2 e0 e1 e2)
 have hlt:=C0.out.lt
 have HO:=a_ ((((O1.out.olderC (g:=w.heap.size+1) (by omega) 0 (.int .i64 r)).olderC (g:=w.heap.size+1) (by omega) 1 (.int .i64 b)).olderC (g:=w.heap.size+1) (by omega) 2 (.slice a1 ws.length c1)).mono (show w.heap.size<=S0.heap.size by omega))
 have HB:=a_ (((C1.out.b.setCell (p:=⟨w.heap.size+1,0,none⟩) (show w.heap.size<=w.heap.size+1 by omega) (.int .i64 r)).setCell (p:=⟨w.heap.size+1,1,none⟩) (show w.heap.size<=w.heap.size+1 by omega) (.int .i64 b)).setCell (p:=⟨w.heap.size+1,2,none⟩) (show w.heap.size<=w.heap.size+1 by omega) (.slice a1 ws.length c1))
 refine bodyPost_ret (v:=.agg #[.int .i64 r,.int .i64 b,.slice a1 ws.length c1]) (by simp [results,Tryz.f104,go_sem,e0,e1,e2]) rfl ?_
 exact ⟨_,rfl,HO.out,HB.out⟩
theorem aY_ (r:Int) (vw vh:Value) (ws:List ByteArray) (hs:List Int) (w:World) (hrw:RdS w vw ws) (hrh:RdI w vh hs) (hlw:ws.length<=4000000) (hlh:hs.length<=4000000) :
  Calls Tryz.prog 105 #[tcV r vw vh] w fun e w'=>∃ vw' vh',e=.returned (tcV r vw' vh')/\OwnS w.heap.size w' vw' ws/\OwnI w.heap.size w' vh' hs/\Below w.heap.size w w':=by
 obtain ⟨aw,cw,rfl⟩:=hrw.shape
 obtain ⟨ah,ch,rfl⟩:=hrh.shape
 have HRq:=a_ (fun V (hV:Below w.heap.size w V)=>hrw.below hV (nr_ _))
 have HRh:=a_ (fun V (hV:Below w.heap.size w V)=>hrh.below hV (nr_ _))
 simp only [tcV]
 obtain ⟨S0,hS0⟩:∃ x,(w.alloc (.cells #[.int .i64 r,.slice aw ws.length cw,.slice ah hs.length ch] 49)).alloc (.cells #[.int .i64 0,.slice none 0 0,.slice none 0 0] 49)=x:=⟨_,rfl⟩
 have C0:=a_ (show CpG 49 [.int .i64 0,.slice none 0 0,.slice none 0 0] w S0 [.int .i64 r,.slice aw ws.length cw,.slice ah hs.length ch] from by rw [<- hS0];exact aN_ _ w [.int .i64 r,.slice aw ws.length cw,.slice ah hs.length ch] [.int .i64 0,.slice none 0 0,.slice none 0 0])
 clear hrw hrh
 have x1:=(C0.out.p.below ((br_ S0.heap.size S0).alloc (nr_ _) (.cells #[] 9)) C0.out.p.lt).cell 1
 simp only [gz_,gs_] at x1
 go_enter Tryz.func105,Tryz.ntmps105
 go_wp2_with (first
  | (at_builtin;(try rw [hS1]);refine bU_ _ rfl _ _ rfl S1.heap.size _ _ [] hs rfl rfl (cK_ S1 S1.heap.size (nr_ _)) ((HRh.out S1 C1.out.b).below ((br_ S1.heap.size S1).alloc (nr_ _) (.cells #[] 3)) (nr_ _)) (by simp;omega) (by simp) ?_;intro u2 w2 o2 _ hb2 _;rw [List.nil_append] at o2;obtain ⟨a2,c2,rfl⟩:=o2.rd.shape;have h2:=(((br_ S1.heap.size S1).alloc (nr_ _) (.cells #[] 3))).trans hb2;have kp:=C1.out.p.below h2 C1.out.p.lt;have y2:=kp.cell 2;have g2:=kp.frozen 2;simp only [gz_,gs_] at y2;obtain ⟨S2,hS2⟩:∃ x,w2.setCell ⟨w.heap.size,2,none⟩ (.slice a2 hs.length c2)=x:=⟨_,rfl⟩;have C2:=a_ (show CpG 49 [.int .i64 0,.slice none 0 0,.slice none 0 0] w S2 [.int .i64 r,.slice a1 ws.length c1,.slice a2 hs.length c2] from by rw [<- hS2];exact C1.out.step h2 2 _);have O2:=a_ (show OwnI S1.heap.size S2 (.slice a2 hs.length c2) hs from by rw [<- hS2];exact p_ o2 w.heap.size 2 _ (fun k hk e=>by have:=(World.ownsRow.lt o2 k hk).1;have:=C1.out.lt;omega));have O1b:=a_ (show OwnS S0.heap.size S2 (.slice a1 ws.length c1) ws from by rw [<- hS2];exact g_ O1.out (bS_ (w:=w) h2 2 _) (fun k hk e=>by have:=(World.ownsRow.lt O1.out k hk).1;have:=C0.out.lt;omega));clear kp o2 hb2 h2;have t0:=C2.out.p.cell 0;have t1:=C2.out.p.cell 1;have t2:=C2.out.p.cell 2;have e0:=C2.out.r.cell 0;have e1:=C2.out.r.cell 1;have e2:=C2.out.r.cell 2;have f0:=C2.out.r.frozen 0;have f1:=C2.out.r.frozen 1;have f2:=C2.out.r.frozen 2;simp only [gz_,gs_] at t0 t1 t2 e0 e1 e2)
  | (at_builtin;(try rw [hS0]);refine bp_ _ rfl _ _ rfl S0.heap.size _ _ [] ws rfl rfl (bt_ S0 S0.heap.size (nr_ _)) ((HRq.out S0 C0.out.b).below ((br_ S0.heap.size S0).alloc (nr_ _) (.cells #[] 9)) (nr_ _)) (by simp;omega) (by simp) ?_;intro u1 w1 o1 hb1;rw [List.nil_append] at o1;obtain ⟨a1,c1,rfl⟩:=o1.rd.shape;have h1:=(((br_ S0.heap.size S0).alloc (nr_ _) (.cells #[] 9))).trans hb1;have kp:=C0.out.p.below h1 C0.out.p.lt;have y1:=kp.cell 1;have g1:=kp.frozen 1;simp only [gz_,gs_] at y1;obtain ⟨S1,hS1⟩:∃ x,w1.setCell ⟨w.heap.size,1,none⟩ (.slice a1 ws.length c1)=x:=⟨_,rfl⟩;have C1:=a_ (show CpG 49 [.int .i64 0,.slice none 0 0,.slice none 0 0] w S1 [.int .i64 r,.slice a1 ws.length c1,.slice ah hs.length ch] from by rw [<- hS1];exact C0.out.step h1 1 _);have O1:=a_ (show OwnS S0.heap.size S1 (.slice a1 ws.length c1) ws from by rw [<- hS1];exact p_ o1 w.heap.size 1 _ (fun k hk e=>by have:=(World.ownsRow.lt o1 k hk).1;have:=C0.out.lt;omega));clear kp o1 hb1 h1;have x2:=(C1.out.p.below ((br_ S1.heap.size S1).alloc (nr_ _) (.cells #[] 3)) C1.out.p.lt).cell 2;simp only [gz_,gs_] at x2))
 have hlt:=C0.out.lt
 have hlt1:=C1.out.lt
 have HO:=a_ ((((O1b.out.olderC (g:=w.heap.size+1) (by omega) 0 (.int .i64 r)).olderC (g:=w.heap.size+1) (by omega) 1 (.slice a1 ws.length c1)).olderC (g:=w.heap.size+1) (by omega) 2 (.slice a2 hs.length c2)).mono (show w.heap.size<=S0.heap.size by omega))
 have HO2:=a_ ((((O2.out.olderC (g:=w.heap.size+1) (by omega) 0 (.int .i64 r)).olderC (g:=w.heap.size+1) (by omega) 1 (.slice a1 ws.length c1)).olderC (g:=w.heap.size+1) (by omega) 2 (.slice a2 hs.length c2)).mono (show w.heap.size<=S1.heap.size by omega))
 have HB:=a_ (((C2.out.b.setCell (p:=⟨w.heap.size+1,0,none⟩) (show w.heap.size<=w.heap.size+1 by omega) (.int .i64 r)).setCell (p:=⟨w.heap.size+1,1,none⟩) (show w.heap.size<=w.heap.size+1 by omega) (.slice a1 ws.length c1)).setCell (p:=⟨w.heap.size+1,2,none⟩) (show w.heap.size<=w.heap.size+1 by omega) (.slice a2 hs.length c2))
 refine bodyPost_ret (v:=.agg #[.int .i64 r,.slice a1 ws.length c1,.slice a2 hs.length c2]) (by simp [results,Tryz.f105,go_sem,e0,e1,e2]) rfl ?_
 exact ⟨_,_,rfl,HO.out,HO2.out,HB.out⟩
theorem Cp.bel {w S w':World} {cs:List Value} (h:Cp w S cs) (hb:Below S.heap.size S w'):Cp w w' cs:=⟨h.p.below hb h.p.lt,h.r.below hb h.r.lt,h.b.trans (hb.mono h.b.size)⟩
theorem Cp.put {w S:World} {cs:List Value} (h:Cp w S cs) (p:Nat) (u:Value):Cp w (S.setCell ⟨w.heap.size,p,none⟩ u) (cs.set p u):=h.step (br_ _ _) p u
theorem cp_six {w S wX:World} {z0 z1 z2 z3 z4 z5 z6 z7 z8 z9 z10 z11 z12 z13 u4 u5 u6 u7 u8 u9:Value} (h:Cp w S [z0,z1,z2,z3,z4,z5,z6,z7,z8,z9,z10,z11,z12,z13]) (hb:Below S.heap.size S wX):Cp w ((((((wX.setCell ⟨w.heap.size,4,none⟩ u4).setCell ⟨w.heap.size,5,none⟩ u5).setCell ⟨w.heap.size,6,none⟩ u6).setCell ⟨w.heap.size,7,none⟩ u7).setCell ⟨w.heap.size,8,none⟩ u8).setCell ⟨w.heap.size,9,none⟩ u9) [z0,z1,z2,z3,u4,u5,u6,u7,u8,u9,z10,z11,z12,z13]:=(((((((h.bel hb).put 4 u4).put 5 u5).put 6 u6).put 7 u7).put 8 u8).put 9 u9)
theorem ff_ {base g:Nat} {W:World} {v:Value} {l:List ByteArray} (h:OwnS base W v l) (hg:g < base) {u4 u5 u6 u7 u8 u9:Value}:OwnS base ((((((W.setCell ⟨g,4,none⟩ u4).setCell ⟨g,5,none⟩ u5).setCell ⟨g,6,none⟩ u6).setCell ⟨g,7,none⟩ u7).setCell ⟨g,8,none⟩ u8).setCell ⟨g,9,none⟩ u9) v l:=((((((h.olderC (g:=g) hg 4 u4).olderC (g:=g) hg 5 u5).olderC (g:=g) hg 6 u6).olderC (g:=g) hg 7 u7).olderC (g:=g) hg 8 u8).olderC (g:=g) hg 9 u9)
theorem jT_ {base g:Nat} {W:World} {v:Value} {l:List Int} (h:OwnI base W v l) (hg:g < base) {u4 u5 u6 u7 u8 u9:Value}:OwnI base ((((((W.setCell ⟨g,4,none⟩ u4).setCell ⟨g,5,none⟩ u5).setCell ⟨g,6,none⟩ u6).setCell ⟨g,7,none⟩ u7).setCell ⟨g,8,none⟩ u8).setCell ⟨g,9,none⟩ u9) v l:=((((((h.olderC (g:=g) hg 4 u4).olderC (g:=g) hg 5 u5).olderC (g:=g) hg 6 u6).olderC (g:=g) hg 7 u7).olderC (g:=g) hg 8 u8).olderC (g:=g) hg 9 u9)
theorem cS_ (b:Bk) (v:Bv) (w:World) (hr:RdK w b v) (hf:FewK b) :
  Calls Tryz.prog 142 #[bkV b v] w fun e w'=>∃ v',e=.returned (bkV b v')/\OwnK w.heap.size w' b v'/\(∀ g,v'.q.ownBlock=some g->v'.w.ownBlock ≠ some g)/\Below w.heap.size w w':=by
 have hlq:=hf.q
 have hlw:=hf.w
 have hlh:=hf.h
 have hlt:=hf.t
 have hln:=hf.n
 clear hf
 obtain ⟨id,ep,rd,md,qr,qb,qw,tr,tw,th,ts,en,nx,rt⟩:=b
 obtain ⟨vq,vw,vh,vt,vn⟩:=v
 obtain ⟨hq,hw,hh,ht,hn⟩:=hr
 simp only at *
 obtain ⟨aq,cq,rfl⟩:=hq.shape
 obtain ⟨aw,cw,rfl⟩:=hw.shape
 obtain ⟨ah,ch,rfl⟩:=hh.shape
 obtain ⟨at_,ct,rfl⟩:=ht.shape
 obtain ⟨an,cn,rfl⟩:=hn.shape
 have HRq:=a_ (fun V (hV:Below w.heap.size w V)=>hq.below hV (nr_ _))
 have HRw:=a_ (fun V (hV:Below w.heap.size w V)=>hw.below hV (nr_ _))
 have HRh:=a_ (fun V (hV:Below w.heap.size w V)=>hh.below hV (nr_ _))
 have HRt:=a_ (fun V (hV:Below w.heap.size w V)=>ht.below hV (nr_ _))
 have HRn:=a_ (fun V (hV:Below w.heap.size w V)=>hn.below hV (nr_ _))
 simp only [bkV]
 obtain ⟨S0,hS0⟩:∃ x,(w.alloc (.cells #[.int .i64 id,.int .i64 ep,.int .i64 rd,.string md,.int .i64 qr,.int .i64 qb,.slice aq qw.length cq,.int .i64 tr,.slice aw tw.length cw,.slice ah th.length ch,.slice at_ ts.length ct,.bool en,.slice an nx.length cn,.string rt] 146)).alloc (.cells bkZ_ 146)=x:=⟨_,rfl⟩
 have C0:=a_ (show Cp w S0 [.int .i64 id,.int .i64 ep,.int .i64 rd,.string md,.int .i64 qr,.int .i64 qb,.slice aq qw.length cq,.int .i64 tr,.slice aw tw.length cw,.slice ah th.length ch,.slice at_ ts.length ct,.bool en,.slice an nx.length cn,.string rt] from by rw [<- hS0];exact fW_ w [.int .i64 id,.int .i64 ep,.int .i64 rd,.string md,.int .i64 qr,.int .i64 qb,.slice aq qw.length cq,.int .i64 tr,.slice aw tw.length cw,.slice ah th.length ch,.slice at_ ts.length ct,.bool en,.slice an nx.length cn,.string rt])
 clear hq hw hh ht hn
 have HQ:Hid (∀ V,Below S0.heap.size S0 V->Calls Tryz.prog 104 #[.agg #[.int .i64 qr,.int .i64 qb,.slice aq qw.length cq]] V fun e w'=>∃ a c,e=.returned (.agg #[.int .i64 qr,.int .i64 qb,.slice a qw.length c])/\OwnS V.heap.size w' (.slice a qw.length c) qw/\Below S0.heap.size S0 w'/\Below V.heap.size V w'):=a_ (fun V hV=>by
  refine (ak_ qr qb (.slice aq qw.length cq) qw V (HRq.out V (C0.out.b.trans (hV.mono C0.out.b.size))) (by omega)).mono ?_
  rintro e w' ⟨u,rfl,o,b⟩
  obtain ⟨a,c,rfl⟩:=o.rd.shape
  exact ⟨a,c,rfl,o,hV.trans (b.mono hV.size),b⟩)
 have HT:Hid (∀ V,Below S0.heap.size S0 V->Calls Tryz.prog 105 #[.agg #[.int .i64 tr,.slice aw tw.length cw,.slice ah th.length ch]] V fun e w'=>∃ a c a' c',e=.returned (.agg #[.int .i64 tr,.slice a tw.length c,.slice a' th.length c'])/\OwnS V.heap.size w' (.slice a tw.length c) tw/\OwnI V.heap.size w' (.slice a' th.length c') th/\Below S0.heap.size S0 w'/\Below V.heap.size V w'):=a_ (fun V hV=>by
  refine (aY_ tr (.slice aw tw.length cw) (.slice ah th.length ch) tw th V (HRw.out V (C0.out.b.trans (hV.mono C0.out.b.size))) (HRh.out V (C0.out.b.trans (hV.mono C0.out.b.size))) (by omega) (by omega)).mono ?_
  rintro e w' ⟨u,u',rfl,o,o',b⟩
  obtain ⟨a,c,rfl⟩:=o.rd.shape
  obtain ⟨a',c',rfl⟩:=o'.rd.shape
  exact ⟨a,c,a',c',rfl,o,o',hV.trans (b.mono hV.size),b⟩)
 have hlt0:=C0.out.lt
 have x4:=C0.out.p.cell 4
 have d4:S0.drew.cell? ⟨w.heap.size,4,none⟩=_:=C0.out.p.cell 4
 have x5:=C0.out.p.cell 5
 have d5:S0.drew.cell? ⟨w.heap.size,5,none⟩=_:=C0.out.p.cell 5
 have x6:=C0.out.p.cell 6
 have d6:S0.drew.cell? ⟨w.heap.size,6,none⟩=_:=C0.out.p.cell 6
 have x7:=C0.out.p.cell 7
 have d7:S0.drew.cell? ⟨w.heap.size,7,none⟩=_:=C0.out.p.cell 7
 have x8:=C0.out.p.cell 8
 have d8:S0.drew.cell? ⟨w.heap.size,8,none⟩=_:=C0.out.p.cell 8
 have x9:=C0.out.p.cell 9
 have d9:S0.drew.cell? ⟨w.heap.size,9,none⟩=_:=C0.out.p.cell 9
 simp only [gz_,gs_] at x4 d4 x5 d5 x6 d6 x7 d7 x8 d8 x9 d9
 go_enter Tryz.func142,Tryz.ntmps142
 go_upto_region 1 with fail
 (try rw [hS0])
 go_cut [] from 3 (fun wc=>∃ (a1 a2 a3:Option Addr) (c1 c2 c3:Nat),Cp w wc [.int .i64 id,.int .i64 ep,.int .i64 rd,.string md,.int .i64 qr,.int .i64 qb,.slice a1 qw.length c1,.int .i64 tr,.slice a2 tw.length c2,.slice a3 th.length c3,.slice at_ ts.length ct,.bool en,.slice an nx.length cn,.string rt]/\OwnS (w.heap.size+2) wc (.slice a1 qw.length c1) qw/\OwnS (w.heap.size+2) wc (.slice a2 tw.length c2) tw/\OwnI (w.heap.size+2) wc (.slice a3 th.length c3) th/\(∀ g,(Value.slice a1 qw.length c1).ownBlock=some g->(Value.slice a2 tw.length c2).ownBlock ≠ some g))
 case first =>
  go_region_law (first
   | (go_simp;go_at_call 105;refine (HT.out _ (by first | exact bQ | exact br_ _ _ | exact (br_ _ _).drew)).mono ?_;rintro en wT ⟨a2,c2,a3,c3,rfl,oT,oH,bT,bT'⟩;have kT:=C0.out.p.below bT C0.out.p.lt;have m4:=kT.cell 4;have m5:=kT.cell 5;have m6:=kT.cell 6;have m7:=kT.cell 7;have m8:=kT.cell 8;have m9:=kT.cell 9;have mf4:=kT.frozen 4;have mf5:=kT.frozen 5;have mf6:=kT.frozen 6;have mf7:=kT.frozen 7;have mf8:=kT.frozen 8;have mf9:=kT.frozen 9;simp only [gz_,gs_] at m4 m5 m6 m7 m8 m9)
   | (go_simp;go_at_call 104;refine (HQ.out _ (by first | exact bT | exact br_ _ _ | exact (br_ _ _).drew)).mono ?_;rintro en wQ ⟨a1,c1,rfl,oQ,bQ,bQ'⟩;have kQ:=C0.out.p.below bQ C0.out.p.lt;have q4:=kQ.cell 4;have q5:=kQ.cell 5;have q6:=kQ.cell 6;have q7:=kQ.cell 7;have q8:=kQ.cell 8;have q9:=kQ.cell 9;have qf4:=kQ.frozen 4;have qf5:=kQ.frozen 5;have qf6:=kQ.frozen 6;have qf7:=kQ.frozen 7;have qf8:=kQ.frozen 8;have qf9:=kQ.frozen 9;simp only [gz_,gs_] at q4 q5 q6 q7 q8 q9))
  all_goals
   go_wp2
   go_meet
   case rel =>
    have oQ1:OwnS S0.heap.size wQ (.slice a1 qw.length c1) qw:=oQ
    have oQ2:OwnS S0.heap.size wT (.slice a1 qw.length c1) qw:=j_ oQ1 bT' (nr_ _)
    refine ⟨a1,a2,a3,c1,c2,c3,?_,?_,?_,?_,?_⟩
    ·exact cp_six C0.out bT
    ·exact OwnS.mono (ff_ oQ2 (Nat.lt_of_lt_of_le (by omega) hlt0)) hlt0
    ·exact OwnS.mono (ff_ oT (Nat.lt_of_lt_of_le (by omega) (Nat.le_trans hlt0 bQ.size))) (Nat.le_trans hlt0 bQ.size)
    ·exact OwnI.mono (jT_ oH (Nat.lt_of_lt_of_le (by omega) (Nat.le_trans hlt0 bQ.size))) (Nat.le_trans hlt0 bQ.size)
    ·intro g h1 h2
     have q1:=World.ownsRow.lt oQ g h1
     have q2:=World.ownsRow.lt oT g h2
     omega
 case rest =>
 clear HQ HT HRq HRw HRh hS0 C0 x4 d4 x5 d5 x6 d6 x7 d7 x8 d8 x9 d9
 obtain ⟨a1,a2,a3,c1,c2,c3,cC,o1,o2,o3,hne⟩:=hcut
 obtain ⟨S3,hS3⟩:∃ x,x=wc:=⟨_,rfl⟩
 subst hS3
 have C3:=a_ cC
 have O1:=a_ o1
 have O2:=a_ o2
 have O3:=a_ o3
 have Hne:=a_ hne
 clear cC o1 o2 o3 hne
 have x10:=C3.out.p.cell 10
 simp only [gz_,gs_] at x10
 go_wp2_with (first | (at_builtin;(try rw [hS4]);refine cI_ _ rfl _ _ rfl S4.heap.size _ _ [] nx rfl rfl (cu_ S4 S4.heap.size (nr_ _)) ((HRn.out S4 C4.out.b).below ((br_ S4.heap.size S4).alloc (nr_ _) (.cells #[] 152)) (nr_ _)) (by simp;omega) (by simp) ?_;intro u5 w5 o5 _ hb5;rw [List.nil_append] at o5;obtain ⟨a5,c5,rfl⟩:=o5.rd.shape;have h5:=(((br_ S4.heap.size S4).alloc (nr_ _) (.cells #[] 152))).trans hb5;have kp:=C4.out.p.below h5 C4.out.p.lt;have y12:=kp.cell 12;have g12:=kp.frozen 12;simp only [gz_,gs_] at y12;obtain ⟨S5,hS5⟩:∃ x,w5.setCell ⟨w.heap.size,12,none⟩ (.slice a5 nx.length c5)=x:=⟨_,rfl⟩;have C5:=a_ (show Cp w S5 [.int .i64 id,.int .i64 ep,.int .i64 rd,.string md,.int .i64 qr,.int .i64 qb,.slice a1 qw.length c1,.int .i64 tr,.slice a2 tw.length c2,.slice a3 th.length c3,.slice a4 ts.length c4,.bool en,.slice a5 nx.length c5,.string rt] from by rw [<- hS5];exact C4.out.step h5 12 _);have P5:=a_ (show Oth (fun g=>g=w.heap.size) S4 S5 from by rw [<- hS5];exact bS_ h5 12 _);have O5:=a_ (show OwnV S4.heap.size S5 (.slice a5 nx.length c5) nx from by rw [<- hS5];exact p_ o5 w.heap.size 12 _ (fun k hk e=>by have:=(World.ownsRow.lt o5 k hk).1;have:=C4.out.lt;omega));clear kp o5 hb5 h5;have t0:=C5.out.p.cell 0;have e0:=C5.out.r.cell 0;have f0:=C5.out.r.frozen 0;have t1:=C5.out.p.cell 1;have e1:=C5.out.r.cell 1;have f1:=C5.out.r.frozen 1;have t2:=C5.out.p.cell 2;have e2:=C5.out.r.cell 2;have f2:=C5.out.r.frozen 2;have t3:=C5.out.p.cell 3;have e3:=C5.out.r.cell 3;have f3:=C5.out.r.frozen 3;have t4:=C5.out.p.cell 4;have e4:=C5.out.r.cell 4;have f4:=C5.out.r.frozen 4;have t5:=C5.out.p.cell 5;have e5:=C5.out.r.cell 5;have f5:=C5.out.r.frozen 5;have t6:=C5.out.p.cell 6;have e6:=C5.out.r.cell 6;have f6:=C5.out.r.frozen 6;have t7:=C5.out.p.cell 7;have e7:=C5.out.r.cell 7;have f7:=C5.out.r.frozen 7;have t8:=C5.out.p.cell 8;have e8:=C5.out.r.cell 8;have f8:=C5.out.r.frozen 8;have t9:=C5.out.p.cell 9;have e9:=C5.out.r.cell 9;have f9:=C5.out.r.frozen 9;have t10:=C5.out.p.cell 10;have e10:=C5.out.r.cell 10;have f10:=C5.out.r.frozen 10;have t11:=C5.out.p.cell 11;have e11:=C5.out.r.cell 11;have f11:=C5.out.r.frozen 11;have t12:=C5.out.p.cell 12;have e12:=C5.out.r.cell 12;have f12:=C5.out.r.frozen 12;have t13:=C5.out.p.cell 13;have e13:=C5.out.r.cell 13;have f13:=C5.out.r.frozen 13;simp only [gz_,gs_] at t0 e0 t1 e1 t2 e2 t3 e3 t4 e4 t5 e5 t6 e6 t7 e7 t8 e8 t9 e9 t10 e10 t11 e11 t12 e12 t13 e13) | (go_at_call 106;refine (aB_ _ ts S3 (HRt.out S3 C3.out.b) (by omega)).mono ?_;rintro eT w4 ⟨u4,rfl,o4,hb4⟩;obtain ⟨a4,c4,rfl⟩:=o4.rd.shape;have h4:Below S3.heap.size S3 w4:=hb4;have kp:=C3.out.p.below h4 C3.out.p.lt;have y10:=kp.cell 10;have g10:=kp.frozen 10;simp only [gz_,gs_] at y10;obtain ⟨S4,hS4⟩:∃ x,w4.setCell ⟨w.heap.size,10,none⟩ (.slice a4 ts.length c4)=x:=⟨_,rfl⟩;have C4:=a_ (show Cp w S4 [.int .i64 id,.int .i64 ep,.int .i64 rd,.string md,.int .i64 qr,.int .i64 qb,.slice a1 qw.length c1,.int .i64 tr,.slice a2 tw.length c2,.slice a3 th.length c3,.slice a4 ts.length c4,.bool en,.slice an nx.length cn,.string rt] from by rw [<- hS4];exact C3.out.step h4 10 _);have P4:=a_ (show Oth (fun g=>g=w.heap.size) S3 S4 from by rw [<- hS4];exact bS_ h4 10 _);have O4:=a_ (show OwnT S3.heap.size S4 (.slice a4 ts.length c4) ts from by rw [<- hS4];exact p_ o4 w.heap.size 10 _ (fun k hk e=>by have:=(World.ownsRow.lt o4 k hk).1;have:=C3.out.lt;omega));clear kp o4 hb4 h4;have x12:=(C4.out.p.below ((br_ S4.heap.size S4).alloc (nr_ _) (.cells #[] 152)) C4.out.p.lt).cell 12;simp only [gz_,gs_] at x12))
 have hb0:=C3.out.lt
 have F1:=a_ (((show OwnS (w.heap.size+2) S5 (.slice a1 qw.length c1) qw from (g_ (g_ O1.out P4.out (fun k hk e=>by have:=(World.ownsRow.lt O1.out k hk).1;omega)) P5.out (fun k hk e=>by have:=(World.ownsRow.lt O1.out k hk).1;omega))).put14 (g:=w.heap.size+1) (by omega) (.int .i64 id) (.int .i64 ep) (.int .i64 rd) (.string md) (.int .i64 qr) (.int .i64 qb) (.slice a1 qw.length c1) (.int .i64 tr) (.slice a2 tw.length c2) (.slice a3 th.length c3) (.slice a4 ts.length c4) (.bool en) (.slice a5 nx.length c5) (.string rt)).mono (show w.heap.size<=w.heap.size+2 by omega))
 have F2:=a_ (((show OwnS (w.heap.size+2) S5 (.slice a2 tw.length c2) tw from (g_ (g_ O2.out P4.out (fun k hk e=>by have:=(World.ownsRow.lt O2.out k hk).1;omega)) P5.out (fun k hk e=>by have:=(World.ownsRow.lt O2.out k hk).1;omega))).put14 (g:=w.heap.size+1) (by omega) (.int .i64 id) (.int .i64 ep) (.int .i64 rd) (.string md) (.int .i64 qr) (.int .i64 qb) (.slice a1 qw.length c1) (.int .i64 tr) (.slice a2 tw.length c2) (.slice a3 th.length c3) (.slice a4 ts.length c4) (.bool en) (.slice a5 nx.length c5) (.string rt)).mono (show w.heap.size<=w.heap.size+2 by omega))
 have F3:=a_ (((show OwnI (w.heap.size+2) S5 (.slice a3 th.length c3) th from (g_ (g_ O3.out P4.out (fun k hk e=>by have:=(World.ownsRow.lt O3.out k hk).1;omega)) P5.out (fun k hk e=>by have:=(World.ownsRow.lt O3.out k hk).1;omega))).put14 (g:=w.heap.size+1) (by omega) (.int .i64 id) (.int .i64 ep) (.int .i64 rd) (.string md) (.int .i64 qr) (.int .i64 qb) (.slice a1 qw.length c1) (.int .i64 tr) (.slice a2 tw.length c2) (.slice a3 th.length c3) (.slice a4 ts.length c4) (.bool en) (.slice a5 nx.length c5) (.string rt)).mono (show w.heap.size<=w.heap.size+2 by omega))
 have F4:=a_ (((show OwnT S3.heap.size S5 (.slice a4 ts.length c4) ts from (g_ O4.out P5.out (fun k hk e=>by have:=(World.ownsRow.lt O4.out k hk).1;have:=C3.out.lt;omega))).put14 (g:=w.heap.size+1) (by have:=C3.out.lt;omega) (.int .i64 id) (.int .i64 ep) (.int .i64 rd) (.string md) (.int .i64 qr) (.int .i64 qb) (.slice a1 qw.length c1) (.int .i64 tr) (.slice a2 tw.length c2) (.slice a3 th.length c3) (.slice a4 ts.length c4) (.bool en) (.slice a5 nx.length c5) (.string rt)).mono (show w.heap.size<=S3.heap.size by have:=C3.out.lt;omega))
 have F5:=a_ (((show OwnV S4.heap.size S5 (.slice a5 nx.length c5) nx from O5.out).put14 (g:=w.heap.size+1) (by have:=C4.out.lt;omega) (.int .i64 id) (.int .i64 ep) (.int .i64 rd) (.string md) (.int .i64 qr) (.int .i64 qb) (.slice a1 qw.length c1) (.int .i64 tr) (.slice a2 tw.length c2) (.slice a3 th.length c3) (.slice a4 ts.length c4) (.bool en) (.slice a5 nx.length c5) (.string rt)).mono (show w.heap.size<=S4.heap.size by have:=C4.out.lt;omega))
 have FB:=a_ (C5.out.b.trans ((aS_ S5 (w.heap.size+1) (.int .i64 id) (.int .i64 ep) (.int .i64 rd) (.string md) (.int .i64 qr) (.int .i64 qb) (.slice a1 qw.length c1) (.int .i64 tr) (.slice a2 tw.length c2) (.slice a3 th.length c3) (.slice a4 ts.length c4) (.bool en) (.slice a5 nx.length c5) (.string rt)).mono (by omega)))
 refine bodyPost_ret (v:=.agg #[.int .i64 id,.int .i64 ep,.int .i64 rd,.string md,.int .i64 qr,.int .i64 qb,.slice a1 qw.length c1,.int .i64 tr,.slice a2 tw.length c2,.slice a3 th.length c3,.slice a4 ts.length c4,.bool en,.slice a5 nx.length c5,.string rt]) (by simp [results,Tryz.f142,go_sem,e0,e1,e2,e3,e4,e5,e6,e7,e8,e9,e10,e11,e12,e13]) rfl ?_
 exact ⟨⟨_,_,_,_,_⟩,rfl,⟨F1.out,F2.out,F3.out,F4.out,F5.out⟩,Hne.out,FB.out⟩
theorem an_ (r b:Int) (vw:Value) (ws:List ByteArray) (w:World) (hrw:RdS w vw ws) (hlw:ws.length<=4000000) :
  Calls Tryz.prog 79 #[qcV r b vw] w fun e w'=>∃ vw',e=.returned (qcV r b vw')/\OwnS w.heap.size w' vw' ws/\Below w.heap.size w w':=by
 obtain ⟨aw,cw,rfl⟩:=hrw.shape
 have HRq:=a_ (fun V (hV:Below w.heap.size w V)=>hrw.below hV (nr_ _))
 simp only [qcV]
 obtain ⟨S0,hS0⟩:∃ x,(w.alloc (.cells #[.int .i64 r,.int .i64 b,.slice aw ws.length cw] 48)).alloc (.cells #[.int .i64 0,.int .i64 0,.slice none 0 0] 48)=x:=⟨_,rfl⟩
 have C0:=a_ (show CpG 48 [.int .i64 0,.int .i64 0,.slice none 0 0] w S0 [.int .i64 r,.int .i64 b,.slice aw ws.length cw] from by rw [<- hS0];exact aN_ _ w [.int .i64 r,.int .i64 b,.slice aw ws.length cw] [.int .i64 0,.int .i64 0,.slice none 0 0])
 clear hrw
 have x2:=(C0.out.p.below ((br_ S0.heap.size S0).alloc (nr_ _) (.cells #[] 9)) C0.out.p.lt).cell 2
 simp only [gz_,gs_] at x2
 go_enter Tryz.func79,Tryz.ntmps79
 go_wp2_with (at_builtin;(try rw [hS0]);refine bp_ _ rfl _ _ rfl S0.heap.size _ _ [] ws rfl rfl (bt_ S0 S0.heap.size (nr_ _)) ((HRq.out S0 C0.out.b).below ((br_ S0.heap.size S0).alloc (nr_ _) (.cells #[] 9)) (nr_ _)) (by simp;omega) (by simp) ?_;intro u1 w1 o1 hb1;rw [List.nil_append] at o1;obtain ⟨a1,c1,rfl⟩:=o1.rd.shape;have h1:=(((br_ S0.heap.size S0).alloc (nr_ _) (.cells #[] 9))).trans hb1;have kp:=C0.out.p.below h1 C0.out.p.lt;have y2:=kp.cell 2;have g2:=kp.frozen 2;simp only [gz_,gs_] at y2;obtain ⟨S1,hS1⟩:∃ x,w1.setCell ⟨w.heap.size,2,none⟩ (.slice a1 ws.length c1)=x:=⟨_,rfl⟩;have C1:=a_ (show CpG 48 [.int .i64 0,.int .i64 0,.slice none 0 0] w S1 [.int .i64 r,.int .i64 b,.slice a1 ws.length c1] from by rw [<- hS1];exact C0.out.step h1 2 _);have O1:=a_ (show OwnS S0.heap.size S1 (.slice a1 ws.length c1) ws from by rw [<- hS1];exact p_ o1 w.heap.size 2 _ (fun k hk e=>by have:=(World.ownsRow.lt o1 k hk).1;have:=C0.out.lt;omega));clear kp o1 hb1 h1;have t0:=C1.out.p.cell 0;have t1:=C1.out.p.cell 1;have t2:=C1.out.p.cell 2;have e0:=C1.out.r.cell 0;have e1:=C1.out.r.cell 1;have e2:=C1.out.r.cell 2;have f0:=C1.out.r.frozen 0;have f1:=C1.out.r.frozen 1;have f2:=C1.out.r.frozen 2;simp only [gz_,gs_] at t0 t1 t2 e0 e1 e2)
 have hlt:=C0.out.lt
 have HO:=a_ ((((O1.out.olderC (g:=w.heap.size+1) (by omega) 0 (.int .i64 r)).olderC (g:=w.heap.size+1) (by omega) 1 (.int .i64 b)).olderC (g:=w.heap.size+1) (by omega) 2 (.slice a1 ws.length c1)).mono (show w.heap.size<=S0.heap.size by omega))
 have HB:=a_ (((C1.out.b.setCell (p:=⟨w.heap.size+1,0,none⟩) (show w.heap.size<=w.heap.size+1 by omega) (.int .i64 r)).setCell (p:=⟨w.heap.size+1,1,none⟩) (show w.heap.size<=w.heap.size+1 by omega) (.int .i64 b)).setCell (p:=⟨w.heap.size+1,2,none⟩) (show w.heap.size<=w.heap.size+1 by omega) (.slice a1 ws.length c1))
 refine bodyPost_ret (v:=.agg #[.int .i64 r,.int .i64 b,.slice a1 ws.length c1]) (by simp [results,Tryz.f79,go_sem,e0,e1,e2]) rfl ?_
 exact ⟨_,rfl,HO.out,HB.out⟩
theorem aU_ (r:Int) (vw vh:Value) (ws:List ByteArray) (hs:List Int) (w:World) (hrw:RdS w vw ws) (hrh:RdI w vh hs) (hlw:ws.length<=4000000) (hlh:hs.length<=4000000) :
  Calls Tryz.prog 80 #[tcV r vw vh] w fun e w'=>∃ vw' vh',e=.returned (tcV r vw' vh')/\OwnS w.heap.size w' vw' ws/\OwnI w.heap.size w' vh' hs/\Below w.heap.size w w':=by
 obtain ⟨aw,cw,rfl⟩:=hrw.shape
 obtain ⟨ah,ch,rfl⟩:=hrh.shape
 have HRq:=a_ (fun V (hV:Below w.heap.size w V)=>hrw.below hV (nr_ _))
 have HRh:=a_ (fun V (hV:Below w.heap.size w V)=>hrh.below hV (nr_ _))
 simp only [tcV]
 obtain ⟨S0,hS0⟩:∃ x,(w.alloc (.cells #[.int .i64 r,.slice aw ws.length cw,.slice ah hs.length ch] 49)).alloc (.cells #[.int .i64 0,.slice none 0 0,.slice none 0 0] 49)=x:=⟨_,rfl⟩
 have C0:=a_ (show CpG 49 [.int .i64 0,.slice none 0 0,.slice none 0 0] w S0 [.int .i64 r,.slice aw ws.length cw,.slice ah hs.length ch] from by rw [<- hS0];exact aN_ _ w [.int .i64 r,.slice aw ws.length cw,.slice ah hs.length ch] [.int .i64 0,.slice none 0 0,.slice none 0 0])
 clear hrw hrh
 have x1:=(C0.out.p.below ((br_ S0.heap.size S0).alloc (nr_ _) (.cells #[] 9)) C0.out.p.lt).cell 1
 simp only [gz_,gs_] at x1
 go_enter Tryz.func80,Tryz.ntmps80
 go_wp2_with (first
  | (at_builtin;(try rw [hS1]);refine bU_ _ rfl _ _ rfl S1.heap.size _ _ [] hs rfl rfl (cK_ S1 S1.heap.size (nr_ _)) ((HRh.out S1 C1.out.b).below ((br_ S1.heap.size S1).alloc (nr_ _) (.cells #[] 3)) (nr_ _)) (by simp;omega) (by simp) ?_;intro u2 w2 o2 _ hb2 _;rw [List.nil_append] at o2;obtain ⟨a2,c2,rfl⟩:=o2.rd.shape;have h2:=(((br_ S1.heap.size S1).alloc (nr_ _) (.cells #[] 3))).trans hb2;have kp:=C1.out.p.below h2 C1.out.p.lt;have y2:=kp.cell 2;have g2:=kp.frozen 2;simp only [gz_,gs_] at y2;obtain ⟨S2,hS2⟩:∃ x,w2.setCell ⟨w.heap.size,2,none⟩ (.slice a2 hs.length c2)=x:=⟨_,rfl⟩;have C2:=a_ (show CpG 49 [.int .i64 0,.slice none 0 0,.slice none 0 0] w S2 [.int .i64 r,.slice a1 ws.length c1,.slice a2 hs.length c2] from by rw [<- hS2];exact C1.out.step h2 2 _);have O2:=a_ (show OwnI S1.heap.size S2 (.slice a2 hs.length c2) hs from by rw [<- hS2];exact p_ o2 w.heap.size 2 _ (fun k hk e=>by have:=(World.ownsRow.lt o2 k hk).1;have:=C1.out.lt;omega));have O1b:=a_ (show OwnS S0.heap.size S2 (.slice a1 ws.length c1) ws from by rw [<- hS2];exact g_ O1.out (bS_ (w:=w) h2 2 _) (fun k hk e=>by have:=(World.ownsRow.lt O1.out k hk).1;have:=C0.out.lt;omega));clear kp o2 hb2 h2;have t0:=C2.out.p.cell 0;have t1:=C2.out.p.cell 1;have t2:=C2.out.p.cell 2;have e0:=C2.out.r.cell 0;have e1:=C2.out.r.cell 1;have e2:=C2.out.r.cell 2;have f0:=C2.out.r.frozen 0;have f1:=C2.out.r.frozen 1;have f2:=C2.out.r.frozen 2;simp only [gz_,gs_] at t0 t1 t2 e0 e1 e2)
  | (at_builtin;(try rw [hS0]);refine bp_ _ rfl _ _ rfl S0.heap.size _ _ [] ws rfl rfl (bt_ S0 S0.heap.size (nr_ _)) ((HRq.out S0 C0.out.b).below ((br_ S0.heap.size S0).alloc (nr_ _) (.cells #[] 9)) (nr_ _)) (by simp;omega) (by simp) ?_;intro u1 w1 o1 hb1;rw [List.nil_append] at o1;obtain ⟨a1,c1,rfl⟩:=o1.rd.shape;have h1:=(((br_ S0.heap.size S0).alloc (nr_ _) (.cells #[] 9))).trans hb1;have kp:=C0.out.p.below h1 C0.out.p.lt;have y1:=kp.cell 1;have g1:=kp.frozen 1;simp only [gz_,gs_] at y1;obtain ⟨S1,hS1⟩:∃ x,w1.setCell ⟨w.heap.size,1,none⟩ (.slice a1 ws.length c1)=x:=⟨_,rfl⟩;have C1:=a_ (show CpG 49 [.int .i64 0,.slice none 0 0,.slice none 0 0] w S1 [.int .i64 r,.slice a1 ws.length c1,.slice ah hs.length ch] from by rw [<- hS1];exact C0.out.step h1 1 _);have O1:=a_ (show OwnS S0.heap.size S1 (.slice a1 ws.length c1) ws from by rw [<- hS1];exact p_ o1 w.heap.size 1 _ (fun k hk e=>by have:=(World.ownsRow.lt o1 k hk).1;have:=C0.out.lt;omega));clear kp o1 hb1 h1;have x2:=(C1.out.p.below ((br_ S1.heap.size S1).alloc (nr_ _) (.cells #[] 3)) C1.out.p.lt).cell 2;simp only [gz_,gs_] at x2))
 have hlt:=C0.out.lt
 have hlt1:=C1.out.lt
 have HO:=a_ ((((O1b.out.olderC (g:=w.heap.size+1) (by omega) 0 (.int .i64 r)).olderC (g:=w.heap.size+1) (by omega) 1 (.slice a1 ws.length c1)).olderC (g:=w.heap.size+1) (by omega) 2 (.slice a2 hs.length c2)).mono (show w.heap.size<=S0.heap.size by omega))
 have HO2:=a_ ((((O2.out.olderC (g:=w.heap.size+1) (by omega) 0 (.int .i64 r)).olderC (g:=w.heap.size+1) (by omega) 1 (.slice a1 ws.length c1)).olderC (g:=w.heap.size+1) (by omega) 2 (.slice a2 hs.length c2)).mono (show w.heap.size<=S1.heap.size by omega))
 have HB:=a_ (((C2.out.b.setCell (p:=⟨w.heap.size+1,0,none⟩) (show w.heap.size<=w.heap.size+1 by omega) (.int .i64 r)).setCell (p:=⟨w.heap.size+1,1,none⟩) (show w.heap.size<=w.heap.size+1 by omega) (.slice a1 ws.length c1)).setCell (p:=⟨w.heap.size+1,2,none⟩) (show w.heap.size<=w.heap.size+1 by omega) (.slice a2 hs.length c2))
 refine bodyPost_ret (v:=.agg #[.int .i64 r,.slice a1 ws.length c1,.slice a2 hs.length c2]) (by simp [results,Tryz.f80,go_sem,e0,e1,e2]) rfl ?_
 exact ⟨_,_,rfl,HO.out,HO2.out,HB.out⟩
theorem dE_ (b:Bk) (v:Bv) (w:World) (hr:RdK w b v) (hf:FewK b) :
  Calls Tryz.prog 123 #[bkV b v] w fun e w'=>∃ v',e=.returned (bkV b v')/\OwnK w.heap.size w' b v'/\(∀ g,v'.q.ownBlock=some g->v'.w.ownBlock ≠ some g)/\Below w.heap.size w w':=by
 have hlq:=hf.q
 have hlw:=hf.w
 have hlh:=hf.h
 have hlt:=hf.t
 have hln:=hf.n
 clear hf
 obtain ⟨id,ep,rd,md,qr,qb,qw,tr,tw,th,ts,en,nx,rt⟩:=b
 obtain ⟨vq,vw,vh,vt,vn⟩:=v
 obtain ⟨hq,hw,hh,ht,hn⟩:=hr
 simp only at *
 obtain ⟨aq,cq,rfl⟩:=hq.shape
 obtain ⟨aw,cw,rfl⟩:=hw.shape
 obtain ⟨ah,ch,rfl⟩:=hh.shape
 obtain ⟨at_,ct,rfl⟩:=ht.shape
 obtain ⟨an,cn,rfl⟩:=hn.shape
 have HRq:=a_ (fun V (hV:Below w.heap.size w V)=>hq.below hV (nr_ _))
 have HRw:=a_ (fun V (hV:Below w.heap.size w V)=>hw.below hV (nr_ _))
 have HRh:=a_ (fun V (hV:Below w.heap.size w V)=>hh.below hV (nr_ _))
 have HRt:=a_ (fun V (hV:Below w.heap.size w V)=>ht.below hV (nr_ _))
 have HRn:=a_ (fun V (hV:Below w.heap.size w V)=>hn.below hV (nr_ _))
 simp only [bkV]
 obtain ⟨S0,hS0⟩:∃ x,(w.alloc (.cells #[.int .i64 id,.int .i64 ep,.int .i64 rd,.string md,.int .i64 qr,.int .i64 qb,.slice aq qw.length cq,.int .i64 tr,.slice aw tw.length cw,.slice ah th.length ch,.slice at_ ts.length ct,.bool en,.slice an nx.length cn,.string rt] 146)).alloc (.cells bkZ_ 146)=x:=⟨_,rfl⟩
 have C0:=a_ (show Cp w S0 [.int .i64 id,.int .i64 ep,.int .i64 rd,.string md,.int .i64 qr,.int .i64 qb,.slice aq qw.length cq,.int .i64 tr,.slice aw tw.length cw,.slice ah th.length ch,.slice at_ ts.length ct,.bool en,.slice an nx.length cn,.string rt] from by rw [<- hS0];exact fW_ w [.int .i64 id,.int .i64 ep,.int .i64 rd,.string md,.int .i64 qr,.int .i64 qb,.slice aq qw.length cq,.int .i64 tr,.slice aw tw.length cw,.slice ah th.length ch,.slice at_ ts.length ct,.bool en,.slice an nx.length cn,.string rt])
 clear hq hw hh ht hn
 have HQ:=a_ (fun V (hV:Below w.heap.size w V)=>an_ qr qb (.slice aq qw.length cq) qw V (HRq.out V hV) hlq)
 have HT:=a_ (fun V (hV:Below w.heap.size w V)=>aU_ tr (.slice aw tw.length cw) (.slice ah th.length ch) tw th V (HRw.out V hV) (HRh.out V hV) hlw hlh)
 simp only [qcV,tcV] at HQ HT
 go_enter Tryz.func123,Tryz.ntmps123
 have x4:=C0.out.p.cell 4
 have x5:=C0.out.p.cell 5
 have x6:=C0.out.p.cell 6
 simp only [gz_,gs_] at x4 x5 x6
 go_wp2_with fail
 (try rw [hS0])
 refine (HQ.out S0 C0.out.b).mono ?_
 rintro e w1 ⟨u1,rfl,o1,hb1⟩
 obtain ⟨a1,c1,rfl⟩:=o1.rd.shape
 have kp:=C0.out.p.below hb1 C0.out.p.lt
 have y4:=kp.cell 4
 have g4:=kp.frozen 4
 have y5:=kp.cell 5
 have g5:=kp.frozen 5
 have y6:=kp.cell 6
 have g6:=kp.frozen 6
 simp only [gz_,gs_] at y4 y5 y6
 obtain ⟨S1,hS1⟩:∃ x,((w1.setCell ⟨w.heap.size,4,none⟩ (.int .i64 qr)).setCell ⟨w.heap.size,5,none⟩ (.int .i64 qb)).setCell ⟨w.heap.size,6,none⟩ (.slice a1 qw.length c1)=x:=⟨_,rfl⟩
 have C1:=a_ (show Cp w S1 [.int .i64 id,.int .i64 ep,.int .i64 rd,.string md,.int .i64 qr,.int .i64 qb,.slice a1 qw.length c1,.int .i64 tr,.slice aw tw.length cw,.slice ah th.length ch,.slice at_ ts.length ct,.bool en,.slice an nx.length cn,.string rt] from by rw [<- hS1];exact ((C0.out.step hb1 4 _).step (br_ _ _) 5 _).step (br_ _ _) 6 _)
 have P1:=a_ (show Oth (fun g=>g=w.heap.size) S0 S1 from by rw [<- hS1];exact ((bS_ hb1 4 _).set (S:=fun g=>g=w.heap.size) rfl 5 _).set (S:=fun g=>g=w.heap.size) rfl 6 _)
 have O1:=a_ (show OwnS S0.heap.size S1 (.slice a1 qw.length c1) qw from by rw [<- hS1];exact ((o1.olderC (by have:=C0.out.lt;omega) 4 _).olderC (by have:=C0.out.lt;omega) 5 _).olderC (by have:=C0.out.lt;omega) 6 _)
 clear x4 x5 x6 kp o1 hb1
 have x7:=C1.out.p.cell 7
 have x8:=C1.out.p.cell 8
 have x9:=C1.out.p.cell 9
 simp only [gz_,gs_] at x7 x8 x9
 go_wp2_with fail
 (try rw [hS1])
 refine (HT.out S1 C1.out.b).mono ?_
 rintro e w2 ⟨u2,u3,rfl,o2,o3,hb2⟩
 obtain ⟨a2,c2,rfl⟩:=o2.rd.shape
 obtain ⟨a3,c3,rfl⟩:=o3.rd.shape
 have kp:=C1.out.p.below hb2 C1.out.p.lt
 have y7:=kp.cell 7
 have g7:=kp.frozen 7
 have y8:=kp.cell 8
 have g8:=kp.frozen 8
 have y9:=kp.cell 9
 have g9:=kp.frozen 9
 simp only [gz_,gs_] at y7 y8 y9
 obtain ⟨S3,hS3⟩:∃ x,((w2.setCell ⟨w.heap.size,7,none⟩ (.int .i64 tr)).setCell ⟨w.heap.size,8,none⟩ (.slice a2 tw.length c2)).setCell ⟨w.heap.size,9,none⟩ (.slice a3 th.length c3)=x:=⟨_,rfl⟩
 have C3:=a_ (show Cp w S3 [.int .i64 id,.int .i64 ep,.int .i64 rd,.string md,.int .i64 qr,.int .i64 qb,.slice a1 qw.length c1,.int .i64 tr,.slice a2 tw.length c2,.slice a3 th.length c3,.slice at_ ts.length ct,.bool en,.slice an nx.length cn,.string rt] from by rw [<- hS3];exact ((C1.out.step hb2 7 _).step (br_ _ _) 8 _).step (br_ _ _) 9 _)
 have P3:=a_ (show Oth (fun g=>g=w.heap.size) S1 S3 from by rw [<- hS3];exact ((bS_ hb2 7 _).set (S:=fun g=>g=w.heap.size) rfl 8 _).set (S:=fun g=>g=w.heap.size) rfl 9 _)
 have O2:=a_ (show OwnS S1.heap.size S3 (.slice a2 tw.length c2) tw from by rw [<- hS3];exact ((o2.olderC (by have:=C1.out.lt;omega) 7 _).olderC (by have:=C1.out.lt;omega) 8 _).olderC (by have:=C1.out.lt;omega) 9 _)
 have O3:=a_ (show OwnI S1.heap.size S3 (.slice a3 th.length c3) th from by rw [<- hS3];exact ((o3.olderC (by have:=C1.out.lt;omega) 7 _).olderC (by have:=C1.out.lt;omega) 8 _).olderC (by have:=C1.out.lt;omega) 9 _)
 clear x7 x8 x9 kp o2 o3 hb2 y4 y5 y6 g4 g5 g6
 have x10:=(C3.out.p.below ((br_ S3.heap.size S3).alloc (nr_ _) (.cells #[] 59)) C3.out.p.lt).cell 10
 simp only [gz_,gs_] at x10
 go_wp2_with (first | (at_builtin;(try rw [hS4]);refine cI_ _ rfl _ _ rfl S4.heap.size _ _ [] nx rfl rfl (cu_ S4 S4.heap.size (nr_ _)) ((HRn.out S4 C4.out.b).below ((br_ S4.heap.size S4).alloc (nr_ _) (.cells #[] 152)) (nr_ _)) (by simp;omega) (by simp) ?_;intro u5 w5 o5 _ hb5;rw [List.nil_append] at o5;obtain ⟨a5,c5,rfl⟩:=o5.rd.shape;have h5:=(((br_ S4.heap.size S4).alloc (nr_ _) (.cells #[] 152))).trans hb5;have kp:=C4.out.p.below h5 C4.out.p.lt;have y12:=kp.cell 12;have g12:=kp.frozen 12;simp only [gz_,gs_] at y12;obtain ⟨S5,hS5⟩:∃ x,w5.setCell ⟨w.heap.size,12,none⟩ (.slice a5 nx.length c5)=x:=⟨_,rfl⟩;have C5:=a_ (show Cp w S5 [.int .i64 id,.int .i64 ep,.int .i64 rd,.string md,.int .i64 qr,.int .i64 qb,.slice a1 qw.length c1,.int .i64 tr,.slice a2 tw.length c2,.slice a3 th.length c3,.slice a4 ts.length c4,.bool en,.slice a5 nx.length c5,.string rt] from by rw [<- hS5];exact C4.out.step h5 12 _);have P5:=a_ (show Oth (fun g=>g=w.heap.size) S4 S5 from by rw [<- hS5];exact bS_ h5 12 _);have O5:=a_ (show OwnV S4.heap.size S5 (.slice a5 nx.length c5) nx from by rw [<- hS5];exact p_ o5 w.heap.size 12 _ (fun k hk e=>by have:=(World.ownsRow.lt o5 k hk).1;have:=C4.out.lt;omega));clear kp o5 hb5 h5;have t0:=C5.out.p.cell 0;have e0:=C5.out.r.cell 0;have f0:=C5.out.r.frozen 0;have t1:=C5.out.p.cell 1;have e1:=C5.out.r.cell 1;have f1:=C5.out.r.frozen 1;have t2:=C5.out.p.cell 2;have e2:=C5.out.r.cell 2;have f2:=C5.out.r.frozen 2;have t3:=C5.out.p.cell 3;have e3:=C5.out.r.cell 3;have f3:=C5.out.r.frozen 3;have t4:=C5.out.p.cell 4;have e4:=C5.out.r.cell 4;have f4:=C5.out.r.frozen 4;have t5:=C5.out.p.cell 5;have e5:=C5.out.r.cell 5;have f5:=C5.out.r.frozen 5;have t6:=C5.out.p.cell 6;have e6:=C5.out.r.cell 6;have f6:=C5.out.r.frozen 6;have t7:=C5.out.p.cell 7;have e7:=C5.out.r.cell 7;have f7:=C5.out.r.frozen 7;have t8:=C5.out.p.cell 8;have e8:=C5.out.r.cell 8;have f8:=C5.out.r.frozen 8;have t9:=C5.out.p.cell 9;have e9:=C5.out.r.cell 9;have f9:=C5.out.r.frozen 9;have t10:=C5.out.p.cell 10;have e10:=C5.out.r.cell 10;have f10:=C5.out.r.frozen 10;have t11:=C5.out.p.cell 11;have e11:=C5.out.r.cell 11;have f11:=C5.out.r.frozen 11;have t12:=C5.out.p.cell 12;have e12:=C5.out.r.cell 12;have f12:=C5.out.r.frozen 12;have t13:=C5.out.p.cell 13;have e13:=C5.out.r.cell 13;have f13:=C5.out.r.frozen 13;simp only [gz_,gs_] at t0 e0 t1 e1 t2 e2 t3 e3 t4 e4 t5 e5 t6 e6 t7 e7 t8 e8 t9 e9 t10 e10 t11 e11 t12 e12 t13 e13) | (at_builtin;(try rw [hS3]);refine Z_ _ rfl _ _ rfl S3.heap.size _ _ [] ts rfl rfl (T_ S3 S3.heap.size (nr_ _)) ((HRt.out S3 C3.out.b).below ((br_ S3.heap.size S3).alloc (nr_ _) (.cells #[] 59)) (nr_ _)) (by simp;omega) (by simp) ?_;intro u4 w4 o4 hb4;rw [List.nil_append] at o4;obtain ⟨a4,c4,rfl⟩:=o4.rd.shape;have h4:=(((br_ S3.heap.size S3).alloc (nr_ _) (.cells #[] 59))).trans hb4;have kp:=C3.out.p.below h4 C3.out.p.lt;have y10:=kp.cell 10;have g10:=kp.frozen 10;simp only [gz_,gs_] at y10;obtain ⟨S4,hS4⟩:∃ x,w4.setCell ⟨w.heap.size,10,none⟩ (.slice a4 ts.length c4)=x:=⟨_,rfl⟩;have C4:=a_ (show Cp w S4 [.int .i64 id,.int .i64 ep,.int .i64 rd,.string md,.int .i64 qr,.int .i64 qb,.slice a1 qw.length c1,.int .i64 tr,.slice a2 tw.length c2,.slice a3 th.length c3,.slice a4 ts.length c4,.bool en,.slice an nx.length cn,.string rt] from by rw [<- hS4];exact C3.out.step h4 10 _);have P4:=a_ (show Oth (fun g=>g=w.heap.size) S3 S4 from by rw [<- hS4];exact bS_ h4 10 _);have O4:=a_ (show OwnT S3.heap.size S4 (.slice a4 ts.length c4) ts from by rw [<- hS4];exact p_ o4 w.heap.size 10 _ (fun k hk e=>by have:=(World.ownsRow.lt o4 k hk).1;have:=C3.out.lt;omega));clear kp o4 hb4 h4;have x12:=(C4.out.p.below ((br_ S4.heap.size S4).alloc (nr_ _) (.cells #[] 152)) C4.out.p.lt).cell 12;simp only [gz_,gs_] at x12))
 have hb0:=C0.out.lt
 have F1:=a_ (((show OwnS S0.heap.size S5 (.slice a1 qw.length c1) qw from (g_ (g_ (g_ O1.out P3.out (fun k hk e=>by have:=(World.ownsRow.lt O1.out k hk).1;have:=C0.out.lt;omega)) P4.out (fun k hk e=>by have:=(World.ownsRow.lt O1.out k hk).1;have:=C0.out.lt;omega)) P5.out (fun k hk e=>by have:=(World.ownsRow.lt O1.out k hk).1;have:=C0.out.lt;omega))).put14 (g:=w.heap.size+1) (by have:=C0.out.lt;omega) (.int .i64 id) (.int .i64 ep) (.int .i64 rd) (.string md) (.int .i64 qr) (.int .i64 qb) (.slice a1 qw.length c1) (.int .i64 tr) (.slice a2 tw.length c2) (.slice a3 th.length c3) (.slice a4 ts.length c4) (.bool en) (.slice a5 nx.length c5) (.string rt)).mono (show w.heap.size<=S0.heap.size by have:=C0.out.lt;omega))
 have F2:=a_ (((show OwnS S1.heap.size S5 (.slice a2 tw.length c2) tw from (g_ (g_ O2.out P4.out (fun k hk e=>by have:=(World.ownsRow.lt O2.out k hk).1;have:=C1.out.lt;omega)) P5.out (fun k hk e=>by have:=(World.ownsRow.lt O2.out k hk).1;have:=C1.out.lt;omega))).put14 (g:=w.heap.size+1) (by have:=C1.out.lt;omega) (.int .i64 id) (.int .i64 ep) (.int .i64 rd) (.string md) (.int .i64 qr) (.int .i64 qb) (.slice a1 qw.length c1) (.int .i64 tr) (.slice a2 tw.length c2) (.slice a3 th.length c3) (.slice a4 ts.length c4) (.bool en) (.slice a5 nx.length c5) (.string rt)).mono (show w.heap.size<=S1.heap.size by have:=C1.out.lt;omega))
 have F3:=a_ (((show OwnI S1.heap.size S5 (.slice a3 th.length c3) th from (g_ (g_ O3.out P4.out (fun k hk e=>by have:=(World.ownsRow.lt O3.out k hk).1;have:=C1.out.lt;omega)) P5.out (fun k hk e=>by have:=(World.ownsRow.lt O3.out k hk).1;have:=C1.out.lt;omega))).put14 (g:=w.heap.size+1) (by have:=C1.out.lt;omega) (.int .i64 id) (.int .i64 ep) (.int .i64 rd) (.string md) (.int .i64 qr) (.int .i64 qb) (.slice a1 qw.length c1) (.int .i64 tr) (.slice a2 tw.length c2) (.slice a3 th.length c3) (.slice a4 ts.length c4) (.bool en) (.slice a5 nx.length c5) (.string rt)).mono (show w.heap.size<=S1.heap.size by have:=C1.out.lt;omega))
 have F4:=a_ (((show OwnT S3.heap.size S5 (.slice a4 ts.length c4) ts from (g_ O4.out P5.out (fun k hk e=>by have:=(World.ownsRow.lt O4.out k hk).1;have:=C3.out.lt;omega))).put14 (g:=w.heap.size+1) (by have:=C3.out.lt;omega) (.int .i64 id) (.int .i64 ep) (.int .i64 rd) (.string md) (.int .i64 qr) (.int .i64 qb) (.slice a1 qw.length c1) (.int .i64 tr) (.slice a2 tw.length c2) (.slice a3 th.length c3) (.slice a4 ts.length c4) (.bool en) (.slice a5 nx.length c5) (.string rt)).mono (show w.heap.size<=S3.heap.size by have:=C3.out.lt;omega))
 have F5:=a_ (((show OwnV S4.heap.size S5 (.slice a5 nx.length c5) nx from O5.out).put14 (g:=w.heap.size+1) (by have:=C4.out.lt;omega) (.int .i64 id) (.int .i64 ep) (.int .i64 rd) (.string md) (.int .i64 qr) (.int .i64 qb) (.slice a1 qw.length c1) (.int .i64 tr) (.slice a2 tw.length c2) (.slice a3 th.length c3) (.slice a4 ts.length c4) (.bool en) (.slice a5 nx.length c5) (.string rt)).mono (show w.heap.size<=S4.heap.size by have:=C4.out.lt;omega))
 have FB:=a_ (C5.out.b.trans ((aS_ S5 (w.heap.size+1) (.int .i64 id) (.int .i64 ep) (.int .i64 rd) (.string md) (.int .i64 qr) (.int .i64 qb) (.slice a1 qw.length c1) (.int .i64 tr) (.slice a2 tw.length c2) (.slice a3 th.length c3) (.slice a4 ts.length c4) (.bool en) (.slice a5 nx.length c5) (.string rt)).mono (by omega)))
 have Hne:Hid (∀ g,(Value.slice a1 qw.length c1).ownBlock=some g->(Value.slice a2 tw.length c2).ownBlock ≠ some g):=a_ (fun g h1 h2=>by have q1:=(World.ownsRow.lt O1.out g h1).2;have q2:=(World.ownsRow.lt O2.out g h2).1;omega)
 refine bodyPost_ret (v:=.agg #[.int .i64 id,.int .i64 ep,.int .i64 rd,.string md,.int .i64 qr,.int .i64 qb,.slice a1 qw.length c1,.int .i64 tr,.slice a2 tw.length c2,.slice a3 th.length c3,.slice a4 ts.length c4,.bool en,.slice a5 nx.length c5,.string rt]) (by simp [results,Tryz.f123,go_sem,e0,e1,e2,e3,e4,e5,e6,e7,e8,e9,e10,e11,e12,e13]) rfl ?_
 exact ⟨⟨_,_,_,_,_⟩,rfl,⟨F1.out,F2.out,F3.out,F4.out,F5.out⟩,Hne.out,FB.out⟩
def okP (l:List Bk) (i:Nat) (h:i < l.length):Prop :=
 blB l[i]=true/\l[i].ep=(l[0]'(by omega)).ep/\(0 < i->(l[i - 1]'(by omega)).id < l[i].id) /\
  (rootB l[i].qr l[i].qb l[i].qw=true\/∃ k,∃ hk:k < i,(l[k]'(by omega)).id=l[i].qb/\(l[k]'(by omega)).rd=l[i].qr)
def treeP (l:List Bk):Prop:=l.length<=400/\∀ i (h:i < l.length),okP l i h
def okD (l:List Bk) (i:Nat) (h:i < l.length):Decidable (okP l i h):=by unfold okP;exact inferInstance
def treeD (l:List Bk):Decidable (treeP l):=@instDecidableAnd _ _ _ (@Nat.decidableBallLT l.length (okP l) (okD l))
def treeB (l:List Bk):Bool:=@decide (treeP l) (treeD l)
theorem bL_ {l:List Bk} (h:treeP l):treeB l=true:=by unfold treeB;exact @decide_eq_true _ (treeD l) h
theorem gb_ {l:List Bk} (h:¬ treeP l):treeB l=false:=by unfold treeB;exact @decide_eq_false _ (treeD l) h
theorem jY_ {l:List Bk} (h:treeB l=true):treeP l:=by unfold treeB at h;exact @of_decide_eq_true _ (treeD l) h
theorem gi_ {l:List Bk} {i:Nat} (hi:i < l.length) (h:¬ okP l i hi):treeB l=false:=gb_ (fun t=>h (t.2 i hi))
theorem gd_ {l:List Bk} (h:400 < l.length):treeB l=false:=gb_ (fun t=>by have:=t.1;omega)
def AscP (l:List Bk) (n:Nat):Prop:=∀ a b (ha:a < l.length) (hb:b < l.length),a < b->b < n->l[a].id < l[b].id
theorem ig_ {l:List Bk} {n:Nat} (h:∀ i (hi:i < l.length),i < n->okP l i hi):AscP l n:=by
 intro a b ha hb hab hbn
 induction b with
 | zero=>omega
 | succ b ih =>
  have hk:=(h (b+1) hb hbn).2.2.1 (by omega)
  simp only [Nat.add_sub_cancel] at hk
  by_cases e:a=b
  ·subst e;exact hk
  ·have:=ih (by omega) (by omega) (by omega)
   omega
theorem AscP.one {l:List Bk} {n:Nat} (h:AscP l n) {a b:Nat} (ha:a < l.length) (hb:b < l.length) (han:a < n) (hbn:b < n) (e:l[a].id=l[b].id):a=b:=by
 by_cases h1:a < b
 ·have:=h a b ha hb h1 hbn;omega
 ·by_cases h2:b < a
  ·have:=h b a hb ha h2 han;omega
  ·omega
def AtR (l:List Bk) (id r:Int):Prop :=
 (r=-1/\∀ j (h:j < l.length),l[j].id ≠ id)\/∃ j,∃ h:j < l.length,r=(j:Int)/\l[j].id=id/\∀ i (h2:i < l.length),i < j->l[i].id ≠ id
theorem AtR.one {l:List Bk} {id r s:Int} (h:AtR l id r) (k:AtR l id s):r=s:=by
 rcases h with ⟨rfl,h⟩ | ⟨i,hi,rfl,e,h⟩ <;> rcases k with ⟨rfl,k⟩ | ⟨j,hj,rfl,f,k⟩
 ·rfl
 ·exact absurd f (h j hj)
 ·exact absurd e (k i hi)
 ·by_cases h1:i < j
  ·exact absurd e (k i hi h1)
  ·by_cases h2:j < i
   ·exact absurd f (h j hj h2)
   ·omega
def atI:List Bk->Int->Int
 | [],_=>-1
 | b :: l,id=>if b.id=id then 0 else if atI l id=-1 then -1 else atI l id+1
theorem ii_ (l:List Bk) (id:Int):AtR l id (atI l id):=by
 induction l with
 | nil=>exact .inl ⟨rfl,fun j h=>by simp at h⟩
 | cons b l ih =>
  unfold atI
  by_cases e:b.id=id
  ·rw [if_pos e];exact .inr ⟨0,by simp,rfl,e,fun i _ h=>by omega⟩
  ·rw [if_neg e]
   obtain ⟨h1,h⟩ | ⟨j,hj,h1,f,h⟩:=ih
   ·rw [h1,if_pos rfl]
    refine .inl ⟨rfl,fun j hj=>?_⟩
    cases j with
    | zero=>exact e
    | succ j=>exact h j (by simpa using hj)
   ·rw [h1,if_neg (by omega)]
    refine .inr ⟨j+1,by simpa using hj,by omega,f,fun i hi hij=>?_⟩
    cases i with
    | zero=>exact e
    | succ i=>exact h i (by simpa using hi) (by omega)
theorem fw_ {l:List Bk} {id r:Int} (h:AtR l id r):atI l id=r:=(ii_ l id).one h
theorem ok_by {l:List Bk} {i:Nat} (hi:i < l.length) (hasc:AscP l i) (hB:blB l[i]=true) (hE:l[i].ep=(l[0]'(by omega)).ep) (hP:0 < i->(l[i - 1]'(by omega)).id < l[i].id)
  (hn:rootB l[i].qr l[i].qb l[i].qw=false) {r:Int} (hr:AtR (l.take i) l[i].qb r):okP l i hi ↔ ∃ k,∃ hk:k < i,r=(k:Int)/\(l[k]'(by omega)).rd=l[i].qr:=by
 constructor
 ·rintro ⟨_,_,_,h | ⟨k,hk,e,f⟩⟩
  ·rw [hn] at h;cases h
  ·rcases hr with ⟨rfl,h⟩ | ⟨j,hj,rfl,g,h⟩
   ·exact absurd (by rw [List.getElem_take];exact e) (h k (by simp;omega))
   ·have hj2:j < i:=by simp at hj;omega
    have:j=k:=hasc.one (by omega) (by omega) hj2 hk (by rw [e];simpa using g)
    subst this
    exact ⟨j,hj2,rfl,f⟩
 ·rintro ⟨k,hk,rfl,f⟩
  refine ⟨hB,hE,hP,.inr ⟨k,hk,?_,f⟩⟩
  rcases hr with ⟨h,_⟩ | ⟨j,hj,e,g,_⟩
  ·omega
  ·obtain rfl:k=j:=by omega
   simpa using g
theorem RdKs.take {w:World} {a:Option Addr} {cap:Nat} {l:List Bk} (h:RdKs w (.slice a l.length cap) l) (k:Nat) (hk:k<=l.length):RdKs w (.slice a k cap) (l.take k):=by
 rcases h with ⟨a',cap',e,rfl,hn⟩ | ⟨b,off,cap',h0,e,h1,h2,h3,h4⟩
 ·simp only [Value.slice.injEq] at e
  obtain ⟨rfl,-,rfl⟩:=e
  obtain rfl:k=0:=by simpa using hk
  exact .inl ⟨_,_,rfl,rfl,hn⟩
 ·simp only [Value.slice.injEq] at e
  obtain ⟨rfl,-,rfl⟩:=e
  by_cases hz:k=0
  ·subst hz;exact .inl ⟨_,_,rfl,by simp,fun h=>by cases h⟩
  ·have hl:(l.take k).length=k:=by simp;omega
   refine .inr ⟨b,off,cap,?_,by rw [hl],by omega,h2,h3,fun i hi=>?_⟩
   ·intro e;rw [e] at hl;simp at hl;omega
   ·rw [hl] at hi
    obtain ⟨bv,p,q⟩:=h4 i (by omega)
    exact ⟨bv,by simpa using p,by simpa using q⟩
theorem hV_ (v:Value) (l:List Bk) (id:Int) (w:World) (hr:RdKs w v l) (hl:l.length<=4000000) :
  Calls Tryz.prog 128 #[v,.int .i64 id] w fun e w'=>e=.returned (.int .i64 (atI l id))/\w'=w:=by
 rcases hr with ⟨a,cap,rfl,rfl,-⟩ | ⟨b,off,cap,h0,rfl,h1,h2,h3,h4⟩
 ·have HX:=a_ (fw_ (l:=[]) (id:=id) (.inl ⟨rfl,fun j h=>by simp at h⟩))
  go_enter Tryz.func128,Tryz.ntmps128
  go_wp2
  refine wp_loop_rounds 1 ?_
  rw [rounds_succ]
  go_wp2
  go_ret
  exact ⟨h_ HX.out.symm,rfl⟩
 ·have H4 := a_ h4
  clear h4 h0
  go_enter Tryz.func128,Tryz.ntmps128
  go_wp2
  go_loopw [5] (fun i wr=>∃ k:Nat,k<=l.length/\i=.int .i64 k/\(∀ j (h:j < l.length),j < k->l[j].id ≠ id)/\wr=w) (fun i _=>l.length - (intOf i).toNat)
  case atStart=>exact ⟨0,Nat.zero_le _,rfl,fun j _ h=>by omega,rfl⟩
  case round =>
   obtain ⟨k,hk,rfl,hno,rfl⟩:=hrel
   have Hno:=a_ hno
   clear hno
   by_cases hlt:k < l.length
   ·obtain ⟨lv,hat,-⟩:=H4.out k hlt
    have c0:=hat.cells.1
    clear hat
    have hli:(k:Int) < (l.length:Int):=by omega
    by_cases he:l[k].id=id
    ·have HX:=a_ (fw_ (l:=l) (id:=id) (.inr ⟨k,hlt,rfl,he,Hno.out⟩))
     rw [he] at c0
     clear he
     go_wp2
     go_ret
     exact ⟨h_ HX.out.symm,rfl⟩
    ·have HY:Hid (∀ j (h:j < l.length),j < k+1->l[j].id ≠ id):=a_ (fun j h hj=>by
      by_cases e:j=k
      ·subst e;exact he
      ·exact Hno.out j h (by omega))
     generalize l[k].id=d at c0 he
     go_wp2
     go_roundw
     case rel=>exact ⟨k+1,by omega,by go_num,HY.out,by first | trivial | rfl⟩
     case measure=>simp [intOf];omega
   ·have HX:=a_ (fw_ (l:=l) (id:=id) (.inl ⟨rfl,fun j h=>Hno.out j h (by omega)⟩))
    go_wp2
    go_ret
    exact ⟨h_ HX.out.symm,rfl⟩
end Go.Proofs.YtamljhcmiphdgaaGreatDoor
