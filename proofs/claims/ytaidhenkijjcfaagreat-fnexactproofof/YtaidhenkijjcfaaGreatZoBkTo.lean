/- Blocks made anew by the laws. -/
import Derived.Test.YtaidhenkijjcfaaGreatZoVsOk
set_option maxRecDepth 20000
set_option maxHeartbeats 1000000
namespace Go.Proofs.YtaidhenkijjcfaaGreat
open Go.RowKit
set_option linter.unusedVariables false
structure Bk where
  id:Int
  ep:Int
  rd:Int
  md:ByteArray
  qr:Int
  qb:Int
  qw:List ByteArray
  tr:Int
  tw:List ByteArray
  th:List Int
  ts:List Tx5
  en:Bool
  nx:List Vl
  rt:ByteArray
structure Bv where
  q:Value
  w:Value
  h:Value
  t:Value
  n:Value
def bkC (b:Bk) (v:Bv):List Value:=[.int .i64 b.id,.int .i64 b.ep,.int .i64 b.rd,.string b.md,.int .i64 b.qr,.int .i64 b.qb,v.q,.int .i64 b.tr,v.w,v.h,v.t,.bool b.en,v.n,.string b.rt]
def bkV (b:Bk) (v:Bv):Value:=.agg #[.int .i64 b.id,.int .i64 b.ep,.int .i64 b.rd,.string b.md,.int .i64 b.qr,.int .i64 b.qb,v.q,.int .i64 b.tr,v.w,v.h,v.t,.bool b.en,v.n,.string b.rt]
structure RdK (w:World) (b:Bk) (v:Bv):Prop where
  q:RdS w v.q b.qw
  p:RdS w v.w b.tw
  h:RdI w v.h b.th
  t:RdT w v.t b.ts
  n:RdV w v.n b.nx
theorem RdK.below {B:Nat} {w w':World} {b:Bk} {v:Bv} (h:RdK w b v) (hb:Below B w w') (hB:w.heap.size<=B):RdK w' b v :=
  ⟨h.q.below hb hB,h.p.below hb hB,h.h.below hb hB,h.t.below hb hB,h.n.below hb hB⟩
structure FewK (b:Bk):Prop where
  q:b.qw.length<=4000000
  w:b.tw.length<=4000000
  h:b.th.length<=4000000
  t:b.ts.length<=4000000
  n:b.nx.length<=4000000
  qs:∀ s ∈ b.qw,s.size<=maxLen
  ws:∀ s ∈ b.tw,s.size<=maxLen
  ts:∀ t ∈ b.ts,t.2.1.size<=maxLen/\t.2.2.1.size<=maxLen
  ns:∀ p ∈ b.nx,p.1.size<=maxLen
  ms:b.md.size<=maxLen
  rs:b.rt.size<=maxLen
def q9B (b:Bk):Bool:=rootB b.qr b.qb b.qw || (inB b.qr 1 (wrap64 (b.rd - 1)) && (inB b.qb 0 (wrap64 (b.id - 1)) && nmsB b.qw))
def t9B (b:Bk):Bool:=noneB b.tr b.tw b.th || (inB b.tr 1 (wrap64 (b.rd - 1)) && (nmsB b.tw && (decide (b.th.length=b.tw.length) && hisB b.tr b.th)))
def e9B (b:Bk):Bool:=if b.en=true then setB b.nx && decide (b.rt.size=32) else decide (b.nx.length=0) && decide (b.rt=⟨#[]⟩)
def blB (b:Bk):Bool:=inB b.id 0 100000 && (inB b.ep 0 900 && (inB b.rd 1 10000 && (nmB b.md && (q9B b && (t9B b && (decide (b.ts.length<=4) && (b.ts.all txB && e9B b)))))))
theorem toQc_any (r b:Int) (vw:Value) (ws:List ByteArray) (w:World) (hrw:RdS w vw ws) (hlw:ws.length<=4000000) :
    Calls Tryz.prog 39 #[qcV r b vw] w fun en w'=>∃ vw',en=.returned (qcV r b vw')/\OwnS w.heap.size w' vw' ws/\Below w.heap.size w w':=by
  obtain ⟨aw,cw,rfl⟩:=hrw.shape
  have Hrw:=hide hrw
  clear hrw
  simp only [qcV] at *
  go_enter Tryz.func39,Tryz.ntmps39
  go_wp2_with fail
  obtain ⟨w3,hw3⟩:∃ x,((w.alloc (.cells #[.int .i64 r,.int .i64 b,.slice aw ws.length cw] 28)).alloc (.cells #[.int .i64 0,.int .i64 0,.slice none 0 0] 40)).alloc (.cells #[.int .i64 r,.int .i64 b,.slice none 0 0] 40)=x:=⟨_,rfl⟩
  rw [hw3]
  have hb3:Below w.heap.size w w3:=by rw [<- hw3];exact (((Below.refl _ w).alloc (Nat.le_refl _) _).alloc (by simp) _).alloc (by simp;omega) _
  have hs3:w3.heap.size=w.heap.size+3:=by rw [<- hw3];simp
  have kO:Blk w3 (w.heap.size+2) 40 [.int .i64 r,.int .i64 b,.slice none 0 0]:=by rw [<- hw3];exact Blk.newR _ _ [.int .i64 r,.int .i64 b,.slice none 0 0] _ (by simp)
  have kR:Blk w3 (w.heap.size+1) 40 [.int .i64 0,.int .i64 0,.slice none 0 0]:=by rw [<- hw3];exact (Blk.newR _ _ [.int .i64 0,.int .i64 0,.slice none 0 0] _ (by simp)).below ((Below.refl (w.heap.size+2) _).alloc (by simp) _) (by omega)
  refine (toStringS_any _ ws _ (Hrw.out.below hb3 (Nat.le_refl _)) hlw).mono ?_
  rintro en w4 ⟨v4,rfl,o4,hb4⟩
  obtain ⟨a4,c4,rfl⟩:=o4.rd.shape
  have hs4:=hb4.size
  have kO4:=kO.below hb4 (by omega)
  have kR4:=kR.below hb4 (by omega)
  have hB4:=hb3.trans (hb4.mono hb3.size)
  have g2:=kO4.frozen 2
  have x2:=kO4.cell 2
  have kO5:=kO4.setC 2 (.slice a4 ws.length c4)
  have kR5:=kR4.otherC (w.heap.size+2) 2 (.slice a4 ws.length c4) (by omega)
  have t0:=kO5.cell 0
  have t1:=kO5.cell 1
  have t2:=kO5.cell 2
  have e0:=kR5.cell 0
  have e1:=kR5.cell 1
  have e2:=kR5.cell 2
  have f0:=kR5.frozen 0
  have f1:=kR5.frozen 1
  have f2:=kR5.frozen 2
  simp only [List.set_cons_zero,List.set_cons_succ,List.getElem?_cons_zero,List.getElem?_cons_succ] at x2 t0 t1 t2 e0 e1 e2
  have HO:=hide (((((o4.olderC (g:=w.heap.size+2) (by omega) 2 (.slice a4 ws.length c4)).olderC (g:=w.heap.size+1) (by omega) 0 (.int .i64 r)).olderC (g:=w.heap.size+1) (by omega) 1 (.int .i64 b)).olderC (g:=w.heap.size+1) (by omega) 2 (.slice a4 ws.length c4)).mono (show w.heap.size<=w3.heap.size by omega))
  have HB:=hide ((((hB4.setCell (p:=⟨w.heap.size+2,2,none⟩) (show w.heap.size<=w.heap.size+2 by omega) (.slice a4 ws.length c4)).setCell (p:=⟨w.heap.size+1,0,none⟩) (show w.heap.size<=w.heap.size+1 by omega) (.int .i64 r)).setCell (p:=⟨w.heap.size+1,1,none⟩) (show w.heap.size<=w.heap.size+1 by omega) (.int .i64 b)).setCell (p:=⟨w.heap.size+1,2,none⟩) (show w.heap.size<=w.heap.size+1 by omega) (.slice a4 ws.length c4))
  clear o4 hb4 kO kR kO4 kR4 kO5 kR5 hB4 hb3 hw3 hs3 hs4
  go_wp2
  refine bodyPost_ret (v:=.agg #[.int .i64 r,.int .i64 b,.slice a4 ws.length c4]) (by simp [results,Tryz.f39,go_sem,e0,e1,e2]) rfl ?_
  exact ⟨_,rfl,HO.out,HB.out⟩
theorem OwnT.olderC {base:Nat} {w:World} {v:Value} {l:List Tx5} (h:OwnT base w v l) {g:Nat} (hg:g < base) (j:Nat) (u:Value):OwnT base (w.setCell ⟨g,j,none⟩ u) v l :=
  World.ownsRow.kept h (grown_set w g j u) (.inr fun e=>by have:=(h.lt g e).1;omega)
theorem OwnV.olderC {base:Nat} {w:World} {v:Value} {l:List Vl} (h:OwnV base w v l) {g:Nat} (hg:g < base) (j:Nat) (u:Value):OwnV base (w.setCell ⟨g,j,none⟩ u) v l :=
  World.ownsRow.kept h (grown_set w g j u) (.inr fun e=>by have:=h.ge g e;omega)
theorem OwnT.mono {base base':Nat} {w:World} {v:Value} {l:List Tx5} (h:OwnT base w v l) (hB:base'<=base):OwnT base' w v l:=by
  refine ⟨h.1,?_⟩
  rcases h.2 with h2 | ⟨g,cap,cur,e,hb,r⟩
  · exact .inl h2
  · exact .inr ⟨g,cap,cur,e,Nat.le_trans hB hb,r⟩
theorem OwnS.put14 {base:Nat} {w:World} {v:Value} {l:List ByteArray} (h:OwnS base w v l) {g:Nat} (hg:g < base) (y0 y1 y2 y3 y4 y5 y6 y7 y8 y9 y10 y11 y12 y13:Value):OwnS base (((((((((((((((w).setCell ⟨g,0,none⟩ (y0)).setCell ⟨g,1,none⟩ (y1)).setCell ⟨g,2,none⟩ (y2)).setCell ⟨g,3,none⟩ (y3)).setCell ⟨g,4,none⟩ (y4)).setCell ⟨g,5,none⟩ (y5)).setCell ⟨g,6,none⟩ (y6)).setCell ⟨g,7,none⟩ (y7)).setCell ⟨g,8,none⟩ (y8)).setCell ⟨g,9,none⟩ (y9)).setCell ⟨g,10,none⟩ (y10)).setCell ⟨g,11,none⟩ (y11)).setCell ⟨g,12,none⟩ (y12)).setCell ⟨g,13,none⟩ (y13)) v l:=(((((((((((((h.olderC hg 0 y0).olderC hg 1 y1).olderC hg 2 y2).olderC hg 3 y3).olderC hg 4 y4).olderC hg 5 y5).olderC hg 6 y6).olderC hg 7 y7).olderC hg 8 y8).olderC hg 9 y9).olderC hg 10 y10).olderC hg 11 y11).olderC hg 12 y12).olderC hg 13 y13
theorem OwnI.put14 {base:Nat} {w:World} {v:Value} {l:List Int} (h:OwnI base w v l) {g:Nat} (hg:g < base) (y0 y1 y2 y3 y4 y5 y6 y7 y8 y9 y10 y11 y12 y13:Value):OwnI base (((((((((((((((w).setCell ⟨g,0,none⟩ (y0)).setCell ⟨g,1,none⟩ (y1)).setCell ⟨g,2,none⟩ (y2)).setCell ⟨g,3,none⟩ (y3)).setCell ⟨g,4,none⟩ (y4)).setCell ⟨g,5,none⟩ (y5)).setCell ⟨g,6,none⟩ (y6)).setCell ⟨g,7,none⟩ (y7)).setCell ⟨g,8,none⟩ (y8)).setCell ⟨g,9,none⟩ (y9)).setCell ⟨g,10,none⟩ (y10)).setCell ⟨g,11,none⟩ (y11)).setCell ⟨g,12,none⟩ (y12)).setCell ⟨g,13,none⟩ (y13)) v l:=(((((((((((((h.olderC hg 0 y0).olderC hg 1 y1).olderC hg 2 y2).olderC hg 3 y3).olderC hg 4 y4).olderC hg 5 y5).olderC hg 6 y6).olderC hg 7 y7).olderC hg 8 y8).olderC hg 9 y9).olderC hg 10 y10).olderC hg 11 y11).olderC hg 12 y12).olderC hg 13 y13
theorem OwnT.put14 {base:Nat} {w:World} {v:Value} {l:List Tx5} (h:OwnT base w v l) {g:Nat} (hg:g < base) (y0 y1 y2 y3 y4 y5 y6 y7 y8 y9 y10 y11 y12 y13:Value):OwnT base (((((((((((((((w).setCell ⟨g,0,none⟩ (y0)).setCell ⟨g,1,none⟩ (y1)).setCell ⟨g,2,none⟩ (y2)).setCell ⟨g,3,none⟩ (y3)).setCell ⟨g,4,none⟩ (y4)).setCell ⟨g,5,none⟩ (y5)).setCell ⟨g,6,none⟩ (y6)).setCell ⟨g,7,none⟩ (y7)).setCell ⟨g,8,none⟩ (y8)).setCell ⟨g,9,none⟩ (y9)).setCell ⟨g,10,none⟩ (y10)).setCell ⟨g,11,none⟩ (y11)).setCell ⟨g,12,none⟩ (y12)).setCell ⟨g,13,none⟩ (y13)) v l:=(((((((((((((h.olderC hg 0 y0).olderC hg 1 y1).olderC hg 2 y2).olderC hg 3 y3).olderC hg 4 y4).olderC hg 5 y5).olderC hg 6 y6).olderC hg 7 y7).olderC hg 8 y8).olderC hg 9 y9).olderC hg 10 y10).olderC hg 11 y11).olderC hg 12 y12).olderC hg 13 y13
theorem OwnV.put14 {base:Nat} {w:World} {v:Value} {l:List Vl} (h:OwnV base w v l) {g:Nat} (hg:g < base) (y0 y1 y2 y3 y4 y5 y6 y7 y8 y9 y10 y11 y12 y13:Value):OwnV base (((((((((((((((w).setCell ⟨g,0,none⟩ (y0)).setCell ⟨g,1,none⟩ (y1)).setCell ⟨g,2,none⟩ (y2)).setCell ⟨g,3,none⟩ (y3)).setCell ⟨g,4,none⟩ (y4)).setCell ⟨g,5,none⟩ (y5)).setCell ⟨g,6,none⟩ (y6)).setCell ⟨g,7,none⟩ (y7)).setCell ⟨g,8,none⟩ (y8)).setCell ⟨g,9,none⟩ (y9)).setCell ⟨g,10,none⟩ (y10)).setCell ⟨g,11,none⟩ (y11)).setCell ⟨g,12,none⟩ (y12)).setCell ⟨g,13,none⟩ (y13)) v l:=(((((((((((((h.olderC hg 0 y0).olderC hg 1 y1).olderC hg 2 y2).olderC hg 3 y3).olderC hg 4 y4).olderC hg 5 y5).olderC hg 6 y6).olderC hg 7 y7).olderC hg 8 y8).olderC hg 9 y9).olderC hg 10 y10).olderC hg 11 y11).olderC hg 12 y12).olderC hg 13 y13
theorem below_put14 (W:World) (g:Nat) (y0 y1 y2 y3 y4 y5 y6 y7 y8 y9 y10 y11 y12 y13:Value):Below g W (((((((((((((((W).setCell ⟨g,0,none⟩ (y0)).setCell ⟨g,1,none⟩ (y1)).setCell ⟨g,2,none⟩ (y2)).setCell ⟨g,3,none⟩ (y3)).setCell ⟨g,4,none⟩ (y4)).setCell ⟨g,5,none⟩ (y5)).setCell ⟨g,6,none⟩ (y6)).setCell ⟨g,7,none⟩ (y7)).setCell ⟨g,8,none⟩ (y8)).setCell ⟨g,9,none⟩ (y9)).setCell ⟨g,10,none⟩ (y10)).setCell ⟨g,11,none⟩ (y11)).setCell ⟨g,12,none⟩ (y12)).setCell ⟨g,13,none⟩ (y13)):=((((((((((((((Below.refl _ W).setCell (p:=⟨g,0,none⟩) (Nat.le_refl _) y0).setCell (p:=⟨g,1,none⟩) (Nat.le_refl _) y1).setCell (p:=⟨g,2,none⟩) (Nat.le_refl _) y2).setCell (p:=⟨g,3,none⟩) (Nat.le_refl _) y3).setCell (p:=⟨g,4,none⟩) (Nat.le_refl _) y4).setCell (p:=⟨g,5,none⟩) (Nat.le_refl _) y5).setCell (p:=⟨g,6,none⟩) (Nat.le_refl _) y6).setCell (p:=⟨g,7,none⟩) (Nat.le_refl _) y7).setCell (p:=⟨g,8,none⟩) (Nat.le_refl _) y8).setCell (p:=⟨g,9,none⟩) (Nat.le_refl _) y9).setCell (p:=⟨g,10,none⟩) (Nat.le_refl _) y10).setCell (p:=⟨g,11,none⟩) (Nat.le_refl _) y11).setCell (p:=⟨g,12,none⟩) (Nat.le_refl _) y12).setCell (p:=⟨g,13,none⟩) (Nat.le_refl _) y13
structure OwnK (base:Nat) (w:World) (b:Bk) (v:Bv):Prop where
  q:OwnS base w v.q b.qw
  p:OwnS base w v.w b.tw
  h:OwnI base w v.h b.th
  t:OwnT base w v.t b.ts
  n:OwnV base w v.n b.nx
theorem OwnK.rd {base:Nat} {w:World} {b:Bk} {v:Bv} (h:OwnK base w b v):RdK w b v:=⟨h.q.rd,h.p.rd,h.h.rd,h.t.rd,h.n.rd⟩
end Go.Proofs.YtaidhenkijjcfaaGreat
