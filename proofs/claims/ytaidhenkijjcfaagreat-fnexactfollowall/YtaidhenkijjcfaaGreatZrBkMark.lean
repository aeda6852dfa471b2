/- Blocks marked. -/
import Derived.Test.YtaidhenkijjcfaaGreatZrBkVal
set_option maxRecDepth 20000
set_option maxHeartbeats 2000000
namespace Go.Proofs.YtaidhenkijjcfaaGreat
open Go.RowKit
set_option linter.unusedVariables false
theorem toQc_any (r b:Int) (vw:Value) (ws:List ByteArray) (w:World) (hrw:RdS w vw ws) (hlw:ws.length<=4000000) :
    Calls Tryz.prog 39 #[qcV r b vw] w fun en w'=>∃ vw',en=.returned (qcV r b vw')/\OwnS w.heap.size w' vw' ws/\Below w.heap.size w w':=by
  obtain ⟨aw,cw,rfl⟩:=hrw.shape
  have Hrw:=hide hrw
  clear hrw
  simp only [qcV] at *
  go_enter Tryz.func39,Tryz.ntmps39
  go_wp2_with fail
  obtain ⟨w3,hw3⟩:∃ x,((w.alloc (.cells #[.int .i64 r,.int .i64 b,.slice aw ws.length cw] 28)).alloc (.cells #[.int .i64 0,.int .i64 0,.slice none 0 0] 40)).alloc (.cells #[.int .i64 r,.int .i64 b,.slice none 0 0] 40)=x:=⟨_,rfl⟩
  rw [hw3]
  have hb3:Below w.heap.size w w3:=by rw [<- hw3];exact (((Below.refl _ w).alloc (Nat.le_refl _) _).alloc (by simp) _).alloc (by simp;omega) _
  have hs3:w3.heap.size=w.heap.size+3:=by rw [<- hw3];simp
  have kO:Blk w3 (w.heap.size+2) 40 [.int .i64 r,.int .i64 b,.slice none 0 0]:=by rw [<- hw3];exact Blk.newR _ _ [.int .i64 r,.int .i64 b,.slice none 0 0] _ (by simp)
  have kR:Blk w3 (w.heap.size+1) 40 [.int .i64 0,.int .i64 0,.slice none 0 0]:=by rw [<- hw3];exact (Blk.newR _ _ [.int .i64 0,.int .i64 0,.slice none 0 0] _ (by simp)).below ((Below.refl (w.heap.size+2) _).alloc (by simp) _) (by omega)
  refine (toStringS_any _ ws _ (Hrw.out.below hb3 (Nat.le_refl _)) hlw).mono ?_
  rintro en w4 ⟨v4,rfl,o4,hb4⟩
  obtain ⟨a4,c4,rfl⟩:=o4.rd.shape
  have hs4:=hb4.size
  have kO4:=kO.below hb4 (by omega)
  have kR4:=kR.below hb4 (by omega)
  have hB4:=hb3.trans (hb4.mono hb3.size)
  have g2:=kO4.frozen 2
  have x2:=kO4.cell 2
  have kO5:=kO4.setC 2 (.slice a4 ws.length c4)
  have kR5:=kR4.otherC (w.heap.size+2) 2 (.slice a4 ws.length c4) (by omega)
  have t0:=kO5.cell 0
  have t1:=kO5.cell 1
  have t2:=kO5.cell 2
  have e0:=kR5.cell 0
  have e1:=kR5.cell 1
  have e2:=kR5.cell 2
  have f0:=kR5.frozen 0
  have f1:=kR5.frozen 1
  have f2:=kR5.frozen 2
  simp only [List.set_cons_zero,List.set_cons_succ,List.getElem?_cons_zero,List.getElem?_cons_succ] at x2 t0 t1 t2 e0 e1 e2
  have HO:=hide (((((o4.olderC (g:=w.heap.size+2) (by omega) 2 (.slice a4 ws.length c4)).olderC (g:=w.heap.size+1) (by omega) 0 (.int .i64 r)).olderC (g:=w.heap.size+1) (by omega) 1 (.int .i64 b)).olderC (g:=w.heap.size+1) (by omega) 2 (.slice a4 ws.length c4)).mono (show w.heap.size<=w3.heap.size by omega))
  have HB:=hide ((((hB4.setCell (p:=⟨w.heap.size+2,2,none⟩) (show w.heap.size<=w.heap.size+2 by omega) (.slice a4 ws.length c4)).setCell (p:=⟨w.heap.size+1,0,none⟩) (show w.heap.size<=w.heap.size+1 by omega) (.int .i64 r)).setCell (p:=⟨w.heap.size+1,1,none⟩) (show w.heap.size<=w.heap.size+1 by omega) (.int .i64 b)).setCell (p:=⟨w.heap.size+1,2,none⟩) (show w.heap.size<=w.heap.size+1 by omega) (.slice a4 ws.length c4))
  clear o4 hb4 kO kR kO4 kR4 kO5 kR5 hB4 hb3 hw3 hs3 hs4
  go_wp2
  refine bodyPost_ret (v:=.agg #[.int .i64 r,.int .i64 b,.slice a4 ws.length c4]) (by simp [results,Tryz.f39,go_sem,e0,e1,e2]) rfl ?_
  exact ⟨_,rfl,HO.out,HB.out⟩
theorem OwnT.olderC {base:Nat} {w:World} {v:Value} {l:List Tx5} (h:OwnT base w v l) {g:Nat} (hg:g < base) (j:Nat) (u:Value):OwnT base (w.setCell ⟨g,j,none⟩ u) v l :=
  World.ownsRow.kept h (grown_set w g j u) (.inr fun e=>by have:=(h.lt g e).1;omega)
theorem OwnV.olderC {base:Nat} {w:World} {v:Value} {l:List Vl} (h:OwnV base w v l) {g:Nat} (hg:g < base) (j:Nat) (u:Value):OwnV base (w.setCell ⟨g,j,none⟩ u) v l :=
  World.ownsRow.kept h (grown_set w g j u) (.inr fun e=>by have:=h.ge g e;omega)
theorem OwnT.mono {base base':Nat} {w:World} {v:Value} {l:List Tx5} (h:OwnT base w v l) (hB:base'<=base):OwnT base' w v l:=by
  refine ⟨h.1,?_⟩
  rcases h.2 with h2 | ⟨g,cap,cur,e,hb,r⟩
  · exact .inl h2
  · exact .inr ⟨g,cap,cur,e,Nat.le_trans hB hb,r⟩
theorem OwnS.put14 {base:Nat} {w:World} {v:Value} {l:List ByteArray} (h:OwnS base w v l) {g:Nat} (hg:g < base) (y0 y1 y2 y3 y4 y5 y6 y7 y8 y9 y10 y11 y12 y13:Value):OwnS base (((((((((((((((w).setCell ⟨g,0,none⟩ (y0)).setCell ⟨g,1,none⟩ (y1)).setCell ⟨g,2,none⟩ (y2)).setCell ⟨g,3,none⟩ (y3)).setCell ⟨g,4,none⟩ (y4)).setCell ⟨g,5,none⟩ (y5)).setCell ⟨g,6,none⟩ (y6)).setCell ⟨g,7,none⟩ (y7)).setCell ⟨g,8,none⟩ (y8)).setCell ⟨g,9,none⟩ (y9)).setCell ⟨g,10,none⟩ (y10)).setCell ⟨g,11,none⟩ (y11)).setCell ⟨g,12,none⟩ (y12)).setCell ⟨g,13,none⟩ (y13)) v l:=(((((((((((((h.olderC hg 0 y0).olderC hg 1 y1).olderC hg 2 y2).olderC hg 3 y3).olderC hg 4 y4).olderC hg 5 y5).olderC hg 6 y6).olderC hg 7 y7).olderC hg 8 y8).olderC hg 9 y9).olderC hg 10 y10).olderC hg 11 y11).olderC hg 12 y12).olderC hg 13 y13
theorem OwnI.put14 {base:Nat} {w:World} {v:Value} {l:List Int} (h:OwnI base w v l) {g:Nat} (hg:g < base) (y0 y1 y2 y3 y4 y5 y6 y7 y8 y9 y10 y11 y12 y13:Value):OwnI base (((((((((((((((w).setCell ⟨g,0,none⟩ (y0)).setCell ⟨g,1,none⟩ (y1)).setCell ⟨g,2,none⟩ (y2)).setCell ⟨g,3,none⟩ (y3)).setCell ⟨g,4,none⟩ (y4)).setCell ⟨g,5,none⟩ (y5)).setCell ⟨g,6,none⟩ (y6)).setCell ⟨g,7,none⟩ (y7)).setCell ⟨g,8,none⟩ (y8)).setCell ⟨g,9,none⟩ (y9)).setCell ⟨g,10,none⟩ (y10)).setCell ⟨g,11,none⟩ (y11)).setCell ⟨g,12,none⟩ (y12)).setCell ⟨g,13,none⟩ (y13)) v l:=(((((((((((((h.olderC hg 0 y0).olderC hg 1 y1).olderC hg 2 y2).olderC hg 3 y3).olderC hg 4 y4).olderC hg 5 y5).olderC hg 6 y6).olderC hg 7 y7).olderC hg 8 y8).olderC hg 9 y9).olderC hg 10 y10).olderC hg 11 y11).olderC hg 12 y12).olderC hg 13 y13
theorem OwnT.put14 {base:Nat} {w:World} {v:Value} {l:List Tx5} (h:OwnT base w v l) {g:Nat} (hg:g < base) (y0 y1 y2 y3 y4 y5 y6 y7 y8 y9 y10 y11 y12 y13:Value):OwnT base (((((((((((((((w).setCell ⟨g,0,none⟩ (y0)).setCell ⟨g,1,none⟩ (y1)).setCell ⟨g,2,none⟩ (y2)).setCell ⟨g,3,none⟩ (y3)).setCell ⟨g,4,none⟩ (y4)).setCell ⟨g,5,none⟩ (y5)).setCell ⟨g,6,none⟩ (y6)).setCell ⟨g,7,none⟩ (y7)).setCell ⟨g,8,none⟩ (y8)).setCell ⟨g,9,none⟩ (y9)).setCell ⟨g,10,none⟩ (y10)).setCell ⟨g,11,none⟩ (y11)).setCell ⟨g,12,none⟩ (y12)).setCell ⟨g,13,none⟩ (y13)) v l:=(((((((((((((h.olderC hg 0 y0).olderC hg 1 y1).olderC hg 2 y2).olderC hg 3 y3).olderC hg 4 y4).olderC hg 5 y5).olderC hg 6 y6).olderC hg 7 y7).olderC hg 8 y8).olderC hg 9 y9).olderC hg 10 y10).olderC hg 11 y11).olderC hg 12 y12).olderC hg 13 y13
theorem OwnV.put14 {base:Nat} {w:World} {v:Value} {l:List Vl} (h:OwnV base w v l) {g:Nat} (hg:g < base) (y0 y1 y2 y3 y4 y5 y6 y7 y8 y9 y10 y11 y12 y13:Value):OwnV base (((((((((((((((w).setCell ⟨g,0,none⟩ (y0)).setCell ⟨g,1,none⟩ (y1)).setCell ⟨g,2,none⟩ (y2)).setCell ⟨g,3,none⟩ (y3)).setCell ⟨g,4,none⟩ (y4)).setCell ⟨g,5,none⟩ (y5)).setCell ⟨g,6,none⟩ (y6)).setCell ⟨g,7,none⟩ (y7)).setCell ⟨g,8,none⟩ (y8)).setCell ⟨g,9,none⟩ (y9)).setCell ⟨g,10,none⟩ (y10)).setCell ⟨g,11,none⟩ (y11)).setCell ⟨g,12,none⟩ (y12)).setCell ⟨g,13,none⟩ (y13)) v l:=(((((((((((((h.olderC hg 0 y0).olderC hg 1 y1).olderC hg 2 y2).olderC hg 3 y3).olderC hg 4 y4).olderC hg 5 y5).olderC hg 6 y6).olderC hg 7 y7).olderC hg 8 y8).olderC hg 9 y9).olderC hg 10 y10).olderC hg 11 y11).olderC hg 12 y12).olderC hg 13 y13
theorem below_put14 (W:World) (g:Nat) (y0 y1 y2 y3 y4 y5 y6 y7 y8 y9 y10 y11 y12 y13:Value):Below g W (((((((((((((((W).setCell ⟨g,0,none⟩ (y0)).setCell ⟨g,1,none⟩ (y1)).setCell ⟨g,2,none⟩ (y2)).setCell ⟨g,3,none⟩ (y3)).setCell ⟨g,4,none⟩ (y4)).setCell ⟨g,5,none⟩ (y5)).setCell ⟨g,6,none⟩ (y6)).setCell ⟨g,7,none⟩ (y7)).setCell ⟨g,8,none⟩ (y8)).setCell ⟨g,9,none⟩ (y9)).setCell ⟨g,10,none⟩ (y10)).setCell ⟨g,11,none⟩ (y11)).setCell ⟨g,12,none⟩ (y12)).setCell ⟨g,13,none⟩ (y13)):=((((((((((((((Below.refl _ W).setCell (p:=⟨g,0,none⟩) (Nat.le_refl _) y0).setCell (p:=⟨g,1,none⟩) (Nat.le_refl _) y1).setCell (p:=⟨g,2,none⟩) (Nat.le_refl _) y2).setCell (p:=⟨g,3,none⟩) (Nat.le_refl _) y3).setCell (p:=⟨g,4,none⟩) (Nat.le_refl _) y4).setCell (p:=⟨g,5,none⟩) (Nat.le_refl _) y5).setCell (p:=⟨g,6,none⟩) (Nat.le_refl _) y6).setCell (p:=⟨g,7,none⟩) (Nat.le_refl _) y7).setCell (p:=⟨g,8,none⟩) (Nat.le_refl _) y8).setCell (p:=⟨g,9,none⟩) (Nat.le_refl _) y9).setCell (p:=⟨g,10,none⟩) (Nat.le_refl _) y10).setCell (p:=⟨g,11,none⟩) (Nat.le_refl _) y11).setCell (p:=⟨g,12,none⟩) (Nat.le_refl _) y12).setCell (p:=⟨g,13,none⟩) (Nat.le_refl _) y13
structure OwnK (base:Nat) (w:World) (b:Bk) (v:Bv):Prop where
  q:OwnS base w v.q b.qw
  p:OwnS base w v.w b.tw
  h:OwnI base w v.h b.th
  t:OwnT base w v.t b.ts
  n:OwnV base w v.n b.nx
theorem OwnK.rd {base:Nat} {w:World} {b:Bk} {v:Bv} (h:OwnK base w b v):RdK w b v:=⟨h.q.rd,h.p.rd,h.h.rd,h.t.rd,h.n.rd⟩
end Go.Proofs.YtaidhenkijjcfaaGreat
namespace Go.Proofs.YtaidhenkijjcfaaGreat
open Go.RowKit Go.Sort
set_option linter.unusedVariables false
structure Oth (S:Nat->Prop) (w w':World):Prop where
  os:w'.os=w.os
  tape:w'.tape=w.tape
  output:w'.output=w.output
  size:w.heap.size<=w'.heap.size
  block:∀ k,k < w.heap.size->¬ S k->w'.heap[k]?=w.heap[k]?
theorem Oth.of_below {S:Nat->Prop} {w w':World} (h:Below w.heap.size w w'):Oth S w w':=⟨h.os,h.tape,h.output,h.size,fun k hk _=>h.block k hk⟩
theorem Oth.trans {S:Nat->Prop} {a b c:World} (h:Oth S a b) (k:Oth S b c):Oth S a c :=
  ⟨k.os.trans h.os,k.tape.trans h.tape,k.output.trans h.output,Nat.le_trans h.size k.size,fun i hi ho=>(k.block i (Nat.lt_of_lt_of_le hi h.size) ho).trans (h.block i hi ho)⟩
theorem Oth.mono {S T:Nat->Prop} {a b:World} (h:Oth S a b) (hs:∀ k,S k->T k):Oth T a b:=⟨h.os,h.tape,h.output,h.size,fun k hk hn=>h.block k hk (fun e=>hn (hs k e))⟩
theorem Oth.of_grown {S:Nat->Prop} {w w':World} {row:Option Nat} (h:w.grownBy w' row) (hr:∀ k,row=some k->S k):Oth S w w' :=
  ⟨h.os,h.tape,h.output,h.size,fun k hk ho=>h.block k hk (fun e=>ho (hr k e.symm))⟩
theorem Oth.refl (S:Nat->Prop) (w:World):Oth S w w:=⟨rfl,rfl,rfl,Nat.le_refl _,fun _ _ _=>rfl⟩
theorem Oth.set {S:Nat->Prop} {w w':World} (h:Oth S w w') {g:Nat} (h1:S g) (j:Nat) (u:Value):Oth S w (w'.setCell ⟨g,j,none⟩ u) :=
  h.trans (Oth.of_grown (grown_set w' g j u) (fun k e=>by cases e;exact h1))
theorem Oth.below {S:Nat->Prop} {B:Nat} {w w':World} (h:Oth S w w') (hB:∀ k,S k->B<=k) (hs:B<=w.heap.size):Below B w w' :=
  ⟨h.os,h.tape,h.output,h.size,fun k hk=>h.block k (by omega) (fun e=>by have:=hB k e;omega)⟩
theorem row_oth {S:Nat->Prop} {base:Nat} {w w':World} {e:TypeId} {size:Nat} {v:Value} {n:Nat} {xs:List Value} (h:w.ownsRow base e size v n xs) (hb:Oth S w w') (hn:∀ k,v.ownBlock=some k->¬ S k):w'.ownsRow base e size v n xs:=by
  refine ⟨h.1,?_⟩
  rcases h.2 with h' | ⟨g,cap,cur,hv,hbb,hg,r⟩
  · exact .inl h'
  · refine .inr ⟨g,cap,cur,hv,hbb,?_,r⟩
    have hlt:g < w.heap.size:=(Array.getElem?_eq_some_iff.1 hg).1
    rw [hb.block g hlt (hn g (by rw [hv];rfl))]
    exact hg
theorem row_step9 {base g n cap:Nat} {w:World} {T:TypeId} {Y:List Value} (h:w.ownsRow base T 5 (.slice (some ⟨g,0,none⟩) n cap) n Y) (hY:Y.length=5 * n) (i:Nat) (hi:i < 5 * n) :
    (∃ y,w.cell? ⟨g,i,none⟩=some y)/\w.frozen? ⟨g,i,none⟩=false/\∀ u,(w.setCell ⟨g,i,none⟩ u).ownsRow base T 5 (.slice (some ⟨g,0,none⟩) n cap) n (Y.set i u) :=
  ⟨⟨Y[i]'(by omega),by rw [h.cellAt i (by omega)];exact List.getElem?_eq_getElem (by omega)⟩,h.frozenAt i,fun u=>(h.stored i u).1⟩
def mkT (k n:Nat):List Tx5:=(List.range n).map (fun j=>(((k+5 * j:Nat):Int),mtx (k+5 * j+1),mtx (k+5 * j+2),((k+5 * j+3:Nat):Int),((k+5 * j+4:Nat):Int)))
theorem mkT_len (k n:Nat):(mkT k n).length=n:=by simp [mkT]
theorem mkT_at (k n j:Nat) (h:j < (mkT k n).length):(mkT k n)[j]=(((k+5 * j:Nat):Int),mtx (k+5 * j+1),mtx (k+5 * j+2),((k+5 * j+3:Nat):Int),((k+5 * j+4:Nat):Int)):=by simp [mkT]
theorem mixT {M l:List Tx5} {j:Nat} (hl:M.length=l.length) (hj:j < l.length):((M.take j ++ l.drop j).map txC).set j (txC (M[j]'(by omega)))=(M.take (j+1) ++ l.drop (j+1)).map txC:=by
  rw [List.take_succ_eq_append_getElem (by omega),<- List.map_set]
  congr 1
  rw [List.set_append_right _ _ (by simp;omega),List.length_take,show min j M.length=j from by omega,Nat.sub_self,List.drop_eq_getElem_cons hj,List.set_cons_zero,List.append_assoc]
  rfl
theorem mixT_sz (M l:List Tx5) (j:Nat):∀ x ∈ (M.take j ++ l.drop j).map txC,x.length=5:=fun x hx=>by obtain ⟨p,_,rfl⟩:=List.mem_map.1 hx;rfl
theorem markTxC_any (v:Value) (l:List Tx5) (k base:Nat) (w:World) (ho:OwnT base w v l) (hl:l.length<=10000000) (hk:k+5 * l.length<=90000000) (hk0:0 < k) :
    Calls Tryz.prog 76 #[v,.int .i64 (k:Int)] w fun e w'=>e=.returned (.int .i64 ((k+5 * l.length:Nat):Int))/\OwnT base w' v (mkT k l.length)/\Oth (fun g=>v.ownBlock=some g) w w':=by
  have hML:=mkT_len k l.length
  have hMA:=mkT_at k l.length
  generalize hMd:mkT k l.length=M at hML hMA ⊢
  clear hMd
  by_cases hne:l=[]
  · subst hne
    obtain ⟨a,c,rfl⟩:=ho.rd.shape
    have e2:M=[]:=List.length_eq_zero_iff.1 hML
    subst e2
    have Ho:=hide ho
    clear ho
    go_enter Tryz.func76,Tryz.ntmps76
    go_wp2
    refine wp_loop_rounds 1 ?_
    rw [rounds_succ]
    go_wp2
    go_ret
    exact ⟨by simp <;> rfl,Ho.out,Oth.refl _ _⟩
  · obtain ⟨g,cap,rfl⟩:∃ g cap,v=.slice (some ⟨g,0,none⟩) l.length cap:=by
      rcases ho.2 with ⟨rfl,hn⟩ | ⟨g,cap,cur,rfl,-⟩
      · exact absurd (List.length_eq_zero_iff.1 hn) hne
      · exact ⟨g,cap,rfl⟩
    have Hrow:Hid (w.ownsRow base 177 5 (.slice (some ⟨g,0,none⟩) l.length cap) l.length (l.map txC).flatten):=hide ho
    have HML:=hide hML
    have HMA:=hide hMA
    clear ho hML hMA
    have hS:Hid ((fun x=>(Value.slice (some ⟨g,0,none⟩) l.length cap).ownBlock=some x) g):=hide rfl
    go_enter Tryz.func76,Tryz.ntmps76
    go_wp2
    go_loopw [1,5] (fun kv iv wr=>∃ j:Nat,j<=l.length/\iv=.int .i64 (j:Int)/\kv=.int .i64 ((k+5 * j:Nat):Int)/\wr.ownsRow base 177 5 (.slice (some ⟨g,0,none⟩) l.length cap) l.length ((M.take j ++ l.drop j).map txC).flatten/\Oth (fun x=>(Value.slice (some ⟨g,0,none⟩) l.length cap).ownBlock=some x) w wr)
      (fun _ iv _=>l.length - (intOf iv).toNat)
    case atStart=>exact ⟨0,Nat.zero_le _,rfl,rfl,by simpa using Hrow.out,Oth.refl _ _⟩
    case round =>
      obtain ⟨j,hj,rfl,rfl,hown,hbt⟩:=hrel
      clear Hrow
      have HLl:Hid ((M.take j ++ l.drop j).length=l.length):=hide (by have:=HML.out;simp;omega)
      have hYl:((M.take j ++ l.drop j).map txC).flatten.length=5 * l.length:=by
        rw [flat_len 5 _ (mixT_sz M l j),List.length_map,HLl.out];omega
      by_cases hlt:j < l.length
      · have hli:(j:Int) < (l.length:Int):=by omega
        have Hnx:Hid (k+5 * (j+1)=k+5 * j+5):=hide (by omega)
        have hK1:k+5 * j+5<=90000000:=by omega
        have hK0:0 < k+5 * j:=by omega
        have HEnd:Hid (((((((M.take j ++ l.drop j).map txC).flatten.set (j * 5) (.int .i64 ((k+5 * j:Nat):Int))).set (j * 5+1) (.string (mtx (k+5 * j+1)))).set (j * 5+2) (.string (mtx (k+5 * j+2)))).set (j * 5+3) (.int .i64 ((k+5 * j+3:Nat):Int))).set (j * 5+4) (.int .i64 ((k+5 * j+4:Nat):Int))=((M.take (j+1) ++ l.drop (j+1)).map txC).flatten):=hide (by
          rw [flat_put5 _ j _ _ _ _ _ (by rw [List.length_map,HLl.out];exact hlt) (mixT_sz M l j),<- mixT HML.out hlt,HMA.out j (by have:=HML.out;omega)]
          rfl)
        generalize ((M.take j ++ l.drop j).map txC).flatten=Y at hown hYl HEnd
        generalize k+5 * j=K at Hnx hK1 hK0 HEnd ⊢
        have Hm1:=hide (fun w=>markText_any (K+1) w (by omega) (by omega))
        have Hm2:=hide (fun w=>markText_any (K+1+1) w (by omega) (by omega))
        obtain ⟨⟨y0,q0⟩,f0,s0⟩:=row_step9 hown hYl (j * 5) (by omega)
        have S0:=hide s0
        have Hbt:=hide hbt
        clear hown hbt s0
        go_wp2_with fail
        refine (Hm1.out _).mono ?_
        rintro e w1 ⟨rfl,hb1⟩
        have r1:=row_below (S0.out (.int .i64 (K:Int))) hb1 (Nat.le_refl _)
        have Hbt1:=hide ((Hbt.out.set hS.out (j * 5) (.int .i64 (K:Int))).trans (Oth.of_below hb1))
        clear hb1 q0 f0
        obtain ⟨⟨y1,q1⟩,f1,s1⟩:=row_step9 r1 (by simp [hYl]) (j * 5+1) (by omega)
        have S1:=hide s1
        clear r1 s1
        go_wp2_with fail
        refine (Hm2.out _).mono ?_
        rintro e w2 ⟨rfl,hb2⟩
        have r2:=row_below (S1.out (.string (mtx (K+1)))) hb2 (Nat.le_refl _)
        have Hbt2:=hide ((Hbt1.out.set hS.out (j * 5+1) (.string (mtx (K+1)))).trans (Oth.of_below hb2))
        clear hb2 q1 f1
        obtain ⟨⟨y2,q2⟩,f2,s2⟩:=row_step9 r2 (by simp [hYl]) (j * 5+2) (by omega)
        obtain ⟨⟨y3,q3⟩,f3,-⟩:=row_step9 r2 (by simp [hYl]) (j * 5+3) (by omega)
        obtain ⟨⟨y4,q4⟩,f4,-⟩:=row_step9 r2 (by simp [hYl]) (j * 5+4) (by omega)
        have S2:=hide (fun u2 u3 u4=>(((row_step9 (((row_step9 (s2 u2) (by simp [hYl]) (j * 5+3) (by omega)).2.2) u3) (by simp [hYl]) (j * 5+4) (by omega)).2.2) u4))
        have S3:=hide (S2.out (.string (mtx (K+1+1))) (.int .i64 ((K+3:Nat):Int)) (.int .i64 ((K+4:Nat):Int)))
        rw [show K+1+1=K+2 from rfl] at S3 ⊢
        rw [HEnd.out] at S3
        clear r2 s2 S2 HEnd
        go_wp2
        have e3:(K:Int)+1+1+1=((K+3:Nat):Int):=by omega
        have e4:(K:Int)+1+1+1+1=((K+4:Nat):Int):=by omega
        go_roundw
        case rel =>
          refine ⟨j+1,by omega,by go_num,by rw [Hnx.out];go_num,?_,((Hbt2.out.set hS.out _ _).set hS.out _ _).set hS.out _ _⟩
          exact S3.out
        case measure=>simp [intOf];omega
      · have ej:j=l.length:=by omega
        have e9:M.take j ++ l.drop j=M:=by rw [List.take_of_length_le (by have:=HML.out;omega),List.drop_of_length_le (by omega),List.append_nil]
        rw [e9] at hown
        subst ej
        have Hbt:=hide hbt
        have Ho':Hid (OwnT base wr (.slice (some ⟨g,0,none⟩) l.length cap) M):=hide (by unfold OwnT;rw [HML.out];exact hown)
        clear hown hbt e9 hYl HLl
        go_wp2
        go_ret
        exact ⟨rfl,Ho'.out,Hbt.out⟩
end Go.Proofs.YtaidhenkijjcfaaGreat
namespace Go.Proofs.YtaidhenkijjcfaaGreat
open Go.RowKit
set_option linter.unusedVariables false
def mkI (k n:Nat):List Int:=(List.range n).map (fun j=>((k+j:Nat):Int))
theorem mkI_len (k n:Nat):(mkI k n).length=n:=by simp [mkI]
theorem mkI_at (k n j:Nat) (h:j < (mkI k n).length):(mkI k n)[j]=((k+j:Nat):Int):=by simp [mkI]
theorem markIntS_any (v:Value) (l:List Int) (k base:Nat) (w:World) (ho:OwnI base w v l) (hl:l.length<=10000000) (hk:k<=100000000) (hk0:0 < k) :
    Calls Tryz.prog 75 #[v,.int .i64 (k:Int)] w fun e w'=>e=.returned (.int .i64 ((k+l.length:Nat):Int))/\OwnI base w' v (mkI k l.length)/\w.grownBy w' v.ownBlock:=by
  have hML:=mkI_len k l.length
  have hMA:=mkI_at k l.length
  generalize hMd:mkI k l.length=M at hML hMA
  clear hMd
  rcases ho.2 with ⟨rfl,hn⟩ | ⟨g,cap,cur,rfl,_,_,_,hcm,_,_⟩
  · have e:l=[]:=List.length_eq_zero_iff.1 hn
    subst e
    have e2:M=[]:=List.length_eq_zero_iff.1 hML
    subst e2
    have Ho:=hide ho
    clear ho
    go_enter Tryz.func75,Tryz.ntmps75
    go_wp2
    refine wp_loop_rounds 1 ?_
    rw [rounds_succ]
    go_wp2
    go_ret
    exact ⟨rfl,Ho.out,World.grownBy.refl _ _⟩
  · have Ho:=hide ho
    have HML:=hide hML
    have HMA:=hide hMA
    have hMl:l.length<=M.length:=by omega
    have hMg:M.length<=l.length:=by omega
    clear ho hML hMA
    go_enter Tryz.func75,Tryz.ntmps75
    go_wp2
    go_loopw [1,5] (fun kv iv wr=>∃ j:Nat,j<=l.length/\iv=.int .i64 (j:Int)/\kv=.int .i64 ((k+j:Nat):Int)/\wr.ownsRow base 3 1 (.slice (some ⟨g,0,none⟩) l.length cap) l.length ((M.take j ++ l.drop j).map (Value.int .i64))/\w.grownBy wr (some g))
      (fun _ iv _=>l.length - (intOf iv).toNat)
    case atStart=>exact ⟨0,Nat.zero_le _,rfl,rfl,by simpa [OwnI] using Ho.out,World.grownBy.refl _ _⟩
    case round =>
      obtain ⟨j,hj,rfl,rfl,hown,hgr⟩:=hrel
      by_cases hlt:j < l.length
      · have hjM:j < M.length:=by omega
        obtain ⟨K,hK⟩:∃ K:Nat,k+j=K:=⟨_,rfl⟩
        have hK2:K<=200000000:=by omega
        have hK0:0 < K:=by omega
        have eM:M[j]=(K:Int):=by rw [HMA.out j hjM,hK]
        rw [hK]
        have HK:=hide hK
        clear hK
        have Hown:=hide hown
        have Hgr:=hide hgr
        clear hown hgr
        have hown2:=Hown.out
        have hf:=hown2.frozenAt j
        have hd:=hown2.cellAt j (by omega)
        obtain ⟨u,hu⟩:∃ u,((M.take j ++ l.drop j).map (Value.int .i64))[j]?=some u:=⟨_,List.getElem?_eq_getElem (by simp;omega)⟩
        rw [hu] at hd
        have hst:=hown2.stored j (.int .i64 M[j])
        rw [gen_set M l (Value.int .i64) j HML.out hjM,eM] at hst
        have Hst:=hide hst
        clear hst hown2 hu eM
        go_wp2
        go_roundw
        case rel=>exact ⟨j+1,by omega,by go_num,by rw [show k+(j+1)=K+1 from by have:=HK.out;omega];go_num,Hst.out.1,grownS_trans Hgr.out Hst.out.2⟩
        case measure=>simp [intOf];omega
      · have e:M.take j ++ l.drop j=M:=by rw [List.take_of_length_le (by omega),List.drop_of_length_le (by omega),List.append_nil]
        rw [e] at hown
        have ho':OwnI base wr (.slice (some ⟨g,0,none⟩) l.length cap) M:=by
          unfold OwnI
          rw [HML.out]
          exact hown
        have e2:j=l.length:=by omega
        have Ho':=hide ho'
        have Hgr:=hide hgr
        clear ho' hgr hown e
        subst e2
        go_wp2
        go_ret
        exact ⟨rfl,Ho'.out,Hgr.out⟩
theorem markQc_any (r b:Int) (v:Value) (l:List ByteArray) (k base:Nat) (w:World) (ho:OwnS base w v l) (hl:l.length<=10000000) (hk:k<=100000000) (hk0:0 < k) :
    Calls Tryz.prog 49 #[qcV r b v,.int .i64 (k:Int)] w fun e w'=>e=.returned (.int .i64 ((k+l.length:Nat):Int))/\OwnS base w' v (mkS k l.length)/\Oth (fun g=>v.ownBlock=some g) w w':=by
  obtain ⟨a,c,rfl⟩:=ho.rd.shape
  simp only [qcV]
  obtain ⟨w1,hw1⟩:∃ x,w.alloc (.cells #[.int .i64 r,.int .i64 b,.slice a l.length c] 40)=x:=⟨_,rfl⟩
  have b1:Below w.heap.size w w1:=by rw [<- hw1];exact (Below.refl _ w).alloc (Nat.le_refl _) _
  have k1:Blk w1 w.heap.size 40 [.int .i64 r,.int .i64 b,.slice a l.length c]:=by rw [<- hw1];exact Blk.new w _ _
  have HM:=hide (markStringS_any (.slice a l.length c) l k base w1 (ho.below b1 (Nat.le_refl _)) hl hk hk0)
  have x2:=k1.cell 2
  simp only [List.getElem?_cons_zero,List.getElem?_cons_succ] at x2
  have HB:=hide b1
  clear ho k1 b1
  go_enter Tryz.func49,Tryz.ntmps49
  go_wp2_with fail
  refine HM.out.mono ?_
  rintro e w2 ⟨rfl,ho2,hg2⟩
  clear x2 hw1
  go_wp2
  go_ret
  exact ⟨rfl,ho2,(Oth.of_below HB.out).trans (Oth.of_grown hg2 (fun g h=>h))⟩
theorem markTc_any (r:Int) (v u:Value) (l:List ByteArray) (n:List Int) (k b1 b2:Nat) (w:World) (ho:OwnS b1 w v l) (hi:OwnI b2 w u n) (hl:l.length<=10000000) (hn:n.length<=10000000) (hk:k<=80000000) (hk0:0 < k) :
    Calls Tryz.prog 72 #[tcV r v u,.int .i64 (k:Int)] w fun e w'=>e=.returned (.int .i64 ((k+l.length+n.length:Nat):Int))/\OwnS b1 w' v (mkS k l.length)/\OwnI b2 w' u (mkI (k+l.length) n.length)/\Oth (fun g=>v.ownBlock=some g\/u.ownBlock=some g) w w':=by
  have Hap:=hide (rows_apart (w:=w) ho hi (by decide))
  obtain ⟨a,c,rfl⟩:=ho.rd.shape
  obtain ⟨a2,c2,rfl⟩:=hi.rd.shape
  simp only [tcV]
  obtain ⟨w1,hw1⟩:∃ x,w.alloc (.cells #[.int .i64 r,.slice a l.length c,.slice a2 n.length c2] 67)=x:=⟨_,rfl⟩
  have p1:Below w.heap.size w w1:=by rw [<- hw1];exact (Below.refl _ w).alloc (Nat.le_refl _) _
  have k1:Blk w1 w.heap.size 67 [.int .i64 r,.slice a l.length c,.slice a2 n.length c2]:=by rw [<- hw1];exact Blk.new w _ _
  have HM:=hide (markStringS_any (.slice a l.length c) l k b1 w1 (ho.below p1 (Nat.le_refl _)) hl (by omega) hk0)
  have hlt:Hid (∀ g,(Value.slice a l.length c).ownBlock=some g->g < w.heap.size):=hide (fun g h=>(World.ownsRow.lt ho g h).2)
  have x1:=k1.cell 1
  simp only [List.getElem?_cons_zero,List.getElem?_cons_succ] at x1
  have HB:=hide p1
  have K1:=hide k1
  have Hi:=hide (show OwnI b2 w1 (.slice a2 n.length c2) n from row_oth (S:=fun _=>False) hi (Oth.of_below p1) (fun _ _ h=>h))
  obtain ⟨K,hK⟩:∃ K:Nat,k+l.length=K:=⟨_,rfl⟩
  have hKb:K<=90000000:=by omega
  have hK0:0 < K:=by omega
  rw [hK] at HM ⊢
  clear ho hi k1 p1
  go_enter Tryz.func72,Tryz.ntmps72
  go_wp2_with fail
  refine HM.out.mono ?_
  rintro e w2 ⟨rfl,ho2,hg2⟩
  have O2:=Oth.of_grown (S:=fun g=>(Value.slice a l.length c).ownBlock=some g) hg2 (fun g h=>h)
  have hi2:OwnI b2 w2 (.slice a2 n.length c2) n:=row_oth Hi.out O2 (fun g h h'=>Hap.out g h h')
  have x2:w2.cell? ⟨w.heap.size,2,none⟩=some (.slice a2 n.length c2):=by
    have h:=K1.out.cell 2
    simp only [List.getElem?_cons_zero,List.getElem?_cons_succ] at h
    unfold World.cell? at h ⊢
    rw [O2.block w.heap.size K1.out.lt (fun h'=>by have:=hlt.out _ h';omega)]
    exact h
  have HI:=hide (markIntS_any (.slice a2 n.length c2) n K b2 w2 hi2 hn (by omega) hK0)
  have Ho2:=hide ho2
  have HO2:=hide O2
  clear ho2 hg2 O2 hi2 x1 hw1
  go_wp2_with fail
  refine HI.out.mono ?_
  rintro e w3 ⟨rfl,ho3,hg3⟩
  have O3:=Oth.of_grown (S:=fun g=>(Value.slice a2 n.length c2).ownBlock=some g) hg3 (fun g h=>h)
  have Hs3:Hid (OwnS b1 w3 (.slice a l.length c) (mkS k l.length)):=hide (row_oth Ho2.out O3 (fun g h h'=>Hap.out g h' h))
  have HO:=hide ((Oth.of_below (S:=fun g=>(Value.slice a l.length c).ownBlock=some g\/(Value.slice a2 n.length c2).ownBlock=some g) HB.out).trans ((HO2.out.mono (fun _ h=>.inl h)).trans (O3.mono (fun _ h=>.inr h))))
  clear hg3 O3 x2
  go_wp2
  go_ret
  exact ⟨rfl,Hs3.out,ho3,HO.out⟩
end Go.Proofs.YtaidhenkijjcfaaGreat
