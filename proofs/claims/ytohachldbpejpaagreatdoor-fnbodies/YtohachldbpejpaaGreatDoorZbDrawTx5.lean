/- Drawn orders. -/
import Derived.Test.YtohachldbpejpaaGreatDoorZbAcEqS
set_option maxRecDepth 20000
set_option maxHeartbeats 2000000
namespace Go.Proofs.YtohachldbpejpaaGreatDoor
open Go.RowKit
set_option linter.unusedVariables false
def lgV (e:Int) (v:Value):Value:=.agg #[.int .i64 e,v]
theorem OwnA.older {base:Nat} {w:World} {v:Value} {l:List Ac} (h:OwnA base w v l) {g:Nat} (hg:g < base) (j:Nat) (u:Value):OwnA base (w.setCell ⟨g,j,none⟩ u) v l :=
  (h.ox.btw (Btw.of_grown (lo:=0) (hi:=base) (grown_set w g j u) (fun k hk=>⟨Nat.zero_le _,by cases hk;exact hg⟩)) (.inr (Nat.le_refl _))).own
structure RowG (base:Nat) (w:World) (g n cap:Nat) (Z:List (Ac × Value)):Prop where
  len:Z.length=n
  row:w.ownsRow base 105 5 (.slice (some ⟨g,0,none⟩) n cap) n (Z.map acC).flatten
  lvs:Lvs base w g Z
theorem RowG.own {base:Nat} {w:World} {g n cap:Nat} {Z:List (Ac × Value)} (h:RowG base w g n cap Z):OwnA base w (.slice (some ⟨g,0,none⟩) n cap) (Z.map (·.1)) :=
  ⟨g,cap,Z,rfl,by simp [h.len],by simpa [h.len] using h.row,h.lvs⟩
theorem OwnA.rowG {base:Nat} {w:World} {v:Value} {l:List Ac} (h:OwnA base w v l):∃ g cap Z,v=.slice (some ⟨g,0,none⟩) l.length cap/\Z.map (·.1)=l/\RowG base w g l.length cap Z:=by
  obtain ⟨g,cap,Z,hZ,rfl,ho,hl⟩:=h
  exact ⟨g,cap,Z,rfl,hZ,by rw [<- hZ];simp,ho,hl⟩
theorem RowG.lt {base:Nat} {w:World} {g n cap:Nat} {Z:List (Ac × Value)} (h:RowG base w g n cap Z):base<=g/\g < w.heap.size:=World.ownsRow.lt h.row g rfl
theorem RowG.below {B base:Nat} {w w':World} {g n cap:Nat} {Z:List (Ac × Value)} (h:RowG base w g n cap Z) (hb:Below B w w') (hB:w.heap.size<=B):RowG base w' g n cap Z :=
  ⟨h.len,row_below h.row hb hB,h.lvs.below hb hB⟩
theorem RowG.kept {base:Nat} {w w':World} {g n cap:Nat} {Z:List (Ac × Value)} {row:Option Nat} (h:RowG base w g n cap Z) (hg:w.grownBy w' row) (h1:row ≠ some g) (h2:∀ i (hi:i < Z.length) k,Z[i].2.ownBlock=some k->row ≠ some k):RowG base w' g n cap Z:=by
  refine ⟨h.len,World.ownsRow.kept h.row hg (.inr (fun e=>h1 e.symm)),⟨fun i hi=>World.ownsRow.kept (h.lvs.own i hi) hg ?_,h.lvs.far,h.lvs.apart⟩⟩
  cases hb:Z[i].2.ownBlock with
  | none=>exact .inl rfl
  | some k=>exact .inr (fun e=>h2 i hi k hb e.symm)
theorem RowG.other {base:Nat} {w:World} {g n cap:Nat} {Z:List (Ac × Value)} (h:RowG base w g n cap Z) (b j:Nat) (u:Value) (h1:b ≠ g) (h2:∀ i (hi:i < Z.length) k,Z[i].2.ownBlock=some k->b ≠ k):RowG base (w.setCell ⟨b,j,none⟩ u) g n cap Z :=
  h.kept (grown_set w b j u) (fun e=>h1 (by injection e)) (fun i hi k hk e=>h2 i hi k hk (by injection e))
theorem RowG.cell {base:Nat} {w:World} {g n cap:Nat} {Z:List (Ac × Value)} (h:RowG base w g n cap Z) (k:Nat) (hk:k < Z.length) (j:Nat) (hj:j < 5):w.cell? ⟨g,k * 5+j,none⟩=(acC Z[k])[j]?:=by
  rw [h.row.cellAt (k * 5+j) (by have:=h.len;omega),flat_get 5 (Z.map acC) k j (by simpa using hk) (acM_sz Z) hj]
  simp
theorem RowG.at {base:Nat} {w:World} {g n cap:Nat} {Z:List (Ac × Value)} (h:RowG base w g n cap Z) (k:Nat) (hk:k < Z.length):AcAt w g (k * 5) Z[k].1 Z[k].2 :=
  ⟨by have:=h.cell k hk 0 (by omega);simpa [acC] using this,by have:=h.cell k hk 1 (by omega);simpa [acC] using this,by have:=h.cell k hk 2 (by omega);simpa [acC] using this,by have:=h.cell k hk 3 (by omega);simpa [acC] using this,by have:=h.cell k hk 4 (by omega);simpa [acC] using this⟩
theorem RowG.frozen {base:Nat} {w:World} {g n cap:Nat} {Z:List (Ac × Value)} (h:RowG base w g n cap Z) (j:Nat):w.frozen? ⟨g,j,none⟩=false:=h.row.frozenAt j
theorem RowG.caps {base:Nat} {w:World} {g n cap:Nat} {Z:List (Ac × Value)} (h:RowG base w g n cap Z):n<=cap/\cap<=maxLen:=by
  rcases h.row.2 with ⟨hv,_⟩ | ⟨g',cap',cur,hv,hb,hg,hnc,hcm,hcs,ht⟩
  · cases hv
  · simp only [Value.slice.injEq,Option.some.injEq,Addr.mk.injEq,and_true,true_and] at hv
    obtain ⟨rfl,rfl⟩:=hv
    exact ⟨hnc,hcm⟩
theorem tl_set (Z:List (Ac × Value)) (k:Nat) (q:Ac × Value) (hk:k < Z.length) (h:tlZ q=tlZ Z[k]):(Z.set k q).map tlZ=Z.map tlZ:=by
  apply List.ext_getElem (by simp)
  intro i h1 h2
  simp only [List.getElem_map,List.getElem_set]
  by_cases e:k=i
  · subst e;simp [h]
  · simp [e]
theorem RowG.put {base:Nat} {w:World} {g n cap:Nat} {Z:List (Ac × Value)} (h:RowG base w g n cap Z) (k:Nat) (hk:k < Z.length) (j:Nat) (hj:j < 5) (u:Value) (q:Ac × Value) (hq:acC q=(acC Z[k]).set j u) (ht:tlZ q=tlZ Z[k]) :
    RowG base (w.setCell ⟨g,k * 5+j,none⟩ u) g n cap (Z.set k q):=by
  have hst:=(h.row.stored (k * 5+j) u).1
  have e:(Z.map acC).flatten.set (k * 5+j) u=((Z.set k q).map acC).flatten:=by
    rw [flat_set 5 _ (Z.map acC) k j (by simpa using hk) (acM_sz Z) hj,List.map_set]
    congr 2
    rw [hq]
    simp
  rw [e] at hst
  exact ⟨by simp [h.len],hst,(h.lvs.set _ _).same (tl_set Z k q hk ht)⟩
theorem Lvs.putK {base:Nat} {w:World} {g:Nat} {Z:List (Ac × Value)} (h:Lvs base w g Z) (k:Nat) (hk:k < Z.length) (q:Ac × Value) (ho:OwnL base w q.2 q.1.2.2.2.2) (hf:∀ b,q.2.ownBlock=some b->b ≠ g)
    (hn:∀ i (hi:i < Z.length),i ≠ k->∀ b,Z[i].2.ownBlock=some b->q.2.ownBlock ≠ some b):Lvs base w g (Z.set k q):=by
  refine ⟨fun i hi=>?_,fun i hi b hb=>?_,fun i j hi hj hij b hb=>?_⟩
  · rw [List.getElem_set]
    split
    · exact ho
    · exact h.own i (by simpa using hi)
  · rw [List.getElem_set] at hb
    split at hb
    · exact hf b hb
    · exact h.far i (by simpa using hi) b hb
  · rw [List.getElem_set] at hb ⊢
    split at hb
    · rename_i e1
      rw [if_neg (by omega)]
      exact fun e=>hn j (by simpa using hj) (by omega) b e hb
    · rename_i e1
      split
      · exact hn i (by simpa using hi) (by omega) b hb
      · exact h.apart i j (by simpa using hi) (by simpa using hj) hij b hb
theorem RowG.putL {base:Nat} {w:World} {g n cap:Nat} {Z:List (Ac × Value)} (h:RowG base w g n cap Z) (k:Nat) (hk:k < Z.length) (q:Ac × Value) (hq:acC q=(acC Z[k]).set 4 q.2) (ho:OwnL base w q.2 q.1.2.2.2.2) (hf:∀ b,q.2.ownBlock=some b->b ≠ g)
    (hn:∀ i (hi:i < Z.length),i ≠ k->∀ b,Z[i].2.ownBlock=some b->q.2.ownBlock ≠ some b):RowG base (w.setCell ⟨g,k * 5+4,none⟩ q.2) g n cap (Z.set k q):=by
  have hst:=(h.row.stored (k * 5+4) q.2).1
  have e:(Z.map acC).flatten.set (k * 5+4) q.2=((Z.set k q).map acC).flatten:=by
    rw [flat_set 5 _ (Z.map acC) k 4 (by simpa using hk) (acM_sz Z) (by omega),List.map_set]
    congr 2
    rw [hq]
    simp
  rw [e] at hst
  exact ⟨by simp [h.len],hst,((h.lvs.putK k hk q ho hf hn).set _ _)⟩
theorem RowG.put5 {base:Nat} {w:World} {g n cap:Nat} {Z:List (Ac × Value)} (h:RowG base w g n cap Z) (k:Nat) (hk:k < Z.length) (q:Ac × Value) (ho:OwnL base w q.2 q.1.2.2.2.2) (hf:∀ b,q.2.ownBlock=some b->b ≠ g)
    (hn:∀ i (hi:i < Z.length),i ≠ k->∀ b,Z[i].2.ownBlock=some b->q.2.ownBlock ≠ some b) :
    RowG base (((((w.setCell ⟨g,k * 5,none⟩ (.string q.1.1)).setCell ⟨g,k * 5+1,none⟩ (.int .i64 q.1.2.1)).setCell ⟨g,k * 5+2,none⟩ (.int .i64 q.1.2.2.1)).setCell ⟨g,k * 5+3,none⟩ (.int .i64 q.1.2.2.2.1)).setCell ⟨g,k * 5+4,none⟩ q.2) g n cap (Z.set k q):=by
  have s1:=(h.row.stored (k * 5) (.string q.1.1)).1
  have s2:=(s1.stored (k * 5+1) (.int .i64 q.1.2.1)).1
  have s3:=(s2.stored (k * 5+2) (.int .i64 q.1.2.2.1)).1
  have s4:=(s3.stored (k * 5+3) (.int .i64 q.1.2.2.2.1)).1
  have s5:=(s4.stored (k * 5+4) q.2).1
  rw [flat_put5 _ k _ _ _ _ _ (by simpa using hk) (acM_sz Z),show [Value.string q.1.1,.int .i64 q.1.2.1,.int .i64 q.1.2.2.1,.int .i64 q.1.2.2.2.1,q.2]=acC q from rfl,<- List.map_set] at s5
  exact ⟨by simp [h.len],s5,(((((h.lvs.putK k hk q ho hf hn).set _ _).set _ _).set _ _).set _ _).set _ _⟩
theorem fst_set (Z:List (Ac × Value)) (k:Nat) (q:Ac × Value):(Z.set k q).map (·.1)=(Z.map (·.1)).set k q.1:=by rw [List.map_set]
theorem fst_get {Z:List (Ac × Value)} {L:List Ac} (hZ:Z.map (·.1)=L) (k:Nat) (hk:k < Z.length) (hk':k < L.length):Z[k].1=L[k]:=by subst hZ;simp
theorem set_get (Z:List (Ac × Value)) (k:Nat) (q:Ac × Value) (hk:k < (Z.set k q).length):(Z.set k q)[k]=q:=by simp
theorem Blk.set {W:World} {B:Nat} {t:TypeId} {cs:List Value} (h:Blk W B t cs) (j:Nat) (u:Value):Blk (W.setCell ⟨B,j,none⟩ u) B t (cs.set j u):=by
  have e:=heap_setCell_same W B j cs.toArray t u h
  rw [List.setIfInBounds_toArray] at e
  exact e
theorem Blk.other {W:World} {B:Nat} {t:TypeId} {cs:List Value} (h:Blk W B t cs) (b j:Nat) (u:Value) (hne:B ≠ b):Blk (W.setCell ⟨b,j,none⟩ u) B t cs:=(heap_setCell_other W ⟨b,j,none⟩ B u hne).trans h
theorem Blk.other5 {W:World} {B:Nat} {t:TypeId} {cs:List Value} (h:Blk W B t cs) (b o:Nat) (y0 y1 y2 y3 y4:Value) (hne:B ≠ b) :
    Blk (((((W.setCell ⟨b,o,none⟩ y0).setCell ⟨b,o+1,none⟩ y1).setCell ⟨b,o+2,none⟩ y2).setCell ⟨b,o+3,none⟩ y3).setCell ⟨b,o+4,none⟩ y4) B t cs :=
  ((((h.other b o y0 hne).other b (o+1) y1 hne).other b (o+2) y2 hne).other b (o+3) y3 hne).other b (o+4) y4 hne
theorem below_set5 {B:Nat} {a W:World} (h:Below B a W) (b o:Nat) (y0 y1 y2 y3 y4:Value) (hb:B<=b) :
    Below B a (((((W.setCell ⟨b,o,none⟩ y0).setCell ⟨b,o+1,none⟩ y1).setCell ⟨b,o+2,none⟩ y2).setCell ⟨b,o+3,none⟩ y3).setCell ⟨b,o+4,none⟩ y4) :=
  ((((h.setCell (p:=⟨b,o,none⟩) hb y0).setCell (p:=⟨b,o+1,none⟩) hb y1).setCell (p:=⟨b,o+2,none⟩) hb y2).setCell (p:=⟨b,o+3,none⟩) hb y3).setCell (p:=⟨b,o+4,none⟩) hb y4
theorem Blk.alloc {W:World} {B:Nat} {t:TypeId} {cs:List Value} (h:Blk W B t cs) (o:Obj):Blk (W.alloc o) B t cs:=h.below ((Below.refl W.heap.size W).alloc (Nat.le_refl _) o) h.lt
def LDrawn (w0 w:World) (g:Nat) (cv:Value) (code:List UInt8) (en:Ending) (w':World):Prop:=∃ (e:Int) (v:Value) (Z:List (Ac × Value)),en=.returned (lgV e v)/\DrA w.heap.size w' v Z/\SmallZ Z/\Cur w0 w' g cv code/\w.grownBy w' (some g)
theorem DrA.mono {base base':Nat} {w:World} {v:Value} {Z:List (Ac × Value)} (h:DrA base w v Z) (hB:base'<=base):DrA base' w v Z:=by
  refine ⟨h.1,⟨h.2.1.1,?_⟩,fun q hq=>(h.2.2 q hq).mono hB⟩
  rcases h.2.1.2 with h' | ⟨g',cap',cur,hv,hbb,r⟩
  · exact .inl h'
  · exact .inr ⟨g',cap',cur,hv,by omega,r⟩
theorem l6Draw_any (w0 w:World) (g:Nat) (cv:Value) (code:List UInt8) (hc:Cur w0 w g cv code) (hl:code.length<=1048576) :
    Calls Tryz.prog 47 #[.pointer (some ⟨g,0,none⟩)] w fun en w'=>LDrawn w0 w g cv code en w':=by
  have hgl:=hc.lt
  obtain ⟨w1,hw1⟩:∃ w1,w.alloc (.cells #[.int .i64 0,.slice none 0 0] 26)=w1:=⟨_,rfl⟩
  have b1:Below w.heap.size w w1:=by rw [<- hw1];exact (Below.refl _ w).alloc (Nat.le_refl _) _
  have k1:Blk w1 w.heap.size 26 [.int .i64 0,.slice none 0 0]:=by rw [<- hw1];exact Blk.new w _ _
  have s1:w1.heap.size=w.heap.size+1:=by rw [<- hw1];simp
  have hc1:=hc.below b1 hgl
  have Hc:=hide hc1
  clear hc hc1
  go_enter Tryz.func47,Tryz.ntmps47
  go_wp2_with fail
  refine (l1Below_any w0 w1 g cv code 3 Hc.out hl (by omega) (by omega)).mono ?_
  rintro en w2 ⟨x,rfl,-,-,hc2,hg2⟩
  have z2:=hg2.size
  have k2:=k1.notg hg2 (by omega)
  have Hc2:=hide hc2
  clear hc2 Hc k1
  go_wp2_with fail
  refine (l4Draw_any w0 w2 g cv code Hc2.out hl).mono ?_
  rintro en w3 ⟨G,cap,Z,rfl,hrow,hlv,hZ5,hZs,hc3,hg3⟩
  have z3:=hg3.size
  have k3:=k2.notg hg3 (by omega)
  have r0:=k3.cell 0
  have r1:=k3.cell 1
  have g0:=k3.frozen 0
  have g1:=k3.frozen 1
  simp only [List.getElem?_cons_zero,List.getElem?_cons_succ] at r0 r1
  have HD:=hide (DrA.of hrow hlv)
  have HC3:=hide hc3
  have HG:=hide (grownS_trans hg2 hg3)
  have HS:Hid (SmallZ Z):=hide ⟨by omega,fun q hq=>⟨(hZs q hq).1,by have:=(hZs q hq).2;omega⟩⟩
  have hgg:∀ j,(Value.slice (some ⟨G,0,none⟩) Z.length cap).ownBlock=some j->w2.heap.size<=j:=fun j hj=>hrow.ge j hj
  clear hrow hlv hc3 hg2 hg3 k2 k3 hZs
  go_wp2
  refine bodyPost_ret (v:=.agg #[.int .i64 (x:Int),.slice (some ⟨G,0,none⟩) Z.length cap]) (by simp [results,Tryz.f47,go_sem,r0,r1]) rfl ?_
  refine ⟨x,.slice (some ⟨G,0,none⟩) Z.length cap,Z,rfl,?_,HS.out,?_,?_⟩
  · exact ((HD.out.notg (grown_set w3 w.heap.size 0 _) (by omega)).notg (grown_set _ w.heap.size 1 _) (by omega)).mono (by omega)
  · exact HC3.out.below (((Below.refl w.heap.size w3).setCell (p:=⟨w.heap.size,0,none⟩) (Nat.le_refl _) _).setCell (p:=⟨w.heap.size,1,none⟩) (Nat.le_refl _) _) hgl
  · exact grw_below (grw_trans (grw_of_below (some g) b1 (Nat.le_refl _)) HG.out) (((Below.refl w.heap.size w3).setCell (p:=⟨w.heap.size,0,none⟩) (Nat.le_refl _) _).setCell (p:=⟨w.heap.size,1,none⟩) (Nat.le_refl _) _) (Nat.le_refl _)
theorem blk_notg5 {w w':World} {B g:Nat} {t:TypeId} {cs:List Value} (h:Blk w B t cs) (hg:w.grownBy w' (some g)) (hne:B ≠ g):Blk w' B t cs :=
  (hg.block B h.lt (fun e=>hne (by injection e))).trans h
theorem below_put5 (W:World) (b:Nat) (y0 y1 y2 y3 y4:Value):Below b W (((((W.setCell ⟨b,0,none⟩ y0).setCell ⟨b,1,none⟩ y1).setCell ⟨b,2,none⟩ y2).setCell ⟨b,3,none⟩ y3).setCell ⟨b,4,none⟩ y4) :=
  (((((Below.refl _ W).setCell (p:=⟨b,0,none⟩) (Nat.le_refl _) _).setCell (p:=⟨b,1,none⟩) (Nat.le_refl _) _).setCell (p:=⟨b,2,none⟩) (Nat.le_refl _) _).setCell (p:=⟨b,3,none⟩) (Nat.le_refl _) _).setCell (p:=⟨b,4,none⟩) (Nat.le_refl _) _
def SmT (t:Tx5):Prop:=t.2.1.size<=9/\t.2.2.1.size<=9/\(-10000000<=t.1/\t.1<=10000000)/\(-10000000<=t.2.2.2.1/\t.2.2.2.1<=10000000)/\(-10000000<=t.2.2.2.2/\t.2.2.2.2<=10000000)
def DrT (w0 w:World) (g:Nat) (cv:Value) (code:List UInt8) (e:Ending) (w':World):Prop:=∃ t:Tx5,e=.returned (txV t)/\SmT t/\Cur w0 w' g cv code/\w.grownBy w' (some g)
theorem l5Tx_any (w0 w:World) (g:Nat) (cv:Value) (code:List UInt8) (hc:Cur w0 w g cv code) (hl:code.length<=1048576) :
    Calls Tryz.prog 160 #[.pointer (some ⟨g,0,none⟩)] w fun e w'=>DrT w0 w g cv code e w':=by
  have hgl:=hc.lt
  obtain ⟨w1,hw1⟩:∃ w1,w.alloc (.cells #[.int .i64 0,.string { data:=#[] },.string { data:=#[] },.int .i64 0,.int .i64 0] 35)=w1:=⟨_,rfl⟩
  have hb1:Below w.heap.size w w1:=by rw [<- hw1];exact (Below.refl _ w).alloc (Nat.le_refl _) _
  have hs1:w1.heap.size=w.heap.size+1:=by rw [<- hw1];simp
  have K1:Hid (Blk w1 w.heap.size 35 [.int .i64 0,.string { data:=#[] },.string { data:=#[] },.int .i64 0,.int .i64 0]):=hide (by rw [<- hw1];exact Blk.new w _ _)
  have Hc1:=hide (hc.below hb1 hgl)
  have HG1:=hide (grw_of_below (some g) hb1 (Nat.le_refl _))
  clear hc hb1
  go_enter Tryz.func160,Tryz.ntmps160
  go_wp2_with fail
  refine (l1Below_any w0 _ g cv code 3 Hc1.out hl (by omega) (by omega)).mono ?_
  rintro e w2 ⟨x,rfl,hx,-,hc2,hg2⟩
  have hx3:(x:Int) < 3:=hx (by omega)
  have K2:=hide (blk_notg5 K1.out hg2 (by omega))
  have HG2:=hide (grw_trans HG1.out hg2)
  have hs2:=hg2.size
  clear hg2 hx K1 HG1 Hc1
  go_wp2_with fail
  refine (l1Name_any w0 _ g cv code hc2 hl).mono ?_
  rintro e w3 ⟨f,rfl,hf9,hc3,hg3⟩
  have K3:=hide (blk_notg5 K2.out hg3 (by omega))
  have HG3:=hide (grw_trans HG2.out hg3)
  have hs3:=hg3.size
  obtain ⟨w4,hw4⟩:∃ w4,w3.alloc (.cells #[.int .i64 1,.int .i64 5,.int .i64 10,.int .i64 3,.int .i64 200] 3)=w4:=⟨_,rfl⟩
  have hb4:Below w3.heap.size w3 w4:=by rw [<- hw4];exact (Below.refl _ w3).alloc (Nat.le_refl _) _
  have HI4:Hid (IntsAt w4 w3.heap.size [1,5,10,3,200]):=hide (by rw [<- hw4];exact ints_new w3 [1,5,10,3,200] 3)
  have Hc4:=hide (hc3.below hb4 hc3.lt)
  have K4:=hide (K3.out.below hb4 (by omega))
  have HG4:=hide (grw_trans HG3.out (grw_of_below (some g) hb4 (Nat.le_refl _)))
  have hs4:=hb4.size
  clear hc2 hc3 hg3 hb4 K2 K3 HG2 HG3
  go_wp2_with fail
  refine (l1Int_any w0 _ g w3.heap.size cv code [1,5,10,3,200] Hc4.out hl HI4.out (by omega) (by simp) (by simp) 5).mono ?_
  rintro e w5 ⟨am,rfl,ham,hc5,hg5⟩
  have hamb:0<=am/\am<=200:=by simp at ham;omega
  have K5:=hide (blk_notg5 K4.out hg5 (by omega))
  have HG5:=hide (grw_trans HG4.out hg5)
  have hs5:=hg5.size
  clear ham hg5 K4 HG4 Hc4 HI4
  go_wp2_with fail
  refine (l1Below_any w0 _ g cv code 4 hc5 hl (by omega) (by omega)).mono ?_
  rintro e w6 ⟨no,rfl,hno,-,hc6,hg6⟩
  have hno4:(no:Int) < 4:=hno (by omega)
  have hk6:=blk_notg5 K5.out hg6 (by omega)
  have hG6:=grw_trans HG5.out hg6
  have hs6:=hg6.size
  have hT7:=Blk.new w6 35 [.int .i64 (1+(x:Int)),.string f,.string { data:=#[] },.int .i64 am,.int .i64 (no:Int)]
  have hb7:Below w6.heap.size w6 (w6.alloc (.cells #[.int .i64 (1+(x:Int)),.string f,.string { data:=#[] },.int .i64 am,.int .i64 (no:Int)] 35)):=(Below.refl _ w6).alloc (Nat.le_refl _) _
  have hk7:=hk6.below hb7 (by omega)
  have Hc7:=hide (hc6.below hb7 hc6.lt)
  have HG7:=hide (grw_trans hG6 (grw_of_below (some g) hb7 (Nat.le_refl _)))
  clear hc5 hg6 hno K5 HG5 hc6 hG6 hk6 hb7
  by_cases hx0:x=0
  · subst hx0
    have HK:=hide hk7
    have HT:=hide hT7
    clear hk7 hT7
    go_wp2_with fail
    refine (l1Name_any w0 _ g cv code Hc7.out hl).mono ?_
    rintro e w8 ⟨tO,rfl,ht9,hc8,hg8⟩
    have hk7:=blk_notg5 HK.out hg8 (by omega)
    have hT7:=blk_notg5 HT.out hg8 (by omega)
    have HG8:=hide (grw_trans HG7.out hg8)
    have Hc8:=hide hc8
    have hs8:=hg8.size
    clear HK HT HG7 Hc7 hc8 hg8
    have r0:=hk7.cell 0
    have fr0:=hk7.frozen 0
    have r1:=hk7.cell 1
    have fr1:=hk7.frozen 1
    have r2:=hk7.cell 2
    have fr2:=hk7.frozen 2
    have r3:=hk7.cell 3
    have fr3:=hk7.frozen 3
    have r4:=hk7.cell 4
    have fr4:=hk7.frozen 4
    have t0:=hT7.cell 0
    have ft0:=hT7.frozen 0
    have t1:=hT7.cell 1
    have ft1:=hT7.frozen 1
    have t2:=hT7.cell 2
    have ft2:=hT7.frozen 2
    have t3:=hT7.cell 3
    have ft3:=hT7.frozen 3
    have t4:=hT7.cell 4
    have ft4:=hT7.frozen 4
    simp only [List.getElem?_cons_zero,List.getElem?_cons_succ] at r0 r1 r2 r3 r4 t0 t1 t2 t3 t4
    go_wp2
    refine bodyPost_ret (v:=txV (1,f,tO,am,(no:Int))) (by simp [results,Tryz.f160,go_sem,txV,r0,r1,r2,r3,r4]) rfl ?_
    have hbR:=((Below.refl w.heap.size w8).setCell (p:=⟨w6.heap.size,2,none⟩) (show w.heap.size<=w6.heap.size by omega) (.string tO)).trans (below_put5 (w8.setCell ⟨w6.heap.size,2,none⟩ (.string tO)) w.heap.size (.int .i64 1) (.string f) (.string tO) (.int .i64 am) (.int .i64 (no:Int)))
    exact ⟨(1,f,tO,am,(no:Int)),rfl,by unfold SmT;simp only;omega,Hc8.out.below hbR hgl,grw_below HG8.out hbR (Nat.le_refl _)⟩
  · have hne:((1+(x:Int)) == 1)=false:=by rw [beq_eq_false_iff_ne];omega
    have r0:=hk7.cell 0
    have fr0:=hk7.frozen 0
    have r1:=hk7.cell 1
    have fr1:=hk7.frozen 1
    have r2:=hk7.cell 2
    have fr2:=hk7.frozen 2
    have r3:=hk7.cell 3
    have fr3:=hk7.frozen 3
    have r4:=hk7.cell 4
    have fr4:=hk7.frozen 4
    have t0:=hT7.cell 0
    have ft0:=hT7.frozen 0
    have t1:=hT7.cell 1
    have ft1:=hT7.frozen 1
    have t2:=hT7.cell 2
    have ft2:=hT7.frozen 2
    have t3:=hT7.cell 3
    have ft3:=hT7.frozen 3
    have t4:=hT7.cell 4
    have ft4:=hT7.frozen 4
    simp only [List.getElem?_cons_zero,List.getElem?_cons_succ] at r0 r1 r2 r3 r4 t0 t1 t2 t3 t4
    go_wp2
    refine bodyPost_ret (v:=txV (1+(x:Int),f,ByteArray.empty,am,(no:Int))) (by simp [results,Tryz.f160,go_sem,txV,r0,r1,r2,r3,r4];rfl) rfl ?_
    have hbR:=below_put5 (w6.alloc (.cells #[.int .i64 (1+(x:Int)),.string f,.string { data:=#[] },.int .i64 am,.int .i64 (no:Int)] 35)) w.heap.size (.int .i64 (1+(x:Int))) (.string f) (.string { data:=#[] }) (.int .i64 am) (.int .i64 (no:Int))
    exact ⟨(1+(x:Int),f,ByteArray.empty,am,(no:Int)),rfl,by unfold SmT;simp only [ByteArray.size_empty];omega,Hc7.out.below hbR hgl,grw_below HG7.out hbR (Nat.le_refl _)⟩
end Go.Proofs.YtohachldbpejpaaGreatDoor
