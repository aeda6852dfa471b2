/- A row of accounts at one place, written into account by account. -/
import Derived.Test.YteefibiikampbaaGreatDoorZfLgSpec
namespace Go.Proofs.YteefibiikampbaaGreatDoor
open Go.RowKit
set_option linter.unusedVariables false
def frF (e z:Int) (l:List (Int × Int)):Int:=l.foldl (fun s x=>if x.2<=e then wrap64 (s+x.1) else s) z
def stL (e:Int) (l:List (Int × Int)):List (Int × Int):=l.filter (fun x=>decide (e < x.2))
theorem frF_snoc (e z:Int) (l:List (Int × Int)) (k:Nat) (h:k < l.length):frF e z (l.take (k+1))=if l[k].2<=e then wrap64 (frF e z (l.take k)+l[k].1) else frF e z (l.take k):=by
  unfold frF
  rw [List.take_succ_eq_append_getElem h,List.foldl_append]
  rfl
theorem stL_snoc (e:Int) (l:List (Int × Int)) (k:Nat) (h:k < l.length):stL e (l.take (k+1))=if l[k].2<=e then stL e (l.take k) else stL e (l.take k) ++ [l[k]]:=by
  unfold stL
  rw [List.take_succ_eq_append_getElem h,List.filter_append]
  by_cases hh:l[k].2<=e
  · rw [if_pos hh,List.filter_cons_of_neg (by simp;omega),List.filter_nil,List.append_nil]
  · rw [if_neg hh,List.filter_cons_of_pos (by simp;omega),List.filter_nil]
theorem stL_len (e:Int) (l:List (Int × Int)):(stL e l).length<=l.length:=List.length_filter_le _ _
def frA (e:Int) (a:Ac):Ac:=(a.1,frF e a.2.1 a.2.2.2.2,a.2.2.1,a.2.2.2.1,stL e a.2.2.2.2)
def neA (e:Int) (l:List Ac):Int × List Ac:=if (lgB e l && lgB (wrap64 (e+1)) (l.map (frA (wrap64 (e+1)))))=true then (wrap64 (e+1),l.map (frA (wrap64 (e+1)))) else (e,l)
theorem neA_old {e:Int} {l:List Ac} (h:lgB e l=false):neA e l=(e,l):=by unfold neA;rw [h];rfl
theorem neA_new {e:Int} {l:List Ac} (h:lgB (wrap64 (e+1)) (l.map (frA (wrap64 (e+1))))=false):neA e l=(e,l):=by unfold neA;rw [h,Bool.and_false];rfl
theorem neA_yes {e:Int} {l:List Ac} (h:lgB e l=true) (h':lgB (wrap64 (e+1)) (l.map (frA (wrap64 (e+1))))=true):neA e l=(wrap64 (e+1),l.map (frA (wrap64 (e+1)))):=by unfold neA;rw [h,h'];rfl
theorem frA_len (e:Int) (a:Ac):(frA e a).2.2.2.2.length<=a.2.2.2.2.length:=stL_len _ _
theorem fr_all (e:Int) (l:List Ac) (h:∀ a ∈ l,a.1.size<=maxLen/\a.2.2.2.2.length<=4000000):∀ a ∈ l.map (frA e),a.1.size<=maxLen/\a.2.2.2.2.length<=4000000:=by
  intro a ha
  obtain ⟨b,hb,rfl⟩:=List.mem_map.1 ha
  exact ⟨(h b hb).1,Nat.le_trans (frA_len e b) (h b hb).2⟩
def frK (e:Int) (l:List Ac) (k:Nat):List Ac:=(l.take k).map (frA e) ++ l.drop k
theorem frK_zero (e:Int) (l:List Ac):frK e l 0=l:=by simp [frK]
theorem frK_all (e:Int) (l:List Ac):frK e l l.length=l.map (frA e):=by simp [frK]
theorem frK_len (e:Int) (l:List Ac) (k:Nat):(frK e l k).length=l.length:=by simp [frK];omega
theorem frK_at (e:Int) (l:List Ac) (k:Nat) (h:k < l.length):(frK e l k)[k]'(by rw [frK_len];exact h)=l[k]:=by
  unfold frK
  rw [List.getElem_append_right (by simp;omega),List.getElem_drop]
  congr 1
  simp
  omega
theorem frK_next (e:Int) (l:List Ac) (k:Nat) (h:k < l.length):(frK e l k).set k (frA e l[k])=frK e l (k+1):=by
  unfold frK
  rw [List.take_succ_eq_append_getElem h,List.map_append,List.append_assoc,List.set_append_right _ _ (by simp;omega),show k - ((l.take k).map (frA e)).length=0 from by simp;omega,List.drop_eq_getElem_cons h]
  rfl
structure RowG (base:Nat) (w:World) (g n cap:Nat) (Z:List (Ac × Value)):Prop where
  len:Z.length=n
  row:w.ownsRow base 131 5 (.slice (some ⟨g,0,none⟩) n cap) n (Z.map acC).flatten
  lvs:Lvs base w g Z
theorem RowG.own {base:Nat} {w:World} {g n cap:Nat} {Z:List (Ac × Value)} (h:RowG base w g n cap Z):OwnA base w (.slice (some ⟨g,0,none⟩) n cap) (Z.map (·.1)) :=
  ⟨g,cap,Z,rfl,by simp [h.len],by simpa [h.len] using h.row,h.lvs⟩
theorem OwnA.rowG {base:Nat} {w:World} {v:Value} {l:List Ac} (h:OwnA base w v l):∃ g cap Z,v=.slice (some ⟨g,0,none⟩) l.length cap/\Z.map (·.1)=l/\RowG base w g l.length cap Z:=by
  obtain ⟨g,cap,Z,hZ,rfl,ho,hl⟩:=h
  exact ⟨g,cap,Z,rfl,hZ,by rw [<- hZ];simp,ho,hl⟩
theorem RowG.lt {base:Nat} {w:World} {g n cap:Nat} {Z:List (Ac × Value)} (h:RowG base w g n cap Z):base<=g/\g < w.heap.size:=World.ownsRow.lt h.row g rfl
theorem RowG.below {B base:Nat} {w w':World} {g n cap:Nat} {Z:List (Ac × Value)} (h:RowG base w g n cap Z) (hb:Below B w w') (hB:w.heap.size<=B):RowG base w' g n cap Z :=
  ⟨h.len,row_below h.row hb hB,h.lvs.below hb hB⟩
theorem RowG.kept {base:Nat} {w w':World} {g n cap:Nat} {Z:List (Ac × Value)} {row:Option Nat} (h:RowG base w g n cap Z) (hg:w.grownBy w' row) (h1:row ≠ some g) (h2:∀ i (hi:i < Z.length) k,Z[i].2.ownBlock=some k->row ≠ some k):RowG base w' g n cap Z:=by
  refine ⟨h.len,World.ownsRow.kept h.row hg (.inr (fun e=>h1 e.symm)),⟨fun i hi=>World.ownsRow.kept (h.lvs.own i hi) hg ?_,h.lvs.far,h.lvs.apart⟩⟩
  cases hb:Z[i].2.ownBlock with
  | none=>exact .inl rfl
  | some k=>exact .inr (fun e=>h2 i hi k hb e.symm)
theorem RowG.other {base:Nat} {w:World} {g n cap:Nat} {Z:List (Ac × Value)} (h:RowG base w g n cap Z) (b j:Nat) (u:Value) (h1:b ≠ g) (h2:∀ i (hi:i < Z.length) k,Z[i].2.ownBlock=some k->b ≠ k):RowG base (w.setCell ⟨b,j,none⟩ u) g n cap Z :=
  h.kept (grown_set w b j u) (fun e=>h1 (by injection e)) (fun i hi k hk e=>h2 i hi k hk (by injection e))
theorem RowG.cell {base:Nat} {w:World} {g n cap:Nat} {Z:List (Ac × Value)} (h:RowG base w g n cap Z) (k:Nat) (hk:k < Z.length) (j:Nat) (hj:j < 5):w.cell? ⟨g,k * 5+j,none⟩=(acC Z[k])[j]?:=by
  rw [h.row.cellAt (k * 5+j) (by have:=h.len;omega),flat_get 5 (Z.map acC) k j (by simpa using hk) (acM_sz Z) hj]
  simp
theorem RowG.at {base:Nat} {w:World} {g n cap:Nat} {Z:List (Ac × Value)} (h:RowG base w g n cap Z) (k:Nat) (hk:k < Z.length):AcAt w g (k * 5) Z[k].1 Z[k].2 :=
  ⟨by have:=h.cell k hk 0 (by omega);simpa [acC] using this,by have:=h.cell k hk 1 (by omega);simpa [acC] using this,by have:=h.cell k hk 2 (by omega);simpa [acC] using this,by have:=h.cell k hk 3 (by omega);simpa [acC] using this,by have:=h.cell k hk 4 (by omega);simpa [acC] using this⟩
theorem RowG.frozen {base:Nat} {w:World} {g n cap:Nat} {Z:List (Ac × Value)} (h:RowG base w g n cap Z) (j:Nat):w.frozen? ⟨g,j,none⟩=false:=h.row.frozenAt j
theorem RowG.caps {base:Nat} {w:World} {g n cap:Nat} {Z:List (Ac × Value)} (h:RowG base w g n cap Z):n<=cap/\cap<=maxLen:=by
  rcases h.row.2 with ⟨hv,_⟩ | ⟨g',cap',cur,hv,hb,hg,hnc,hcm,hcs,ht⟩
  · cases hv
  · simp only [Value.slice.injEq,Option.some.injEq,Addr.mk.injEq,and_true,true_and] at hv
    obtain ⟨rfl,rfl⟩:=hv
    exact ⟨hnc,hcm⟩
theorem tl_set (Z:List (Ac × Value)) (k:Nat) (q:Ac × Value) (hk:k < Z.length) (h:tlZ q=tlZ Z[k]):(Z.set k q).map tlZ=Z.map tlZ:=by
  apply List.ext_getElem (by simp)
  intro i h1 h2
  simp only [List.getElem_map,List.getElem_set]
  by_cases e:k=i
  · subst e;simp [h]
  · simp [e]
theorem RowG.put {base:Nat} {w:World} {g n cap:Nat} {Z:List (Ac × Value)} (h:RowG base w g n cap Z) (k:Nat) (hk:k < Z.length) (j:Nat) (hj:j < 5) (u:Value) (q:Ac × Value) (hq:acC q=(acC Z[k]).set j u) (ht:tlZ q=tlZ Z[k]) :
    RowG base (w.setCell ⟨g,k * 5+j,none⟩ u) g n cap (Z.set k q):=by
  have hst:=(h.row.stored (k * 5+j) u).1
  have e:(Z.map acC).flatten.set (k * 5+j) u=((Z.set k q).map acC).flatten:=by
    rw [flat_set 5 _ (Z.map acC) k j (by simpa using hk) (acM_sz Z) hj,List.map_set]
    congr 2
    rw [hq]
    simp
  rw [e] at hst
  exact ⟨by simp [h.len],hst,(h.lvs.set _ _).same (tl_set Z k q hk ht)⟩
theorem Lvs.putK {base:Nat} {w:World} {g:Nat} {Z:List (Ac × Value)} (h:Lvs base w g Z) (k:Nat) (hk:k < Z.length) (q:Ac × Value) (ho:OwnL base w q.2 q.1.2.2.2.2) (hf:∀ b,q.2.ownBlock=some b->b ≠ g)
    (hn:∀ i (hi:i < Z.length),i ≠ k->∀ b,Z[i].2.ownBlock=some b->q.2.ownBlock ≠ some b):Lvs base w g (Z.set k q):=by
  refine ⟨fun i hi=>?_,fun i hi b hb=>?_,fun i j hi hj hij b hb=>?_⟩
  · rw [List.getElem_set]
    split
    · exact ho
    · exact h.own i (by simpa using hi)
  · rw [List.getElem_set] at hb
    split at hb
    · exact hf b hb
    · exact h.far i (by simpa using hi) b hb
  · rw [List.getElem_set] at hb ⊢
    split at hb
    · rename_i e1
      rw [if_neg (by omega)]
      exact fun e=>hn j (by simpa using hj) (by omega) b e hb
    · rename_i e1
      split
      · exact hn i (by simpa using hi) (by omega) b hb
      · exact h.apart i j (by simpa using hi) (by simpa using hj) hij b hb
theorem RowG.putL {base:Nat} {w:World} {g n cap:Nat} {Z:List (Ac × Value)} (h:RowG base w g n cap Z) (k:Nat) (hk:k < Z.length) (q:Ac × Value) (hq:acC q=(acC Z[k]).set 4 q.2) (ho:OwnL base w q.2 q.1.2.2.2.2) (hf:∀ b,q.2.ownBlock=some b->b ≠ g)
    (hn:∀ i (hi:i < Z.length),i ≠ k->∀ b,Z[i].2.ownBlock=some b->q.2.ownBlock ≠ some b):RowG base (w.setCell ⟨g,k * 5+4,none⟩ q.2) g n cap (Z.set k q):=by
  have hst:=(h.row.stored (k * 5+4) q.2).1
  have e:(Z.map acC).flatten.set (k * 5+4) q.2=((Z.set k q).map acC).flatten:=by
    rw [flat_set 5 _ (Z.map acC) k 4 (by simpa using hk) (acM_sz Z) (by omega),List.map_set]
    congr 2
    rw [hq]
    simp
  rw [e] at hst
  exact ⟨by simp [h.len],hst,((h.lvs.putK k hk q ho hf hn).set _ _)⟩
theorem RowG.put5 {base:Nat} {w:World} {g n cap:Nat} {Z:List (Ac × Value)} (h:RowG base w g n cap Z) (k:Nat) (hk:k < Z.length) (q:Ac × Value) (ho:OwnL base w q.2 q.1.2.2.2.2) (hf:∀ b,q.2.ownBlock=some b->b ≠ g)
    (hn:∀ i (hi:i < Z.length),i ≠ k->∀ b,Z[i].2.ownBlock=some b->q.2.ownBlock ≠ some b) :
    RowG base (((((w.setCell ⟨g,k * 5,none⟩ (.string q.1.1)).setCell ⟨g,k * 5+1,none⟩ (.int .i64 q.1.2.1)).setCell ⟨g,k * 5+2,none⟩ (.int .i64 q.1.2.2.1)).setCell ⟨g,k * 5+3,none⟩ (.int .i64 q.1.2.2.2.1)).setCell ⟨g,k * 5+4,none⟩ q.2) g n cap (Z.set k q):=by
  have s1:=(h.row.stored (k * 5) (.string q.1.1)).1
  have s2:=(s1.stored (k * 5+1) (.int .i64 q.1.2.1)).1
  have s3:=(s2.stored (k * 5+2) (.int .i64 q.1.2.2.1)).1
  have s4:=(s3.stored (k * 5+3) (.int .i64 q.1.2.2.2.1)).1
  have s5:=(s4.stored (k * 5+4) q.2).1
  rw [flat_put5 _ k _ _ _ _ _ (by simpa using hk) (acM_sz Z),show [Value.string q.1.1,.int .i64 q.1.2.1,.int .i64 q.1.2.2.1,.int .i64 q.1.2.2.2.1,q.2]=acC q from rfl,<- List.map_set] at s5
  exact ⟨by simp [h.len],s5,(((((h.lvs.putK k hk q ho hf hn).set _ _).set _ _).set _ _).set _ _).set _ _⟩
theorem fst_set (Z:List (Ac × Value)) (k:Nat) (q:Ac × Value):(Z.set k q).map (·.1)=(Z.map (·.1)).set k q.1:=by rw [List.map_set]
theorem fst_get {Z:List (Ac × Value)} {L:List Ac} (hZ:Z.map (·.1)=L) (k:Nat) (hk:k < Z.length) (hk':k < L.length):Z[k].1=L[k]:=by subst hZ;simp
theorem set_get (Z:List (Ac × Value)) (k:Nat) (q:Ac × Value) (hk:k < (Z.set k q).length):(Z.set k q)[k]=q:=by simp
theorem Blk.set {W:World} {B:Nat} {t:TypeId} {cs:List Value} (h:Blk W B t cs) (j:Nat) (u:Value):Blk (W.setCell ⟨B,j,none⟩ u) B t (cs.set j u):=by
  have e:=heap_setCell_same W B j cs.toArray t u h
  rw [List.setIfInBounds_toArray] at e
  exact e
theorem Blk.other {W:World} {B:Nat} {t:TypeId} {cs:List Value} (h:Blk W B t cs) (b j:Nat) (u:Value) (hne:B ≠ b):Blk (W.setCell ⟨b,j,none⟩ u) B t cs:=(heap_setCell_other W ⟨b,j,none⟩ B u hne).trans h
theorem Blk.other5 {W:World} {B:Nat} {t:TypeId} {cs:List Value} (h:Blk W B t cs) (b o:Nat) (y0 y1 y2 y3 y4:Value) (hne:B ≠ b) :
    Blk (((((W.setCell ⟨b,o,none⟩ y0).setCell ⟨b,o+1,none⟩ y1).setCell ⟨b,o+2,none⟩ y2).setCell ⟨b,o+3,none⟩ y3).setCell ⟨b,o+4,none⟩ y4) B t cs :=
  ((((h.other b o y0 hne).other b (o+1) y1 hne).other b (o+2) y2 hne).other b (o+3) y3 hne).other b (o+4) y4 hne
theorem below_set5 {B:Nat} {a W:World} (h:Below B a W) (b o:Nat) (y0 y1 y2 y3 y4:Value) (hb:B<=b) :
    Below B a (((((W.setCell ⟨b,o,none⟩ y0).setCell ⟨b,o+1,none⟩ y1).setCell ⟨b,o+2,none⟩ y2).setCell ⟨b,o+3,none⟩ y3).setCell ⟨b,o+4,none⟩ y4) :=
  ((((h.setCell (p:=⟨b,o,none⟩) hb y0).setCell (p:=⟨b,o+1,none⟩) hb y1).setCell (p:=⟨b,o+2,none⟩) hb y2).setCell (p:=⟨b,o+3,none⟩) hb y3).setCell (p:=⟨b,o+4,none⟩) hb y4
theorem Blk.alloc {W:World} {B:Nat} {t:TypeId} {cs:List Value} (h:Blk W B t cs) (o:Obj):Blk (W.alloc o) B t cs:=h.below ((Below.refl W.heap.size W).alloc (Nat.le_refl _) o) h.lt
end Go.Proofs.YteefibiikampbaaGreatDoor
