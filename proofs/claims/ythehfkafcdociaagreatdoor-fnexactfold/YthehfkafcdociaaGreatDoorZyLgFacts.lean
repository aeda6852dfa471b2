/- Plain facts on what the ledger's functions answer. -/
import Derived.Test.YthehfkafcdociaaGreatDoorZyLgNext
namespace Go.Proofs.YthehfkafcdociaaGreatDoor
open Go.RowKit
set_option linter.unusedVariables false
structure RowG (base:Nat) (w:World) (g n cap:Nat) (Z:List (Ac × Value)):Prop where
  len:Z.length=n
  row:w.ownsRow base 122 5 (.slice (some ⟨g,0,none⟩) n cap) n (Z.map acC).flatten
  lvs:Lvs base w g Z
theorem RowG.own {base:Nat} {w:World} {g n cap:Nat} {Z:List (Ac × Value)} (h:RowG base w g n cap Z):OwnA base w (.slice (some ⟨g,0,none⟩) n cap) (Z.map (·.1)) :=
  ⟨g,cap,Z,rfl,by simp [h.len],by simpa [h.len] using h.row,h.lvs⟩
theorem OwnA.rowG {base:Nat} {w:World} {v:Value} {l:List Ac} (h:OwnA base w v l):∃ g cap Z,v=.slice (some ⟨g,0,none⟩) l.length cap/\Z.map (·.1)=l/\RowG base w g l.length cap Z:=by
  obtain ⟨g,cap,Z,hZ,rfl,ho,hl⟩:=h
  exact ⟨g,cap,Z,rfl,hZ,by rw [<- hZ];simp,ho,hl⟩
theorem RowG.lt {base:Nat} {w:World} {g n cap:Nat} {Z:List (Ac × Value)} (h:RowG base w g n cap Z):base<=g/\g < w.heap.size:=World.ownsRow.lt h.row g rfl
theorem RowG.below {B base:Nat} {w w':World} {g n cap:Nat} {Z:List (Ac × Value)} (h:RowG base w g n cap Z) (hb:Below B w w') (hB:w.heap.size<=B):RowG base w' g n cap Z :=
  ⟨h.len,row_below h.row hb hB,h.lvs.below hb hB⟩
theorem RowG.kept {base:Nat} {w w':World} {g n cap:Nat} {Z:List (Ac × Value)} {row:Option Nat} (h:RowG base w g n cap Z) (hg:w.grownBy w' row) (h1:row ≠ some g) (h2:∀ i (hi:i < Z.length) k,Z[i].2.ownBlock=some k->row ≠ some k):RowG base w' g n cap Z:=by
  refine ⟨h.len,World.ownsRow.kept h.row hg (.inr (fun e=>h1 e.symm)),⟨fun i hi=>World.ownsRow.kept (h.lvs.own i hi) hg ?_,h.lvs.far,h.lvs.apart⟩⟩
  cases hb:Z[i].2.ownBlock with
  | none=>exact .inl rfl
  | some k=>exact .inr (fun e=>h2 i hi k hb e.symm)
theorem RowG.other {base:Nat} {w:World} {g n cap:Nat} {Z:List (Ac × Value)} (h:RowG base w g n cap Z) (b j:Nat) (u:Value) (h1:b ≠ g) (h2:∀ i (hi:i < Z.length) k,Z[i].2.ownBlock=some k->b ≠ k):RowG base (w.setCell ⟨b,j,none⟩ u) g n cap Z :=
  h.kept (grown_set w b j u) (fun e=>h1 (by injection e)) (fun i hi k hk e=>h2 i hi k hk (by injection e))
theorem RowG.cell {base:Nat} {w:World} {g n cap:Nat} {Z:List (Ac × Value)} (h:RowG base w g n cap Z) (k:Nat) (hk:k < Z.length) (j:Nat) (hj:j < 5):w.cell? ⟨g,k * 5+j,none⟩=(acC Z[k])[j]?:=by
  rw [h.row.cellAt (k * 5+j) (by have:=h.len;omega),flat_get 5 (Z.map acC) k j (by simpa using hk) (acM_sz Z) hj]
  simp
theorem RowG.at {base:Nat} {w:World} {g n cap:Nat} {Z:List (Ac × Value)} (h:RowG base w g n cap Z) (k:Nat) (hk:k < Z.length):AcAt w g (k * 5) Z[k].1 Z[k].2 :=
  ⟨by have:=h.cell k hk 0 (by omega);simpa [acC] using this,by have:=h.cell k hk 1 (by omega);simpa [acC] using this,by have:=h.cell k hk 2 (by omega);simpa [acC] using this,by have:=h.cell k hk 3 (by omega);simpa [acC] using this,by have:=h.cell k hk 4 (by omega);simpa [acC] using this⟩
theorem RowG.frozen {base:Nat} {w:World} {g n cap:Nat} {Z:List (Ac × Value)} (h:RowG base w g n cap Z) (j:Nat):w.frozen? ⟨g,j,none⟩=false:=h.row.frozenAt j
theorem RowG.caps {base:Nat} {w:World} {g n cap:Nat} {Z:List (Ac × Value)} (h:RowG base w g n cap Z):n<=cap/\cap<=maxLen:=by
  rcases h.row.2 with ⟨hv,_⟩ | ⟨g',cap',cur,hv,hb,hg,hnc,hcm,hcs,ht⟩
  · cases hv
  · simp only [Value.slice.injEq,Option.some.injEq,Addr.mk.injEq,and_true,true_and] at hv
    obtain ⟨rfl,rfl⟩:=hv
    exact ⟨hnc,hcm⟩
theorem tl_set (Z:List (Ac × Value)) (k:Nat) (q:Ac × Value) (hk:k < Z.length) (h:tlZ q=tlZ Z[k]):(Z.set k q).map tlZ=Z.map tlZ:=by
  apply List.ext_getElem (by simp)
  intro i h1 h2
  simp only [List.getElem_map,List.getElem_set]
  by_cases e:k=i
  · subst e;simp [h]
  · simp [e]
theorem RowG.put {base:Nat} {w:World} {g n cap:Nat} {Z:List (Ac × Value)} (h:RowG base w g n cap Z) (k:Nat) (hk:k < Z.length) (j:Nat) (hj:j < 5) (u:Value) (q:Ac × Value) (hq:acC q=(acC Z[k]).set j u) (ht:tlZ q=tlZ Z[k]) :
    RowG base (w.setCell ⟨g,k * 5+j,none⟩ u) g n cap (Z.set k q):=by
  have hst:=(h.row.stored (k * 5+j) u).1
  have e:(Z.map acC).flatten.set (k * 5+j) u=((Z.set k q).map acC).flatten:=by
    rw [flat_set 5 _ (Z.map acC) k j (by simpa using hk) (acM_sz Z) hj,List.map_set]
    congr 2
    rw [hq]
    simp
  rw [e] at hst
  exact ⟨by simp [h.len],hst,(h.lvs.set _ _).same (tl_set Z k q hk ht)⟩
theorem Lvs.putK {base:Nat} {w:World} {g:Nat} {Z:List (Ac × Value)} (h:Lvs base w g Z) (k:Nat) (hk:k < Z.length) (q:Ac × Value) (ho:OwnL base w q.2 q.1.2.2.2.2) (hf:∀ b,q.2.ownBlock=some b->b ≠ g)
    (hn:∀ i (hi:i < Z.length),i ≠ k->∀ b,Z[i].2.ownBlock=some b->q.2.ownBlock ≠ some b):Lvs base w g (Z.set k q):=by
  refine ⟨fun i hi=>?_,fun i hi b hb=>?_,fun i j hi hj hij b hb=>?_⟩
  · rw [List.getElem_set]
    split
    · exact ho
    · exact h.own i (by simpa using hi)
  · rw [List.getElem_set] at hb
    split at hb
    · exact hf b hb
    · exact h.far i (by simpa using hi) b hb
  · rw [List.getElem_set] at hb ⊢
    split at hb
    · rename_i e1
      rw [if_neg (by omega)]
      exact fun e=>hn j (by simpa using hj) (by omega) b e hb
    · rename_i e1
      split
      · exact hn i (by simpa using hi) (by omega) b hb
      · exact h.apart i j (by simpa using hi) (by simpa using hj) hij b hb
theorem RowG.putL {base:Nat} {w:World} {g n cap:Nat} {Z:List (Ac × Value)} (h:RowG base w g n cap Z) (k:Nat) (hk:k < Z.length) (q:Ac × Value) (hq:acC q=(acC Z[k]).set 4 q.2) (ho:OwnL base w q.2 q.1.2.2.2.2) (hf:∀ b,q.2.ownBlock=some b->b ≠ g)
    (hn:∀ i (hi:i < Z.length),i ≠ k->∀ b,Z[i].2.ownBlock=some b->q.2.ownBlock ≠ some b):RowG base (w.setCell ⟨g,k * 5+4,none⟩ q.2) g n cap (Z.set k q):=by
  have hst:=(h.row.stored (k * 5+4) q.2).1
  have e:(Z.map acC).flatten.set (k * 5+4) q.2=((Z.set k q).map acC).flatten:=by
    rw [flat_set 5 _ (Z.map acC) k 4 (by simpa using hk) (acM_sz Z) (by omega),List.map_set]
    congr 2
    rw [hq]
    simp
  rw [e] at hst
  exact ⟨by simp [h.len],hst,((h.lvs.putK k hk q ho hf hn).set _ _)⟩
theorem RowG.put5 {base:Nat} {w:World} {g n cap:Nat} {Z:List (Ac × Value)} (h:RowG base w g n cap Z) (k:Nat) (hk:k < Z.length) (q:Ac × Value) (ho:OwnL base w q.2 q.1.2.2.2.2) (hf:∀ b,q.2.ownBlock=some b->b ≠ g)
    (hn:∀ i (hi:i < Z.length),i ≠ k->∀ b,Z[i].2.ownBlock=some b->q.2.ownBlock ≠ some b) :
    RowG base (((((w.setCell ⟨g,k * 5,none⟩ (.string q.1.1)).setCell ⟨g,k * 5+1,none⟩ (.int .i64 q.1.2.1)).setCell ⟨g,k * 5+2,none⟩ (.int .i64 q.1.2.2.1)).setCell ⟨g,k * 5+3,none⟩ (.int .i64 q.1.2.2.2.1)).setCell ⟨g,k * 5+4,none⟩ q.2) g n cap (Z.set k q):=by
  have s1:=(h.row.stored (k * 5) (.string q.1.1)).1
  have s2:=(s1.stored (k * 5+1) (.int .i64 q.1.2.1)).1
  have s3:=(s2.stored (k * 5+2) (.int .i64 q.1.2.2.1)).1
  have s4:=(s3.stored (k * 5+3) (.int .i64 q.1.2.2.2.1)).1
  have s5:=(s4.stored (k * 5+4) q.2).1
  rw [flat_put5 _ k _ _ _ _ _ (by simpa using hk) (acM_sz Z),show [Value.string q.1.1,.int .i64 q.1.2.1,.int .i64 q.1.2.2.1,.int .i64 q.1.2.2.2.1,q.2]=acC q from rfl,<- List.map_set] at s5
  exact ⟨by simp [h.len],s5,(((((h.lvs.putK k hk q ho hf hn).set _ _).set _ _).set _ _).set _ _).set _ _⟩
theorem fst_set (Z:List (Ac × Value)) (k:Nat) (q:Ac × Value):(Z.set k q).map (·.1)=(Z.map (·.1)).set k q.1:=by rw [List.map_set]
theorem fst_get {Z:List (Ac × Value)} {L:List Ac} (hZ:Z.map (·.1)=L) (k:Nat) (hk:k < Z.length) (hk':k < L.length):Z[k].1=L[k]:=by subst hZ;simp
theorem set_get (Z:List (Ac × Value)) (k:Nat) (q:Ac × Value) (hk:k < (Z.set k q).length):(Z.set k q)[k]=q:=by simp
theorem Blk.set {W:World} {B:Nat} {t:TypeId} {cs:List Value} (h:Blk W B t cs) (j:Nat) (u:Value):Blk (W.setCell ⟨B,j,none⟩ u) B t (cs.set j u):=by
  have e:=heap_setCell_same W B j cs.toArray t u h
  rw [List.setIfInBounds_toArray] at e
  exact e
theorem Blk.other {W:World} {B:Nat} {t:TypeId} {cs:List Value} (h:Blk W B t cs) (b j:Nat) (u:Value) (hne:B ≠ b):Blk (W.setCell ⟨b,j,none⟩ u) B t cs:=(heap_setCell_other W ⟨b,j,none⟩ B u hne).trans h
theorem Blk.other5 {W:World} {B:Nat} {t:TypeId} {cs:List Value} (h:Blk W B t cs) (b o:Nat) (y0 y1 y2 y3 y4:Value) (hne:B ≠ b) :
    Blk (((((W.setCell ⟨b,o,none⟩ y0).setCell ⟨b,o+1,none⟩ y1).setCell ⟨b,o+2,none⟩ y2).setCell ⟨b,o+3,none⟩ y3).setCell ⟨b,o+4,none⟩ y4) B t cs :=
  ((((h.other b o y0 hne).other b (o+1) y1 hne).other b (o+2) y2 hne).other b (o+3) y3 hne).other b (o+4) y4 hne
theorem below_set5 {B:Nat} {a W:World} (h:Below B a W) (b o:Nat) (y0 y1 y2 y3 y4:Value) (hb:B<=b) :
    Below B a (((((W.setCell ⟨b,o,none⟩ y0).setCell ⟨b,o+1,none⟩ y1).setCell ⟨b,o+2,none⟩ y2).setCell ⟨b,o+3,none⟩ y3).setCell ⟨b,o+4,none⟩ y4) :=
  ((((h.setCell (p:=⟨b,o,none⟩) hb y0).setCell (p:=⟨b,o+1,none⟩) hb y1).setCell (p:=⟨b,o+2,none⟩) hb y2).setCell (p:=⟨b,o+3,none⟩) hb y3).setCell (p:=⟨b,o+4,none⟩) hb y4
theorem Blk.alloc {W:World} {B:Nat} {t:TypeId} {cs:List Value} (h:Blk W B t cs) (o:Obj):Blk (W.alloc o) B t cs:=h.below ((Below.refl W.heap.size W).alloc (Nat.le_refl _) o) h.lt
theorem nxs_tot:∀ (k:Nat) (l:List Ac),nxs k l<=k+4 * l.length+2 * totA l
  | k,[]=>by simp [nxs]
  | k,a :: t=>by
    have h:=nxs_tot (nx k a) t
    have e:totA (a :: t)=wgA a+totA t:=by simp [totA]
    have e2:a.2.2.2.2.length<=wgA a:=by unfold wgA;omega
    unfold nx at h
    simp only [nxs,nx,List.length_cons]
    rw [e]
    omega
theorem nxs_four:∀ (k:Nat) (l:List Ac),(∀ a ∈ l,a.2.2.2.2.length<=4)->nxs k l<=k+12 * l.length
  | k,[],_=>by simp [nxs]
  | k,a :: t,h=>by
    have h':=nxs_four (nx k a) t (fun b hb=>h b (List.mem_cons_of_mem _ hb))
    have e:=h a List.mem_cons_self
    unfold nx at h'
    simp only [nxs,nx,List.length_cons]
    omega
theorem acs_four {l:List Ac} (h:acsB l=true):∀ a ∈ l,a.2.2.2.2.length<=4:=by
  intro a ha
  obtain ⟨j,hj,rfl⟩:=List.mem_iff_getElem.1 ha
  unfold acsB at h
  rw [Bool.and_eq_true,List.all_eq_true] at h
  have:=h.1 j (List.mem_range.2 hj)
  rw [acAt_eq l j l[j] hj rfl,Bool.and_eq_true] at this
  have h2:=this.1
  unfold acB at h2
  simp only [Bool.and_eq_true,decide_eq_true_eq] at h2
  exact h2.2.2.2.2.1
theorem acs_len' {l:List Ac} (h:acsB l=true):l.length<=12:=by
  unfold acsB at h
  simp only [Bool.and_eq_true,decide_eq_true_eq] at h
  exact h.2.1
theorem lg_acs {e:Int} {l:List Ac} (h:lgB e l=true):acsB l=true:=by unfold lgB at h;rw [Bool.and_eq_true] at h;exact h.2
theorem neA_is (e:Int) (l:List Ac):(neA e l).2=l\/acsB (neA e l).2=true:=by
  unfold neA
  split
  · rename_i h
    rw [Bool.and_eq_true] at h
    exact .inr (lg_acs h.2)
  · exact .inl rfl
end Go.Proofs.YthehfkafcdociaaGreatDoor
