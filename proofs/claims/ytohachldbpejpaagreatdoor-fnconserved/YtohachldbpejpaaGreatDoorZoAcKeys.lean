/- The names of the book, in order. -/
import Derived.Test.YtohachldbpejpaaGreatDoorZoLgVal
import Derived.Shelf.SlGeneric
import Derived.Shelf.SlIter.Nil
import Derived.Shelf.SortM.Plain
import Derived.Shelf.SortM.SortNone
import Derived.Ground.GgzProg
import Derived.Ground.SlgmProg
import Derived.Test.YtohachldbpejpaaGreatDoorProg
import Derived.Maps.OwnSet
import Derived.StringKeys
import Derived.Sort.KeysCollected
set_option maxHeartbeats 1000000
namespace Go.Proofs.YtohachldbpejpaaGreatDoor
open Go.RowKit
set_option linter.unusedVariables false
structure RowG (base:Nat) (w:World) (g n cap:Nat) (Z:List (Ac × Value)):Prop where
  len:Z.length=n
  row:w.ownsRow base 105 5 (.slice (some ⟨g,0,none⟩) n cap) n (Z.map acC).flatten
  lvs:Lvs base w g Z
theorem RowG.own {base:Nat} {w:World} {g n cap:Nat} {Z:List (Ac × Value)} (h:RowG base w g n cap Z):OwnA base w (.slice (some ⟨g,0,none⟩) n cap) (Z.map (·.1)) :=
  ⟨g,cap,Z,rfl,by simp [h.len],by simpa [h.len] using h.row,h.lvs⟩
theorem OwnA.rowG {base:Nat} {w:World} {v:Value} {l:List Ac} (h:OwnA base w v l):∃ g cap Z,v=.slice (some ⟨g,0,none⟩) l.length cap/\Z.map (·.1)=l/\RowG base w g l.length cap Z:=by
  obtain ⟨g,cap,Z,hZ,rfl,ho,hl⟩:=h
  exact ⟨g,cap,Z,rfl,hZ,by rw [<- hZ];simp,ho,hl⟩
theorem RowG.lt {base:Nat} {w:World} {g n cap:Nat} {Z:List (Ac × Value)} (h:RowG base w g n cap Z):base<=g/\g < w.heap.size:=World.ownsRow.lt h.row g rfl
theorem RowG.below {B base:Nat} {w w':World} {g n cap:Nat} {Z:List (Ac × Value)} (h:RowG base w g n cap Z) (hb:Below B w w') (hB:w.heap.size<=B):RowG base w' g n cap Z :=
  ⟨h.len,row_below h.row hb hB,h.lvs.below hb hB⟩
theorem RowG.kept {base:Nat} {w w':World} {g n cap:Nat} {Z:List (Ac × Value)} {row:Option Nat} (h:RowG base w g n cap Z) (hg:w.grownBy w' row) (h1:row ≠ some g) (h2:∀ i (hi:i < Z.length) k,Z[i].2.ownBlock=some k->row ≠ some k):RowG base w' g n cap Z:=by
  refine ⟨h.len,World.ownsRow.kept h.row hg (.inr (fun e=>h1 e.symm)),⟨fun i hi=>World.ownsRow.kept (h.lvs.own i hi) hg ?_,h.lvs.far,h.lvs.apart⟩⟩
  cases hb:Z[i].2.ownBlock with
  | none=>exact .inl rfl
  | some k=>exact .inr (fun e=>h2 i hi k hb e.symm)
theorem RowG.other {base:Nat} {w:World} {g n cap:Nat} {Z:List (Ac × Value)} (h:RowG base w g n cap Z) (b j:Nat) (u:Value) (h1:b ≠ g) (h2:∀ i (hi:i < Z.length) k,Z[i].2.ownBlock=some k->b ≠ k):RowG base (w.setCell ⟨b,j,none⟩ u) g n cap Z :=
  h.kept (grown_set w b j u) (fun e=>h1 (by injection e)) (fun i hi k hk e=>h2 i hi k hk (by injection e))
theorem RowG.cell {base:Nat} {w:World} {g n cap:Nat} {Z:List (Ac × Value)} (h:RowG base w g n cap Z) (k:Nat) (hk:k < Z.length) (j:Nat) (hj:j < 5):w.cell? ⟨g,k * 5+j,none⟩=(acC Z[k])[j]?:=by
  rw [h.row.cellAt (k * 5+j) (by have:=h.len;omega),flat_get 5 (Z.map acC) k j (by simpa using hk) (acM_sz Z) hj]
  simp
theorem RowG.at {base:Nat} {w:World} {g n cap:Nat} {Z:List (Ac × Value)} (h:RowG base w g n cap Z) (k:Nat) (hk:k < Z.length):AcAt w g (k * 5) Z[k].1 Z[k].2 :=
  ⟨by have:=h.cell k hk 0 (by omega);simpa [acC] using this,by have:=h.cell k hk 1 (by omega);simpa [acC] using this,by have:=h.cell k hk 2 (by omega);simpa [acC] using this,by have:=h.cell k hk 3 (by omega);simpa [acC] using this,by have:=h.cell k hk 4 (by omega);simpa [acC] using this⟩
theorem RowG.frozen {base:Nat} {w:World} {g n cap:Nat} {Z:List (Ac × Value)} (h:RowG base w g n cap Z) (j:Nat):w.frozen? ⟨g,j,none⟩=false:=h.row.frozenAt j
theorem RowG.caps {base:Nat} {w:World} {g n cap:Nat} {Z:List (Ac × Value)} (h:RowG base w g n cap Z):n<=cap/\cap<=maxLen:=by
  rcases h.row.2 with ⟨hv,_⟩ | ⟨g',cap',cur,hv,hb,hg,hnc,hcm,hcs,ht⟩
  · cases hv
  · simp only [Value.slice.injEq,Option.some.injEq,Addr.mk.injEq,and_true,true_and] at hv
    obtain ⟨rfl,rfl⟩:=hv
    exact ⟨hnc,hcm⟩
theorem tl_set (Z:List (Ac × Value)) (k:Nat) (q:Ac × Value) (hk:k < Z.length) (h:tlZ q=tlZ Z[k]):(Z.set k q).map tlZ=Z.map tlZ:=by
  apply List.ext_getElem (by simp)
  intro i h1 h2
  simp only [List.getElem_map,List.getElem_set]
  by_cases e:k=i
  · subst e;simp [h]
  · simp [e]
theorem RowG.put {base:Nat} {w:World} {g n cap:Nat} {Z:List (Ac × Value)} (h:RowG base w g n cap Z) (k:Nat) (hk:k < Z.length) (j:Nat) (hj:j < 5) (u:Value) (q:Ac × Value) (hq:acC q=(acC Z[k]).set j u) (ht:tlZ q=tlZ Z[k]) :
    RowG base (w.setCell ⟨g,k * 5+j,none⟩ u) g n cap (Z.set k q):=by
  have hst:=(h.row.stored (k * 5+j) u).1
  have e:(Z.map acC).flatten.set (k * 5+j) u=((Z.set k q).map acC).flatten:=by
    rw [flat_set 5 _ (Z.map acC) k j (by simpa using hk) (acM_sz Z) hj,List.map_set]
    congr 2
    rw [hq]
    simp
  rw [e] at hst
  exact ⟨by simp [h.len],hst,(h.lvs.set _ _).same (tl_set Z k q hk ht)⟩
theorem Lvs.putK {base:Nat} {w:World} {g:Nat} {Z:List (Ac × Value)} (h:Lvs base w g Z) (k:Nat) (hk:k < Z.length) (q:Ac × Value) (ho:OwnL base w q.2 q.1.2.2.2.2) (hf:∀ b,q.2.ownBlock=some b->b ≠ g)
    (hn:∀ i (hi:i < Z.length),i ≠ k->∀ b,Z[i].2.ownBlock=some b->q.2.ownBlock ≠ some b):Lvs base w g (Z.set k q):=by
  refine ⟨fun i hi=>?_,fun i hi b hb=>?_,fun i j hi hj hij b hb=>?_⟩
  · rw [List.getElem_set]
    split
    · exact ho
    · exact h.own i (by simpa using hi)
  · rw [List.getElem_set] at hb
    split at hb
    · exact hf b hb
    · exact h.far i (by simpa using hi) b hb
  · rw [List.getElem_set] at hb ⊢
    split at hb
    · rename_i e1
      rw [if_neg (by omega)]
      exact fun e=>hn j (by simpa using hj) (by omega) b e hb
    · rename_i e1
      split
      · exact hn i (by simpa using hi) (by omega) b hb
      · exact h.apart i j (by simpa using hi) (by simpa using hj) hij b hb
theorem RowG.putL {base:Nat} {w:World} {g n cap:Nat} {Z:List (Ac × Value)} (h:RowG base w g n cap Z) (k:Nat) (hk:k < Z.length) (q:Ac × Value) (hq:acC q=(acC Z[k]).set 4 q.2) (ho:OwnL base w q.2 q.1.2.2.2.2) (hf:∀ b,q.2.ownBlock=some b->b ≠ g)
    (hn:∀ i (hi:i < Z.length),i ≠ k->∀ b,Z[i].2.ownBlock=some b->q.2.ownBlock ≠ some b):RowG base (w.setCell ⟨g,k * 5+4,none⟩ q.2) g n cap (Z.set k q):=by
  have hst:=(h.row.stored (k * 5+4) q.2).1
  have e:(Z.map acC).flatten.set (k * 5+4) q.2=((Z.set k q).map acC).flatten:=by
    rw [flat_set 5 _ (Z.map acC) k 4 (by simpa using hk) (acM_sz Z) (by omega),List.map_set]
    congr 2
    rw [hq]
    simp
  rw [e] at hst
  exact ⟨by simp [h.len],hst,((h.lvs.putK k hk q ho hf hn).set _ _)⟩
theorem RowG.put5 {base:Nat} {w:World} {g n cap:Nat} {Z:List (Ac × Value)} (h:RowG base w g n cap Z) (k:Nat) (hk:k < Z.length) (q:Ac × Value) (ho:OwnL base w q.2 q.1.2.2.2.2) (hf:∀ b,q.2.ownBlock=some b->b ≠ g)
    (hn:∀ i (hi:i < Z.length),i ≠ k->∀ b,Z[i].2.ownBlock=some b->q.2.ownBlock ≠ some b) :
    RowG base (((((w.setCell ⟨g,k * 5,none⟩ (.string q.1.1)).setCell ⟨g,k * 5+1,none⟩ (.int .i64 q.1.2.1)).setCell ⟨g,k * 5+2,none⟩ (.int .i64 q.1.2.2.1)).setCell ⟨g,k * 5+3,none⟩ (.int .i64 q.1.2.2.2.1)).setCell ⟨g,k * 5+4,none⟩ q.2) g n cap (Z.set k q):=by
  have s1:=(h.row.stored (k * 5) (.string q.1.1)).1
  have s2:=(s1.stored (k * 5+1) (.int .i64 q.1.2.1)).1
  have s3:=(s2.stored (k * 5+2) (.int .i64 q.1.2.2.1)).1
  have s4:=(s3.stored (k * 5+3) (.int .i64 q.1.2.2.2.1)).1
  have s5:=(s4.stored (k * 5+4) q.2).1
  rw [flat_put5 _ k _ _ _ _ _ (by simpa using hk) (acM_sz Z),show [Value.string q.1.1,.int .i64 q.1.2.1,.int .i64 q.1.2.2.1,.int .i64 q.1.2.2.2.1,q.2]=acC q from rfl,<- List.map_set] at s5
  exact ⟨by simp [h.len],s5,(((((h.lvs.putK k hk q ho hf hn).set _ _).set _ _).set _ _).set _ _).set _ _⟩
theorem fst_set (Z:List (Ac × Value)) (k:Nat) (q:Ac × Value):(Z.set k q).map (·.1)=(Z.map (·.1)).set k q.1:=by rw [List.map_set]
theorem fst_get {Z:List (Ac × Value)} {L:List Ac} (hZ:Z.map (·.1)=L) (k:Nat) (hk:k < Z.length) (hk':k < L.length):Z[k].1=L[k]:=by subst hZ;simp
theorem set_get (Z:List (Ac × Value)) (k:Nat) (q:Ac × Value) (hk:k < (Z.set k q).length):(Z.set k q)[k]=q:=by simp
theorem Blk.set {W:World} {B:Nat} {t:TypeId} {cs:List Value} (h:Blk W B t cs) (j:Nat) (u:Value):Blk (W.setCell ⟨B,j,none⟩ u) B t (cs.set j u):=by
  have e:=heap_setCell_same W B j cs.toArray t u h
  rw [List.setIfInBounds_toArray] at e
  exact e
theorem Blk.other {W:World} {B:Nat} {t:TypeId} {cs:List Value} (h:Blk W B t cs) (b j:Nat) (u:Value) (hne:B ≠ b):Blk (W.setCell ⟨b,j,none⟩ u) B t cs:=(heap_setCell_other W ⟨b,j,none⟩ B u hne).trans h
theorem Blk.other5 {W:World} {B:Nat} {t:TypeId} {cs:List Value} (h:Blk W B t cs) (b o:Nat) (y0 y1 y2 y3 y4:Value) (hne:B ≠ b) :
    Blk (((((W.setCell ⟨b,o,none⟩ y0).setCell ⟨b,o+1,none⟩ y1).setCell ⟨b,o+2,none⟩ y2).setCell ⟨b,o+3,none⟩ y3).setCell ⟨b,o+4,none⟩ y4) B t cs :=
  ((((h.other b o y0 hne).other b (o+1) y1 hne).other b (o+2) y2 hne).other b (o+3) y3 hne).other b (o+4) y4 hne
theorem below_set5 {B:Nat} {a W:World} (h:Below B a W) (b o:Nat) (y0 y1 y2 y3 y4:Value) (hb:B<=b) :
    Below B a (((((W.setCell ⟨b,o,none⟩ y0).setCell ⟨b,o+1,none⟩ y1).setCell ⟨b,o+2,none⟩ y2).setCell ⟨b,o+3,none⟩ y3).setCell ⟨b,o+4,none⟩ y4) :=
  ((((h.setCell (p:=⟨b,o,none⟩) hb y0).setCell (p:=⟨b,o+1,none⟩) hb y1).setCell (p:=⟨b,o+2,none⟩) hb y2).setCell (p:=⟨b,o+3,none⟩) hb y3).setCell (p:=⟨b,o+4,none⟩) hb y4
theorem Blk.alloc {W:World} {B:Nat} {t:TypeId} {cs:List Value} (h:Blk W B t cs) (o:Obj):Blk (W.alloc o) B t cs:=h.below ((Below.refl W.heap.size W).alloc (Nat.le_refl _) o) h.lt
def LDrawn (w0 w:World) (g:Nat) (cv:Value) (code:List UInt8) (en:Ending) (w':World):Prop:=∃ (e:Int) (v:Value) (Z:List (Ac × Value)),en=.returned (lgV e v)/\DrA w.heap.size w' v Z/\SmallZ Z/\Cur w0 w' g cv code/\w.grownBy w' (some g)
theorem DrA.mono {base base':Nat} {w:World} {v:Value} {Z:List (Ac × Value)} (h:DrA base w v Z) (hB:base'<=base):DrA base' w v Z:=by
  refine ⟨h.1,⟨h.2.1.1,?_⟩,fun q hq=>(h.2.2 q hq).mono hB⟩
  rcases h.2.1.2 with h' | ⟨g',cap',cur,hv,hbb,r⟩
  · exact .inl h'
  · exact .inr ⟨g',cap',cur,hv,by omega,r⟩
end Go.Proofs.YtohachldbpejpaaGreatDoor
namespace Go.Proofs.YtohachldbpejpaaGreatDoor
open Go.Shelf
def Tryz.keysL_ren:Go.Shelf.Ren:=⟨fun | 7=>233 | 10=>241 | n=>n,fun | 23=>283 | 26=>9 | 3=>105 | 28=>305 | 0=>0 | 27=>304 | 33=>229 | 4=>4 | n=>n,fun | n=>n⟩
theorem Tryz.keysL:Go.Proofs.SlLaysZ.n7 Tryz.prog Tryz.keysL_ren:={
  mixed:=by kernel_rfl
  f7:=⟨Tryz.f233.name,by decide,Tryz.func233.trans (congrArg some (by kernel_rfl))⟩
  f10:=⟨Tryz.f241.name,by decide,Tryz.func241.trans (congrArg some (by kernel_rfl))⟩
  t0:=Tryz.underlying0
  a0:=Tryz.isAgg0
  z0:=Tryz.sizeOf0
  v0:=Tryz.zeroValue0
  t4:=Tryz.underlying4
  a4:=Tryz.isAgg4
  z4:=Tryz.sizeOf4
  v4:=Tryz.zeroValue4
  t23:=Tryz.underlying283
  a23:=Tryz.isAgg283
  z23:=Tryz.sizeOf283
  v23:=Tryz.zeroValue283
  t26:=Tryz.underlying9
  a26:=Tryz.isAgg9
  z26:=Tryz.sizeOf9
  v26:=Tryz.zeroValue9
  t27:=Tryz.underlying304
  a27:=Tryz.isAgg304
  z27:=Tryz.sizeOf304
  v27:=Tryz.zeroValue304
  t28:=Tryz.underlying305
  a28:=Tryz.isAgg305
  z28:=Tryz.sizeOf305
  v28:=Tryz.zeroValue305
  t33:=Tryz.underlying229
  a33:=Tryz.isAgg229
  z33:=Tryz.sizeOf229
  v33:=Tryz.zeroValue229 }
def Tryz.sortedL_ren:Go.Shelf.Ren:=⟨fun | 6=>232 | 8=>239 | 9=>240 | 11=>244 | 13=>176 | 12=>245 | 23=>211 | 24=>212 | 14=>246 | 15=>247 | 16=>248 | 17=>249 | 18=>250 | 19=>251 | 20=>252 | 21=>253 | 22=>254 | 25=>255 | 26=>256 | 27=>257 | 28=>258 | 29=>259 | 30=>260 | 31=>261 | n=>n,fun | 26=>9 | 28=>305 | 24=>42 | 0=>0 | 3=>3 | 37=>262 | 48=>255 | 50=>287 | 4=>4 | 40=>315 | 39=>314 | 45=>270 | 5=>5 | 9=>9 | 51=>321 | 55=>325 | 57=>327 | 58=>328 | 33=>229 | n=>n,fun | n=>n⟩
theorem Tryz.sortedL:Go.Proofs.SlLaysZ.n6 Tryz.prog Tryz.sortedL_ren:={
  mixed:=by kernel_rfl
  f6:=⟨Tryz.f232.name,by decide,Tryz.func232.trans (congrArg some (by kernel_rfl))⟩
  f8:=⟨Tryz.f239.name,by decide,Tryz.func239.trans (congrArg some (by kernel_rfl))⟩
  f11:=⟨Tryz.f244.name,by decide,Tryz.func244.trans (congrArg some (by kernel_rfl))⟩
  t0:=Tryz.underlying0
  a0:=Tryz.isAgg0
  z0:=Tryz.sizeOf0
  v0:=Tryz.zeroValue0
  t24:=Tryz.underlying42
  a24:=Tryz.isAgg42
  z24:=Tryz.sizeOf42
  v24:=Tryz.zeroValue42
  t26:=Tryz.underlying9
  a26:=Tryz.isAgg9
  z26:=Tryz.sizeOf9
  v26:=Tryz.zeroValue9
  t28:=Tryz.underlying305
  a28:=Tryz.isAgg305
  z28:=Tryz.sizeOf305
  v28:=Tryz.zeroValue305
  i26:=by kernel_rfl }
def Tryz.sortL_ren:Go.Shelf.Ren:=⟨fun | 6=>240 | 8=>176 | 9=>245 | 19=>211 | 20=>212 | 21=>246 | 22=>247 | 23=>248 | 24=>249 | 25=>250 | 26=>251 | 27=>252 | 28=>253 | 29=>254 | 36=>255 | 31=>256 | 32=>257 | 37=>258 | 38=>259 | 39=>260 | 41=>261 | n=>n,fun | 27=>42 | 29=>9 | 3=>3 | 32=>262 | 26=>42 | 0=>0 | 44=>255 | 46=>287 | 4=>4 | 36=>315 | 35=>314 | 41=>270 | 5=>5 | 9=>9 | 53=>321 | 57=>325 | 63=>327 | 64=>328 | n=>n,fun | n=>n⟩
theorem Tryz.sortL:Go.Proofs.SlLaysM.n6 Tryz.prog Tryz.sortL_ren:={
  mixed:=by kernel_rfl
  f6:=⟨Tryz.f240.name,by decide,Tryz.func240.trans (congrArg some (by kernel_rfl))⟩
  f8:=Tryz.func176.trans (congrArg some (by kernel_rfl))
  f9:=⟨Tryz.f245.name,by decide,Tryz.func245.trans (congrArg some (by kernel_rfl))⟩
  f19:=Tryz.func211.trans (congrArg some (by kernel_rfl))
  f20:=Tryz.func212.trans (congrArg some (by kernel_rfl))
  f21:=⟨Tryz.f246.name,by decide,Tryz.func246.trans (congrArg some (by kernel_rfl))⟩
  f22:=⟨Tryz.f247.name,by decide,Tryz.func247.trans (congrArg some (by kernel_rfl))⟩
  f23:=⟨Tryz.f248.name,by decide,Tryz.func248.trans (congrArg some (by kernel_rfl))⟩
  f24:=⟨Tryz.f249.name,by decide,Tryz.func249.trans (congrArg some (by kernel_rfl))⟩
  f25:=⟨Tryz.f250.name,by decide,Tryz.func250.trans (congrArg some (by kernel_rfl))⟩
  f26:=⟨Tryz.f251.name,by decide,Tryz.func251.trans (congrArg some (by kernel_rfl))⟩
  f27:=⟨Tryz.f252.name,by decide,Tryz.func252.trans (congrArg some (by kernel_rfl))⟩
  f28:=⟨Tryz.f253.name,by decide,Tryz.func253.trans (congrArg some (by kernel_rfl))⟩
  f29:=⟨Tryz.f254.name,by decide,Tryz.func254.trans (congrArg some (by kernel_rfl))⟩
  f31:=Tryz.func256.trans (congrArg some (by kernel_rfl))
  f32:=Tryz.func257.trans (congrArg some (by kernel_rfl))
  f36:=⟨Tryz.f255.name,by decide,Tryz.func255.trans (congrArg some (by kernel_rfl))⟩
  f37:=⟨Tryz.f258.name,by decide,Tryz.func258.trans (congrArg some (by kernel_rfl))⟩
  f38:=⟨Tryz.f259.name,by decide,Tryz.func259.trans (congrArg some (by kernel_rfl))⟩
  f39:=⟨Tryz.f260.name,by decide,Tryz.func260.trans (congrArg some (by kernel_rfl))⟩
  f41:=⟨Tryz.f261.name,by decide,Tryz.func261.trans (congrArg some (by kernel_rfl))⟩
  t0:=Tryz.underlying0
  a0:=Tryz.isAgg0
  z0:=Tryz.sizeOf0
  v0:=Tryz.zeroValue0
  t3:=Tryz.underlying3
  a3:=Tryz.isAgg3
  z3:=Tryz.sizeOf3
  v3:=Tryz.zeroValue3
  t4:=Tryz.underlying4
  a4:=Tryz.isAgg4
  z4:=Tryz.sizeOf4
  v4:=Tryz.zeroValue4
  t5:=Tryz.underlying5
  a5:=Tryz.isAgg5
  z5:=Tryz.sizeOf5
  v5:=Tryz.zeroValue5
  t9:=Tryz.underlying9
  a9:=Tryz.isAgg9
  z9:=Tryz.sizeOf9
  v9:=Tryz.zeroValue9
  t26:=Tryz.underlying42
  a26:=Tryz.isAgg42
  z26:=Tryz.sizeOf42
  v26:=Tryz.zeroValue42
  t27:=Tryz.underlying42
  a27:=Tryz.isAgg42
  z27:=Tryz.sizeOf42
  v27:=Tryz.zeroValue42
  t29:=Tryz.underlying9
  a29:=Tryz.isAgg9
  z29:=Tryz.sizeOf9
  v29:=Tryz.zeroValue9
  t32:=Tryz.underlying262
  a32:=Tryz.isAgg262
  z32:=Tryz.sizeOf262
  v32:=Tryz.zeroValue262
  t35:=Tryz.underlying314
  a35:=Tryz.isAgg314
  z35:=Tryz.sizeOf314
  v35:=Tryz.zeroValue314
  t36:=Tryz.underlying315
  a36:=Tryz.isAgg315
  z36:=Tryz.sizeOf315
  v36:=Tryz.zeroValue315
  t41:=Tryz.underlying270
  a41:=Tryz.isAgg270
  z41:=Tryz.sizeOf270
  v41:=Tryz.zeroValue270
  t44:=Tryz.underlying255
  a44:=Tryz.isAgg255
  z44:=Tryz.sizeOf255
  v44:=Tryz.zeroValue255
  t46:=Tryz.underlying287
  a46:=Tryz.isAgg287
  z46:=Tryz.sizeOf287
  v46:=Tryz.zeroValue287
  t53:=Tryz.underlying321
  a53:=Tryz.isAgg321
  z53:=Tryz.sizeOf321
  v53:=Tryz.zeroValue321
  t57:=Tryz.underlying325
  a57:=Tryz.isAgg325
  z57:=Tryz.sizeOf325
  v57:=Tryz.zeroValue325
  t63:=Tryz.underlying327
  a63:=Tryz.isAgg327
  z63:=Tryz.sizeOf327
  v63:=Tryz.zeroValue327
  t64:=Tryz.underlying328
  a64:=Tryz.isAgg328
  z64:=Tryz.sizeOf328
  v64:=Tryz.zeroValue328 }
end Go.Proofs.YtohachldbpejpaaGreatDoor
namespace Go.Proofs.YtohachldbpejpaaGreatDoor
open Go.RowKit Go.Maps
set_option linter.unusedVariables false
abbrev RV (v:Value):Option (DataW Value × List MemPlace):=some (.held v,[])
def keyB (s:ByteArray):Lit:=.string s.data.toList
def ent (q:Ac × Value):Lit × DataW Value:=(keyB q.1.1,.held (acV q.1 q.2))
def bookD (Z:List (Ac × Value)):DataW Value:=.map (Z.map ent)
theorem bytesBefore_eq:∀ x y:List UInt8,bytesBefore x y=Op.bytesLess x y
  | [],[]=>rfl
  | [],_ :: _=>rfl
  | _ :: _,[]=>rfl
  | a :: x,b :: y=>by unfold bytesBefore Op.bytesLess;rw [bytesBefore_eq x y]
theorem key_before (s t:ByteArray):(keyB s).before (keyB t)=Op.bytesLess s.toList t.toList:=by
  show bytesBefore s.data.toList t.data.toList=_
  rw [bytesBefore_eq,ByteArray.toList_eq,ByteArray.toList_eq]
theorem key_same {s t:ByteArray} (h:s=t):(keyB s).sameKey (keyB t)=true:=by subst h;simp [keyB,Lit.sameKey]
theorem key_not {s t:ByteArray} (h:s ≠ t):(keyB s).sameKey (keyB t)=false:=by
  simp only [keyB,Lit.sameKey,beq_eq_false_iff_ne]
  intro e
  exact h (ByteArray.ext (Array.toList_inj.1 e))
theorem filt_all (s:ByteArray) (t:List (Ac × Value)) (h:∀ x ∈ t,x.1.1 ≠ s):(t.map ent).filter (fun p=>!p.1.sameKey (keyB s))=t.map ent:=by
  rw [List.filter_eq_self]
  intro p hp
  obtain ⟨x,hx,rfl⟩:=List.mem_map.1 hp
  show (!(keyB x.1.1).sameKey (keyB s))=true
  rw [key_not (h x hx)]
  rfl
theorem insert_book (q:Ac × Value):∀ Z:List (Ac × Value),Asc Z->DataW.insert (ent q) ((Z.map ent).filter (fun p=>!p.1.sameKey (keyB q.1.1)))=(insZ q Z).map ent
  | [],_=>rfl
  | x :: t, h=>by
    obtain ⟨h1,h2⟩:=List.pairwise_cons.1 h
    by_cases hl:Lt x.1.1 q.1.1
    · have hne:x.1.1 ≠ q.1.1:=fun e=>by rw [e] at hl;exact lt_no _ hl
      rw [insZ_lt hl,List.map_cons,List.filter_cons_of_pos (by show (!(keyB x.1.1).sameKey (keyB q.1.1))=true;rw [key_not hne];rfl),DataW.insert,if_neg,insert_book q t h2]
      · rfl
      · show ¬ (keyB q.1.1).before (keyB x.1.1)=true
        rw [key_before];exact lt_as hl
    · by_cases he:x.1.1=q.1.1
      · have hab:∀ y ∈ t,Lt q.1.1 y.1.1:=fun y hy=>by rw [<- he];exact h1 y hy
        rw [insZ_eq he,List.map_cons,List.filter_cons_of_neg (by show ¬ (!(keyB x.1.1).sameKey (keyB q.1.1))=true;rw [key_same he];simp),filt_all q.1.1 t (fun y hy e=>by have:=hab y hy;rw [e] at this;exact lt_no _ this)]
        cases t with
        | nil=>rfl
        | cons y t =>
          rw [List.map_cons,DataW.insert,if_pos]
          · rfl
          · show (keyB q.1.1).before (keyB y.1.1)=true
            rw [key_before];exact hab y List.mem_cons_self
      · have hlt:=lt_or hl he
        have hab:∀ y ∈ x :: t,y.1.1 ≠ q.1.1:=fun y hy e=>by
          rcases List.mem_cons.1 hy with rfl | hy
          · exact he e
          · have:=lt_tr hlt (h1 y hy);rw [e] at this;exact lt_no _ this
        rw [insZ_gt hlt,filt_all q.1.1 _ hab,List.map_cons,DataW.insert,if_pos]
        · rfl
        · show (keyB q.1.1).before (keyB x.1.1)=true
          rw [key_before];exact hlt
theorem put_book (Z:List (Ac × Value)) (ha:Asc Z) (q:Ac × Value):(bookD Z).put (keyB q.1.1) (.held (acV q.1 q.2))=bookD (insZ q Z):=by
  show DataW.map _=DataW.map _
  exact congrArg _ (insert_book q Z ha)
theorem at_book (s:ByteArray) (z:DataW Value):∀ Z:List (Ac × Value),(bookD Z).atKey (keyB s) z=match getZ s Z with
    | some q=>.held (acV q.1 q.2)
    | none=>z
  | []=>rfl
  | x :: t=>by
    have ih:=at_book s z t
    unfold bookD DataW.atKey at ih ⊢
    unfold getZ
    simp only [List.map_cons,List.find?_cons]
    by_cases he:x.1.1=s
    · rw [if_pos he,show (ent x).1.sameKey (keyB s)=true from key_same he]
      rfl
    · rw [if_neg he,show (ent x).1.sameKey (keyB s)=false from key_not he]
      exact ih
theorem filt_insert (k:Lit) (d:DataW Value) (hk:k.sameKey k=true):∀ es:List (Lit × DataW Value),(DataW.insert (k,d) es).filter (fun p=>!p.1.sameKey k)=es.filter (fun p=>!p.1.sameKey k)
  | []=>by simp [DataW.insert,hk]
  | y :: r=>by
    unfold DataW.insert
    split
    · rw [List.filter_cons_of_neg (by simp [hk])]
    · rw [List.filter_cons,List.filter_cons,filt_insert k d hk r]
theorem del_put (Z:List (Ac × Value)) (s:ByteArray) (d:DataW Value) (h:getZ s Z=none):((bookD Z).put (keyB s) d).del (keyB s)=bookD Z:=by
  show DataW.map ((DataW.insert (keyB s,d) ((Z.map ent).filter (fun p=>!p.1.sameKey (keyB s)))).filter (fun p=>!p.1.sameKey (keyB s)))=DataW.map (Z.map ent)
  rw [filt_insert _ _ (key_same rfl),filt_all s Z (getZ_none h),filt_all s Z (getZ_none h)]
theorem size_book (Z:List (Ac × Value)):Maps.size (bookD Z)=Z.length:=by simp [bookD,Maps.size]
theorem keys_book (Z:List (Ac × Value)):strKeys (bookD Z)=Z.map (fun q=>q.1.1.data.toList):=by
  simp only [bookD,strKeys,List.map_map]
  rfl
theorem sorted_book (Z:List (Ac × Value)) (ha:Asc Z) {ss:List (List UInt8)} (h:ss.Perm (strKeys (bookD Z))):ss.mergeSort (fun x y=>decide (x<=y))=Z.map (fun q=>q.1.1.data.toList):=by
  rw [show ss.mergeSort (fun x y=>decide (x<=y))=(strKeys (bookD Z)).mergeSort leB from mergeSort_of_perm h,keys_book]
  refine List.mergeSort_of_pairwise ?_
  rw [List.pairwise_map]
  refine List.Pairwise.imp ?_ ha
  intro a b hab
  rw [lt_iff,ByteArray.toList_eq,ByteArray.toList_eq] at hab
  simp only [leB,decide_eq_true_eq]
  exact List.le_of_lt hab
theorem get_at:∀ {Z:List (Ac × Value)},Asc Z->∀ k (h:k < Z.length),getZ Z[k].1.1 Z=some Z[k]
  | [],_,k,h=>by simp at h
  | x :: t,ha,0,h=>by simp [getZ]
  | x :: t,ha,k+1,h=>by
    obtain ⟨h1,h2⟩:=List.pairwise_cons.1 ha
    have hk:k < t.length:=by simpa using h
    have hlt:=h1 t[k] (List.getElem_mem hk)
    simp only [List.getElem_cons_succ]
    unfold getZ
    rw [if_neg (fun e=>by rw [e] at hlt;exact lt_no _ hlt)]
    exact get_at h2 k hk
theorem key_law:Keyed Tryz.prog 9:=string_keyed Tryz.underlying9
theorem zeroAc (w:World):(zeroValue 105).run Tryz.prog w=.ok (acV (ByteArray.empty,0,0,0,[]) (.slice none 0 0)) w:=by kernel_rfl
theorem key_of (s:ByteArray) (h:s.size<=maxLen):keyOf Tryz.prog 9 (.string s)=some (keyB s):=Go.WideMaps.keyOf_string_mk Tryz.underlying9 h
def lookB (s:ByteArray) (Z:List (Ac × Value)):Value:=match getZ s Z with
  | some q=>acV q.1 q.2
  | none=>acV (ByteArray.empty,0,0,0,[]) (.slice none 0 0)
theorem run_look (c:Bool) {w:World} {b n:Nat} {Z:List (Ac × Value)} (hown:w.ownsMap Tryz.prog 9 RV b n (bookD Z)) (s:ByteArray) (hs:s.size<=maxLen) :
    (Instr.lookup 283 (.map (some b)) (.string s) c).run Tryz.prog w=.ok (if c then .tuple #[lookB s Z,.bool (getZ s Z).isSome] else lookB s Z) w:=by
  obtain ⟨es,clock,hb,F,hsz,hD⟩:=hown
  have hat:=fun z=>at_book s z Z
  rw [hD] at hat
  rcases Maps.fit_look (R:=RV) c key_law Tryz.underlying283 (zeroAc w) hb F (key_of s hs) with ⟨hrun,_,h⟩ | ⟨e0,y,_,_,hrun,hRv,h,_⟩
  · cases hg:getZ s Z with
    | none=>rw [hrun];simp [lookB,hg]
    | some q =>
      have h1:=hat (.held (.bool true))
      have h2:=hat (.held (.bool false))
      rw [h,hg] at h1 h2
      simp at h1 h2
      rw [<- h1] at h2
      simp at h2
  · have h1:=hat (.held (.bool true))
    have h2:=hat (.held (.bool false))
    rw [h] at h1 h2
    cases hg:getZ s Z with
    | none =>
      rw [hg] at h1 h2
      simp only at h1 h2
      rw [h1] at h2
      simp at h2
    | some q =>
      rw [hg] at h1
      simp only at h1
      have hv:y=(.held e0.val,[]):=by simpa [RV] using hRv.symm
      rw [hv] at h1
      simp at h1
      rw [hrun,h1]
      simp [lookB,hg]
theorem step_look {ops:Array Oper} {rest:List Oper} {o:Oper} {a:Act} {Q:Exit->Act->World->Prop} (w:World) (hg:o.guard=none) (m x:Operand) (c:Bool) (hop:o.op=Op.lookup 283 m x c)
    (b n:Nat) (Z:List (Ac × Value)) (s:ByteArray) (hm:a.eval m=.map (some b)) (hx:a.eval x=.string s) (hown:w.ownsMap Tryz.prog 9 RV b n (bookD Z)) (hs:s.size<=maxLen)
    (hK:wpList Tryz.prog ops Q rest (a.put o.dst (if c then .tuple #[lookB s Z,.bool (getZ s Z).isSome] else lookB s Z)) w):wpList Tryz.prog ops Q (o :: rest) a w:=by
  refine wpList_plain hg fun K' hK'=>?_
  have hrun:=run_look c hown s hs
  unfold Oper.wp
  simp [execOp,hop,hm,hx,hrun,Result.andThen]
  exact hK' _ _ (by simpa using hK)
theorem book_below {B:Nat} {w w':World} {b n:Nat} {D:DataW Value} (h:w.ownsMap Tryz.prog 9 RV b n D) (hb:Below B w w') (hB:b < B):w'.ownsMap Tryz.prog 9 RV b n D:=by
  obtain ⟨es,clock,hm,r⟩:=h
  exact ⟨es,clock,(hb.block b hB).trans hm,r⟩
end Go.Proofs.YtohachldbpejpaaGreatDoor
namespace Go.Proofs.YtohachldbpejpaaGreatDoor
open Go.RowKit Go.Maps Go.Sort Go.Shelf
set_option linter.unusedVariables false
theorem sorts_at (m:Nat):AnyZ.SortsIn Tryz.prog Tryz.sortedL_ren Fence.wide m :=
  ⟨fun blk off cap ss W hH hblk hsz=>callsIn_wide.2 (AnyM.slices_Sort_string Tryz.sortL blk off cap ss W hH hblk hsz),
   fun p cap W=>callsIn_wide.2 (AnyM.slices_Sort_string_none Tryz.sortL p cap W)⟩
theorem keys_any (mb:Option Nat) (W:World):Calls Tryz.prog 233 #[.map mb] W fun e w'=>e=.returned (.func (.func 241) #[] #[.pointer (some ⟨W.heap.size,0,none⟩)])/\w'=W.alloc (.cells #[.map mb] 283) :=
  (callsIn_wide (n:=5)).1 (AnyZ.keys_in Tryz.keysL Fence.wide 5 trivial rfl mb W)
theorem sorted_any {H:Type} (b nn:Nat) (D0:DataW H) (R:Value->Option (DataW H × List MemPlace)) (w:World) (hown:w.ownsMap Tryz.prog 9 R b nn D0) (hmax:Maps.size D0<=maxLen) (hbytes:Maps.size D0 * 16<=140737488355328) :
    Calls Tryz.prog 232 #[.func (.func 241) #[] #[.pointer (some ⟨w.heap.size,0,none⟩)]] (w.alloc (.cells #[.map (some b)] 283)) fun e w'=>∃ (v:Value) (ss:List (List UInt8)),e=.returned v/\ss.Perm (strKeys D0) /\
      w'.ownsRow (w.alloc (.cells #[.map (some b)] 283)).heap.size 9 1 v ss.length ((ss.mergeSort (fun x y=>decide (x<=y))).map encStr)/\(v=.slice none 0 0 ↔ ss=[])/\Below (w.alloc (.cells #[.map (some b)] 283)).heap.size (w.alloc (.cells #[.map (some b)] 283)) w':=by
  have hbl:=hown.lt
  have hseq:SeqGives Fence.wide 2 Tryz.prog 241 #[.pointer (some ⟨w.heap.size,0,none⟩)] encStr (fun ss=>ss.Perm (strKeys D0)) (Maps.size D0) (w.alloc (.cells #[.map (some b)] 283)) :=
    AnyZ.keys_gives (ρ:=Tryz.keysL_ren) { Tryz.keysL with } Fence.wide _ trivial rfl (by omega) w.heap.size b nn D0 _ (by simp) (by simp) (by
      obtain ⟨es,clock,hb,Ft,hs,hD⟩:=hown
      exact ⟨es,clock,(Below.heap_alloc _ _ b hbl).trans hb,Ft,hs,hD⟩)
  exact (callsIn_wide (n:=5)).1 (AnyZ.sorted_in Tryz.sortedL Fence.wide 5 trivial trivial trivial trivial rfl (by omega) (sorts_at _) (enters_of Tryz.func240 (by kernel_rfl) rfl) 241 #[.pointer (some ⟨w.heap.size,0,none⟩)] trivial (enters_of Tryz.func241 (by kernel_rfl) rfl) _ _ hmax hbytes _ hseq)
theorem names_any (b n:Nat) (Z:List (Ac × Value)) (w:World) (hown:w.ownsMap Tryz.prog 9 RV b n (bookD Z)) (ha:Asc Z) (hl:Z.length<=4000000) :
    Calls Tryz.prog 232 #[.func (.func 241) #[] #[.pointer (some ⟨w.heap.size,0,none⟩)]] (w.alloc (.cells #[.map (some b)] 283)) fun e w'=>∃ (v:Value),e=.returned v /\
      w'.ownsRow (w.heap.size+1) 9 1 v Z.length (Z.map (fun q=>Value.string q.1.1))/\Below (w.heap.size+1) (w.alloc (.cells #[.map (some b)] 283)) w':=by
  refine (sorted_any b n (bookD Z) RV w hown (by rw [size_book];unfold maxLen;omega) (by rw [size_book];omega)).mono ?_
  rintro e w' ⟨v,ss,rfl,hp,hrow,-,hb⟩
  have hlen:ss.length=Z.length:=by rw [hp.length_eq,keys_book];simp
  rw [sorted_book Z ha hp,hlen,List.map_map] at hrow
  rw [World.size_alloc] at hrow hb
  refine ⟨v,rfl,?_,hb⟩
  have e:(Z.map (encStr ∘ fun q=>q.1.1.data.toList))=Z.map (fun q=>Value.string q.1.1):=by
    apply List.map_congr_left
    intro q _
    simp [encStr]
  rw [e] at hrow
  exact hrow
end Go.Proofs.YtohachldbpejpaaGreatDoor
