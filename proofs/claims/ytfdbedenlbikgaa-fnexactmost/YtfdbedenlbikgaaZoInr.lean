/- Flat rows of the call's own, from one block to another. -/
import Derived.Test.YtfdbedenlbikgaaZoAcMark
import Derived.Test.YtfdbedenlbikgaaZoTxMarkC
namespace Go.Proofs.Ytfdbedenlbikgaa
open Go.RowKit
set_option linter.unusedVariables false
structure Kept (lo hi:Nat) (w w':World):Prop where
  size:w.heap.size<=w'.heap.size
  block:∀ k,lo<=k->k < hi->k < w.heap.size->w'.heap[k]?=w.heap[k]?
theorem Kept.trans {lo hi:Nat} {a b c:World} (h:Kept lo hi a b) (k:Kept lo hi b c):Kept lo hi a c :=
  ⟨Nat.le_trans h.size k.size,fun i h1 h2 h3=>(k.block i h1 h2 (Nat.lt_of_lt_of_le h3 h.size)).trans (h.block i h1 h2 h3)⟩
theorem Kept.mono {lo hi lo' hi':Nat} {w w':World} (h:Kept lo hi w w') (h1:lo<=lo') (h2:hi'<=hi):Kept lo' hi' w w' :=
  ⟨h.size,fun k a b c=>h.block k (Nat.le_trans h1 a) (Nat.lt_of_lt_of_le b h2) c⟩
theorem Kept.of_below {lo hi B:Nat} {w w':World} (h:Below B w w') (hB:w.heap.size<=B):Kept lo hi w w' :=
  ⟨h.size,fun k _ _ c=>h.block k (Nat.lt_of_lt_of_le c hB)⟩
theorem Kept.of_oth {S:Nat->Prop} {lo hi:Nat} {w w':World} (h:Oth S w w') (hS:∀ k,lo<=k->k < hi->¬ S k):Kept lo hi w w' :=
  ⟨h.size,fun k a b c=>h.block k c (hS k a b)⟩
theorem Kept.of_grown {lo hi:Nat} {w w':World} {r:Option Nat} (h:w.grownBy w' r) (hn:∀ g,r=some g->g < lo\/hi<=g):Kept lo hi w w' :=
  ⟨h.size,fun k a b c=>h.block k c (fun e=>by have:=hn k e.symm;omega)⟩
def Top (hi:Nat) (v:Value):Prop:=∀ k,v.ownBlock=some k->k < hi
theorem Top.mono {a b:Nat} {v:Value} (h:Top a v) (hb:a<=b):Top b v:=fun k e=>Nat.lt_of_lt_of_le (h k e) hb
theorem top_row {base:Nat} {w:World} {e:TypeId} {sz n:Nat} {v:Value} {xs:List Value} (h:w.ownsRow base e sz v n xs):Top w.heap.size v:=fun k hk=>(World.ownsRow.lt h k hk).2
theorem row_kept {base lo hi:Nat} {w w':World} {e:TypeId} {sz n:Nat} {v:Value} {xs:List Value} (h:w.ownsRow base e sz v n xs) (hk:Kept lo hi w w') (hl:lo<=base) (ht:Top hi v):w'.ownsRow base e sz v n xs:=by
  refine ⟨h.1,?_⟩
  rcases h.2 with h' | ⟨g,cap,cur,hv,hbb,hg,r⟩
  · exact .inl h'
  · refine .inr ⟨g,cap,cur,hv,hbb,?_,r⟩
    have hlt:g < w.heap.size:=(Array.getElem?_eq_some_iff.1 hg).1
    rw [hk.block g (by omega) (ht g (by rw [hv];rfl)) hlt]
    exact hg
theorem row_mono {base base':Nat} {w:World} {e:TypeId} {sz n:Nat} {v:Value} {xs:List Value} (h:w.ownsRow base e sz v n xs) (hb:base'<=base):w.ownsRow base' e sz v n xs:=by
  refine ⟨h.1,?_⟩
  rcases h.2 with h' | ⟨g,cap,cur,hv,hbb,r⟩
  · exact .inl h'
  · exact .inr ⟨g,cap,cur,hv,by omega,r⟩
theorem range_below {B b o:Nat} {w w':World} {cs:List Value} (h:w.rangeAt b o cs) (hb:Below B w w') (hB:b < B):w'.rangeAt b o cs :=
  fun j v hv=>(hb.cell (p:=⟨b,o+j,none⟩) hB).trans (h j v hv)
theorem blk_range {w:World} {b:Nat} {t:TypeId} {cs:List Value} (h:Blk w b t cs):w.rangeAt b 0 cs:=fun j v hv=>by rw [Nat.zero_add];exact (h.cell j).trans hv
section
variable {α:Type}
def RdRow (sz:Nat) (C:α->List Value) (G:World->α->Prop) (w:World) (v:Value) (Z:List α):Prop :=
  (∃ a cap,v=.slice a 0 cap/\Z=[]/\(a=none->cap=0)) \/
  ∃ b off cap,Z ≠ []/\v=.slice (some ⟨b,off,none⟩) Z.length cap/\Z.length<=cap/\cap<=maxLen/\b < w.heap.size /\
    ∀ i (h:i < Z.length),w.rangeAt b (off+i * sz) (C Z[i])/\G w Z[i]
theorem RdRow.shape {sz:Nat} {C:α->List Value} {G:World->α->Prop} {w:World} {v:Value} {Z:List α} (h:RdRow sz C G w v Z):∃ a cap,v=.slice a Z.length cap:=by
  rcases h with ⟨a,cap,rfl,rfl,-⟩ | ⟨b,off,cap,h0,rfl,_⟩
  · exact ⟨a,cap,rfl⟩
  · exact ⟨_,cap,rfl⟩
theorem RdRow.below {sz B:Nat} {C:α->List Value} {G:World->α->Prop} {w w':World} {v:Value} {Z:List α} (h:RdRow sz C G w v Z) (hb:Below B w w') (hB:w.heap.size<=B) (hG:∀ q,G w q->G w' q):RdRow sz C G w' v Z:=by
  rcases h with h | ⟨b,off,cap,h0,hv,h1,h2,h3,h4⟩
  · exact .inl h
  · exact .inr ⟨b,off,cap,h0,hv,h1,h2,by have:=hb.size;omega,fun i hi=>⟨range_below (h4 i hi).1 hb (by omega),hG _ (h4 i hi).2⟩⟩
theorem mapC_sz {sz:Nat} {C:α->List Value} (hC:∀ q,(C q).length=sz) (Z:List α):∀ x ∈ Z.map C,x.length=sz:=fun x hx=>by obtain ⟨p,_,rfl⟩:=List.mem_map.1 hx;exact hC p
theorem row_range {base sz g cap n:Nat} {T:TypeId} {C:α->List Value} {w:World} {Z:List α} (hC:∀ q,(C q).length=sz) (ho:w.ownsRow base T sz (.slice (some ⟨g,0,none⟩) n cap) n (Z.map C).flatten) (i:Nat) (hi:i < Z.length):w.rangeAt g (0+i * sz) (C Z[i]):=fun j v hv=>by
  have hj:j < sz:=by rw [<- hC Z[i]];exact (List.getElem?_eq_some_iff.1 hv).1
  have hl:(Z.map C).flatten.length=Z.length * sz:=by rw [flat_len sz _ (mapC_sz hC Z),List.length_map]
  have hlt:i * sz+j < (Z.map C).flatten.length:=by
    rw [hl]
    have:(i+1) * sz<=Z.length * sz:=Nat.mul_le_mul_right sz hi
    rw [Nat.succ_mul] at this
    omega
  rw [Nat.zero_add,ho.cellAt (i * sz+j) (by have:=ho.1;omega),flat_get sz (Z.map C) i j (by simpa using hi) (mapC_sz hC Z) hj]
  simpa using hv
def Parts (O:Nat->Nat->World->α->Prop) (lo hi:Nat) (no:Option Nat) (w:World) (Z:List α):Prop :=
  ∃ c d:Nat->Nat,(∀ i (h:i < Z.length),lo<=c i/\c i<=d i/\d i<=hi/\(∀ g,no=some g->¬ (c i<=g/\g < d i))/\O (c i) (d i) w Z[i])/\∀ i j,i < j->j < Z.length->d i<=c j
theorem Parts.nil (O:Nat->Nat->World->α->Prop) (lo hi:Nat) (no:Option Nat) (w:World):Parts O lo hi no w []:=⟨fun _=>0,fun _=>0,fun i h=>by simp at h,fun i j _ h=>by simp at h⟩
theorem Parts.turn {O:Nat->Nat->World->α->Prop} {lo hi:Nat} {no:Option Nat} {w w':World} {Z:List α} (h:Parts O lo hi no w Z) (hO:∀ a b q,lo<=a->b<=hi->(∀ g,no=some g->¬ (a<=g/\g < b))->O a b w q->O a b w' q):Parts O lo hi no w' Z:=by
  obtain ⟨c,d,h1,h2⟩:=h
  exact ⟨c,d,fun i hi=>by obtain ⟨a1,a2,a3,a4,a5⟩:=h1 i hi;exact ⟨a1,a2,a3,a4,hO _ _ _ a1 a3 a4 a5⟩,h2⟩
theorem Parts.no {O:Nat->Nat->World->α->Prop} {lo hi:Nat} {no no':Option Nat} {w:World} {Z:List α} (h:Parts O lo hi no w Z) (hn:∀ g,no'=some g->hi<=g\/g < lo\/no=some g):Parts O lo hi no' w Z:=by
  obtain ⟨c,d,h1,h2⟩:=h
  exact ⟨c,d,fun i hi=>by
    obtain ⟨a1,a2,a3,a4,a5⟩:=h1 i hi
    exact ⟨a1,a2,a3,fun g e=>by rcases hn g e with h | h | h;(· omega);(· omega);exact a4 g h,a5⟩,h2⟩
theorem Parts.wide {O:Nat->Nat->World->α->Prop} {lo hi lo' hi':Nat} {no:Option Nat} {w:World} {Z:List α} (h:Parts O lo hi no w Z) (h1:lo'<=lo) (h2:hi<=hi'):Parts O lo' hi' no w Z:=by
  obtain ⟨c,d,p1,p2⟩:=h
  exact ⟨c,d,fun i hi=>by obtain ⟨a1,a2,a3,a4⟩:=p1 i hi;exact ⟨by omega,a2,by omega,a4⟩,p2⟩
theorem Parts.snoc {O:Nat->Nat->World->α->Prop} {lo hi a b:Nat} {no:Option Nat} {w:World} {Z:List α} (h:Parts O lo hi no w Z) (q:α) (ha:hi<=a) (hl:lo<=a) (hab:a<=b) (hn:∀ g,no=some g->¬ (a<=g/\g < b)) (hq:O a b w q):Parts O lo b no w (Z ++ [q]):=by
  obtain ⟨c,d,h1,h2⟩:=h
  refine ⟨fun i=>if i < Z.length then c i else a,fun i=>if i < Z.length then d i else b,fun i hi=>?_,fun i j hij hj=>?_⟩
  · by_cases h':i < Z.length
    · obtain ⟨a1,a2,a3,a4,a5⟩:=h1 i h'
      simp only [h',if_true]
      exact ⟨a1,a2,by omega,a4,by rw [List.getElem_append_left h'];exact a5⟩
    · have e:i=Z.length:=by simp at hi;omega
      subst e
      simp only [Nat.lt_irrefl,if_false]
      exact ⟨hl,hab,Nat.le_refl _,hn,by simpa using hq⟩
  · have hi':i < Z.length:=by simp at hj;omega
    by_cases h':j < Z.length
    · simp only [hi',h',if_true];exact h2 i j hij h'
    · simp only [hi',h',if_true,if_false]
      have:=(h1 i hi').2.2.1
      omega
def OwnRow (T:TypeId) (sz:Nat) (C:α->List Value) (O:Nat->Nat->World->α->Prop) (lo hi:Nat) (w:World) (v:Value) (Z:List α):Prop :=
  w.ownsRow lo T sz v Z.length (Z.map C).flatten/\Top hi v/\Parts O lo hi v.ownBlock w Z
theorem OwnRow.kept {T:TypeId} {sz lo hi:Nat} {C:α->List Value} {O:Nat->Nat->World->α->Prop} {w w':World} {v:Value} {Z:List α} (h:OwnRow T sz C O lo hi w v Z) (hk:Kept lo hi w w') (hO:∀ a b q,lo<=a->b<=hi->O a b w q->O a b w' q):OwnRow T sz C O lo hi w' v Z :=
  ⟨row_kept h.1 hk (Nat.le_refl _) h.2.1,h.2.1,h.2.2.turn (fun a b q h1 h2 _ h3=>hO a b q h1 h2 h3)⟩
theorem OwnRow.rd {T:TypeId} {sz lo hi:Nat} {C:α->List Value} {O:Nat->Nat->World->α->Prop} {G:World->α->Prop} {w:World} {v:Value} {Z:List α} (h:OwnRow T sz C O lo hi w v Z) (hC:∀ q,(C q).length=sz) (hG:∀ a b q,O a b w q->G w q):RdRow sz C G w v Z:=by
  obtain ⟨ho,_,c,d,h1,_⟩:=h
  rcases ho.2 with ⟨rfl,hn⟩ | ⟨g,cap,cur,rfl,hb,hg,hnc,hcm,hcs,ht⟩
  · exact .inl ⟨_,_,rfl,List.length_eq_zero_iff.1 hn,fun _=>rfl⟩
  · by_cases hz:Z=[]
    · subst hz;exact .inl ⟨_,_,rfl,rfl,fun h=>by cases h⟩
    · exact .inr ⟨g,0,cap,hz,rfl,hnc,hcm,(Array.getElem?_eq_some_iff.1 hg).1,fun i hi=>⟨row_range hC ho i hi,hG _ _ _ (h1 i hi).2.2.2.2⟩⟩
theorem OwnRow.wide {T:TypeId} {sz lo hi lo' hi':Nat} {C:α->List Value} {O:Nat->Nat->World->α->Prop} {w:World} {v:Value} {Z:List α} (h:OwnRow T sz C O lo hi w v Z) (h1:lo'<=lo) (h2:hi<=hi'):OwnRow T sz C O lo' hi' w v Z :=
  ⟨row_mono h.1 h1,h.2.1.mono h2,h.2.2.wide h1 h2⟩
theorem row_thereN {base:Nat} {w:World} {T:TypeId} {sz g n cap o m:Nat} {xs:List Value} (h:w.ownsRow base T sz (.slice (some ⟨g,0,none⟩) n cap) n xs) (ho:o+m<=xs.length):w.there g o m:=fun j hj=>by
  have hx:=h.1
  refine ⟨?_,h.frozenAt (o+j)⟩
  rw [h.cellAt (o+j) (by omega),List.getElem?_eq_getElem (by omega)]
  rfl
end
def OwnKy (lo hi:Nat) (w:World) (v:Value) (l:List Bk):Prop :=
  ∃ (g cap:Nat) (Z:List (Bk × Bv)),Z.map (·.1)=l/\v=.slice (some ⟨g,0,none⟩) l.length cap/\w.ownsRow lo 105 14 v l.length (Z.map bkP).flatten/\Kvs lo w g Z/\g < hi/\∀ i (h:i < Z.length) k,Z[i].2.has k->k < hi
def OwnKx (lo hi:Nat) (w:World) (v:Value) (l:List Bk):Prop:=(v=.slice none 0 0/\l=[])\/OwnKy lo hi w v l
theorem OwnKs.kx {base:Nat} {w:World} {v:Value} {l:List Bk} (h:OwnKs base w v l):OwnKx base w.heap.size w v l:=by
  obtain ⟨g,cap,Z,hZ,rfl,ho,hk⟩:=h
  exact .inr ⟨g,cap,Z,hZ,rfl,ho,hk,(World.ownsRow.lt ho g rfl).2,fun i hi k hk'=>((hk.own i hi).in9 k hk').2⟩
theorem OwnKy.ks {lo hi:Nat} {w:World} {v:Value} {l:List Bk} (h:OwnKy lo hi w v l):OwnKs lo w v l:=by
  obtain ⟨g,cap,Z,hZ,rfl,ho,hk,_⟩:=h
  exact ⟨g,cap,Z,hZ,rfl,ho,hk⟩
theorem OwnKx.rd {lo hi:Nat} {w:World} {v:Value} {l:List Bk} (h:OwnKx lo hi w v l):RdKs w v l:=by
  rcases h with ⟨rfl,rfl⟩ | h
  · exact .inl ⟨_,_,rfl,rfl,fun _=>rfl⟩
  · exact h.ks.rd
theorem OwnKx.kept {lo hi:Nat} {w w':World} {v:Value} {l:List Bk} (h:OwnKx lo hi w v l) (hk:Kept lo hi w w'):OwnKx lo hi w' v l:=by
  rcases h with h | h
  · exact .inl h
  obtain ⟨g,cap,Z,hZ,rfl,ho,hv,hg,ht⟩:=h
  refine .inr ⟨g,cap,Z,hZ,rfl,row_kept ho hk (Nat.le_refl _) (fun k e=>by cases e;exact hg),⟨fun i hi=>?_,hv.far,hv.inner,hv.apart⟩,hg,ht⟩
  have o:=hv.own i hi
  have t:=ht i hi
  exact ⟨row_kept o.q hk (Nat.le_refl _) (fun k e=>t k (.inl e)),row_kept o.p hk (Nat.le_refl _) (fun k e=>t k (.inr (.inl e))),row_kept o.h hk (Nat.le_refl _) (fun k e=>t k (.inr (.inr (.inl e)))),row_kept o.t hk (Nat.le_refl _) (fun k e=>t k (.inr (.inr (.inr (.inl e))))),row_kept o.n hk (Nat.le_refl _) (fun k e=>t k (.inr (.inr (.inr (.inr e)))))⟩
theorem OwnKx.wide {lo hi lo' hi':Nat} {w:World} {v:Value} {l:List Bk} (h:OwnKx lo hi w v l) (h1:lo'<=lo) (h2:hi<=hi'):OwnKx lo' hi' w v l:=by
  rcases h with h | h
  · exact .inl h
  obtain ⟨g,cap,Z,hZ,rfl,ho,hv,hg,ht⟩:=h
  exact .inr ⟨g,cap,Z,hZ,rfl,row_mono ho h1,⟨fun i hi=>(hv.own i hi).mono9 h1,hv.far,hv.inner,hv.apart⟩,by omega,fun i hi k hk=>by have:=ht i hi k hk;omega⟩
theorem OwnX.kept {lo hi:Nat} {w w':World} {v:Value} {l:List Ac} (h:OwnX lo hi w v l) (hk:Kept lo hi w w'):OwnX lo hi w' v l:=by
  obtain ⟨g,cap,Z,hZ,rfl,ho,hl,hg,ht⟩:=h
  refine ⟨g,cap,Z,hZ,rfl,row_kept ho hk (Nat.le_refl _) (fun k e=>by cases e;exact hg),?_,hg,ht⟩
  exact ⟨fun i hi=>row_kept (hl.own i hi) hk (Nat.le_refl _) (fun k e=>ht _ (List.getElem_mem hi) k e),hl.far,hl.apart⟩
theorem OwnX.wide {lo hi lo' hi':Nat} {w:World} {v:Value} {l:List Ac} (h:OwnX lo hi w v l) (h1:lo'<=lo) (h2:hi<=hi'):OwnX lo' hi' w v l:=by
  obtain ⟨g,cap,Z,hZ,rfl,ho,hl,hg,ht⟩:=h
  exact ⟨g,cap,Z,hZ,rfl,row_mono ho h1,⟨fun i hi=>row_mono (hl.own i hi) h1,hl.far,hl.apart⟩,by omega,fun q hq k hk=>by have:=ht q hq k hk;omega⟩
def OwnZ (lo hi:Nat) (w:World) (v:Value) (l:List Ac):Prop:=(v=.slice none 0 0/\l=[])\/OwnX lo hi w v l
theorem OwnZ.rd {lo hi:Nat} {w:World} {v:Value} {l:List Ac} (h:OwnZ lo hi w v l):RdA w v l:=by
  rcases h with ⟨rfl,rfl⟩ | h
  · exact .inl ⟨_,_,rfl,rfl,fun _=>rfl⟩
  · exact h.rd
def InS (lo hi:Nat) (w:World) (v:Value) (l:List ByteArray):Prop:=OwnS lo w v l/\Top hi v
theorem InS.of {base:Nat} {w:World} {v:Value} {l:List ByteArray} (h:OwnS base w v l):InS base w.heap.size w v l:=⟨h,top_row h⟩
theorem InS.rd {lo hi:Nat} {w:World} {v:Value} {l:List ByteArray} (h:InS lo hi w v l):RdS w v l:=h.1.rd
theorem InS.kept {lo hi:Nat} {w w':World} {v:Value} {l:List ByteArray} (h:InS lo hi w v l) (hk:Kept lo hi w w'):InS lo hi w' v l:=⟨row_kept h.1 hk (Nat.le_refl _) h.2,h.2⟩
theorem InS.wide {lo hi lo' hi':Nat} {w:World} {v:Value} {l:List ByteArray} (h:InS lo hi w v l) (h1:lo'<=lo) (h2:hi<=hi'):InS lo' hi' w v l:=⟨row_mono h.1 h1,h.2.mono h2⟩
def InI (lo hi:Nat) (w:World) (v:Value) (l:List Int):Prop:=OwnI lo w v l/\Top hi v
theorem InI.of {base:Nat} {w:World} {v:Value} {l:List Int} (h:OwnI base w v l):InI base w.heap.size w v l:=⟨h,top_row h⟩
theorem InI.rd {lo hi:Nat} {w:World} {v:Value} {l:List Int} (h:InI lo hi w v l):RdI w v l:=h.1.rd
theorem InI.kept {lo hi:Nat} {w w':World} {v:Value} {l:List Int} (h:InI lo hi w v l) (hk:Kept lo hi w w'):InI lo hi w' v l:=⟨row_kept h.1 hk (Nat.le_refl _) h.2,h.2⟩
theorem InI.wide {lo hi lo' hi':Nat} {w:World} {v:Value} {l:List Int} (h:InI lo hi w v l) (h1:lo'<=lo) (h2:hi<=hi'):InI lo' hi' w v l:=⟨row_mono h.1 h1,h.2.mono h2⟩
def InV (lo hi:Nat) (w:World) (v:Value) (l:List Vl):Prop:=OwnV lo w v l/\Top hi v
theorem InV.of {base:Nat} {w:World} {v:Value} {l:List Vl} (h:OwnV base w v l):InV base w.heap.size w v l:=⟨h,top_row h⟩
theorem InV.rd {lo hi:Nat} {w:World} {v:Value} {l:List Vl} (h:InV lo hi w v l):RdV w v l:=h.1.rd
theorem InV.kept {lo hi:Nat} {w w':World} {v:Value} {l:List Vl} (h:InV lo hi w v l) (hk:Kept lo hi w w'):InV lo hi w' v l:=⟨row_kept h.1 hk (Nat.le_refl _) h.2,h.2⟩
theorem InV.wide {lo hi lo' hi':Nat} {w:World} {v:Value} {l:List Vl} (h:InV lo hi w v l) (h1:lo'<=lo) (h2:hi<=hi'):InV lo' hi' w v l:=⟨row_mono h.1 h1,h.2.mono h2⟩
def InT (lo hi:Nat) (w:World) (v:Value) (l:List Tx5):Prop:=OwnT lo w v l/\Top hi v
theorem InT.of {base:Nat} {w:World} {v:Value} {l:List Tx5} (h:OwnT base w v l):InT base w.heap.size w v l:=⟨h,top_row h⟩
theorem InT.rd {lo hi:Nat} {w:World} {v:Value} {l:List Tx5} (h:InT lo hi w v l):RdT w v l:=h.1.rd
theorem InT.kept {lo hi:Nat} {w w':World} {v:Value} {l:List Tx5} (h:InT lo hi w v l) (hk:Kept lo hi w w'):InT lo hi w' v l:=⟨row_kept h.1 hk (Nat.le_refl _) h.2,h.2⟩
theorem InT.wide {lo hi lo' hi':Nat} {w:World} {v:Value} {l:List Tx5} (h:InT lo hi w v l) (h1:lo'<=lo) (h2:hi<=hi'):InT lo' hi' w v l:=⟨row_mono h.1 h1,h.2.mono h2⟩
def InR (t:TypeId) (lo hi:Nat) (w:World) (v:Value) (l:List Tr):Prop:=OwnR t lo w v l/\Top hi v
theorem InR.of {t:TypeId} {base:Nat} {w:World} {v:Value} {l:List Tr} (h:OwnR t base w v l):InR t base w.heap.size w v l:=⟨h,top_row h⟩
theorem InR.rd {t:TypeId} {lo hi:Nat} {w:World} {v:Value} {l:List Tr} (h:InR t lo hi w v l):RdR w v l:=h.1.rd
theorem InR.kept {t:TypeId} {lo hi:Nat} {w w':World} {v:Value} {l:List Tr} (h:InR t lo hi w v l) (hk:Kept lo hi w w'):InR t lo hi w' v l:=⟨row_kept h.1 hk (Nat.le_refl _) h.2,h.2⟩
theorem InR.wide {t:TypeId} {lo hi lo' hi':Nat} {w:World} {v:Value} {l:List Tr} (h:InR t lo hi w v l) (h1:lo'<=lo) (h2:hi<=hi'):InR t lo' hi' w v l:=⟨row_mono h.1 h1,h.2.mono h2⟩
theorem Kept.set {lo hi g:Nat} (w:World) (j:Nat) (u:Value) (h:g < lo\/hi<=g):Kept lo hi w (w.setCell ⟨g,j,none⟩ u):=Kept.of_grown (grown_set w g j u) (fun k e=>by cases e;exact h)
theorem Kept.setCs {lo hi g:Nat} (w:World) (o:Nat) (us:List Value) (h:g < lo\/hi<=g):Kept lo hi w (w.setCells g o us):=Kept.of_grown (putC_grown g us w o) (fun k e=>by cases e;exact h)
end Go.Proofs.Ytfdbedenlbikgaa
