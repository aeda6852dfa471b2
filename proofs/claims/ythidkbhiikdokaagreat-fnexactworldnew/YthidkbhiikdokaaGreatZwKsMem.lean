/- Rows of blocks in memory. -/
import Derived.Test.YthidkbhiikdokaaGreatZwBkTo
import Derived.Deep.MidRow
import Derived.Laws.IdiomCopy
namespace Go.Proofs.YthidkbhiikdokaaGreat
open Go.RowKit
set_option linter.unusedVariables false
theorem grownS_trans9 {a b c:World} {r:Option Nat} (h:a.grownBy b r) (k:b.grownBy c r):a.grownBy c r :=
  ⟨k.os.trans h.os,k.tape.trans h.tape,k.output.trans h.output,Nat.le_trans h.size k.size,fun i hi hn=>(k.block i (Nat.lt_of_lt_of_le hi h.size) hn).trans (h.block i hi hn)⟩
theorem RdK.shapes9 {w:World} {b:Bk} {v:Bv} (h:RdK w b v):∃ aq cq aw cw ah ch at_ ct an cn,v=⟨.slice aq b.qw.length cq,.slice aw b.tw.length cw,.slice ah b.th.length ch,.slice at_ b.ts.length ct,.slice an b.nx.length cn⟩:=by
  obtain ⟨q,p,hh,t,n⟩:=h
  obtain ⟨vq,vw,vh,vt,vn⟩:=v
  obtain ⟨aq,cq,rfl⟩:=q.shape
  obtain ⟨aw,cw,rfl⟩:=p.shape
  obtain ⟨ah,ch,rfl⟩:=hh.shape
  obtain ⟨at_,ct,rfl⟩:=t.shape
  obtain ⟨an,cn,rfl⟩:=n.shape
  exact ⟨aq,cq,aw,cw,ah,ch,at_,ct,an,cn,rfl⟩
def setAll {α:Type}:List α->Nat->List α->List α
  | xs,_,[]=>xs
  | xs,o,y :: ys=>setAll (xs.set o y) (o+1) ys
theorem putC_grown (g:Nat):∀ (ys:List Value) (w:World) (o:Nat),w.grownBy (w.setCells g o ys) (some g)
  | [],w,o=>World.grownBy.refl _ _
  | y :: ys,w,o=>grownS_trans9 (grown_set w g o y) (putC_grown g ys _ (o+1))
theorem putC_below {B g:Nat} (hB:B<=g):∀ (ys:List Value) (w:World) (o:Nat),Below B w (w.setCells g o ys)
  | [],w,o=>Below.refl B w
  | y :: ys,w,o=>((Below.refl B w).setCell (p:=⟨g,o,none⟩) hB y).trans (putC_below hB ys _ (o+1))
theorem setAll_part {α:Type} (sz:Nat):∀ (ys:List α) (L:List (List α)) (i j:Nat) (hi:i < L.length),(∀ x ∈ L,x.length=sz)->j+ys.length<=sz->setAll L.flatten (i * sz+j) ys=(L.set i (setAll L[i] j ys)).flatten
  | [],L,i,j,hi,h,hj=>by simp [setAll]
  | y :: ys,L,i,j,hi,h,hj=>by
    simp only [List.length_cons] at hj
    have hL:∀ x ∈ L.set i (L[i].set j y),x.length=sz:=fun x hx=>by
      rcases List.mem_or_eq_of_mem_set hx with h' | rfl
      · exact h x h'
      · simpa using h L[i] (List.getElem_mem hi)
    rw [setAll,flat_set sz y L i j hi h (by omega),Nat.add_assoc,setAll_part sz ys _ i (j+1) (by simpa using hi) hL (by omega)]
    simp [setAll,List.set_set]
theorem setAll_whole {α:Type}:∀ (ys xs ps:List α),xs.length=ys.length->setAll (ps ++ xs) ps.length ys=ps ++ ys
  | [],xs,ps,h=>by rw [List.length_eq_zero_iff.1 h];rfl
  | y :: ys,[],ps,h=>by simp at h
  | y :: ys,x :: xs,ps,h=>by
    have e:=setAll_whole ys xs (ps ++ [y]) (by simpa using h)
    rw [setAll,List.set_append_right _ _ (Nat.le_refl _),Nat.sub_self,List.set_cons_zero]
    simp only [List.length_append,List.length_cons,List.length_nil,Nat.zero_add,List.append_assoc,List.singleton_append] at e
    exact e
theorem setAll_flat {α:Type} (sz:Nat) (ys:List α) (L:List (List α)) (i:Nat) (hi:i < L.length) (h:∀ x ∈ L,x.length=sz) (hy:ys.length=sz):setAll L.flatten (i * sz) ys=(L.set i ys).flatten:=by
  have e:=setAll_part sz ys L i 0 hi h (by omega)
  rw [Nat.add_zero] at e
  rw [e]
  have e2:=setAll_whole ys L[i] [] (by rw [h _ (List.getElem_mem hi),hy])
  simp only [List.nil_append,List.length_nil] at e2
  rw [e2]
def BkAt (w:World) (g o:Nat) (b:Bk) (v:Bv):Prop:=∀ j,j < 14->w.cell? ⟨g,o+j,none⟩=(bkC b v)[j]?
theorem BkAt.below {w w':World} {B g o:Nat} {b:Bk} {v:Bv} (h:BkAt w g o b v) (hb:Below B w w') (hB:g < B):BkAt w' g o b v :=
  fun j hj=>(hb.cell (p:=⟨g,o+j,none⟩) hB).trans (h j hj)
theorem BkAt.cells {w:World} {g o:Nat} {b:Bk} {v:Bv} (h:BkAt w g o b v):w.cell? ⟨g,o,none⟩=some (.int .i64 b.id)/\w.cell? ⟨g,o+1,none⟩=some (.int .i64 b.ep)/\w.cell? ⟨g,o+2,none⟩=some (.int .i64 b.rd)/\w.cell? ⟨g,o+3,none⟩=some (.string b.md)/\w.cell? ⟨g,o+4,none⟩=some (.int .i64 b.qr)/\w.cell? ⟨g,o+5,none⟩=some (.int .i64 b.qb)/\w.cell? ⟨g,o+6,none⟩=some (v.q)/\w.cell? ⟨g,o+7,none⟩=some (.int .i64 b.tr)/\w.cell? ⟨g,o+8,none⟩=some (v.w)/\w.cell? ⟨g,o+9,none⟩=some (v.h)/\w.cell? ⟨g,o+10,none⟩=some (v.t)/\w.cell? ⟨g,o+11,none⟩=some (.bool b.en)/\w.cell? ⟨g,o+12,none⟩=some (v.n)/\w.cell? ⟨g,o+13,none⟩=some (.string b.rt) :=
  ⟨h 0 (by omega),h 1 (by omega),h 2 (by omega),h 3 (by omega),h 4 (by omega),h 5 (by omega),h 6 (by omega),h 7 (by omega),h 8 (by omega),h 9 (by omega),h 10 (by omega),h 11 (by omega),h 12 (by omega),h 13 (by omega)⟩
def RdKs (w:World) (v:Value) (l:List Bk):Prop :=
  (∃ a cap,v=.slice a 0 cap/\l=[]/\(a=none->cap=0)) \/
  ∃ b off cap,l ≠ []/\v=.slice (some ⟨b,off,none⟩) l.length cap/\l.length<=cap/\cap<=maxLen/\b < w.heap.size /\
    ∀ i (h:i < l.length),∃ bv,BkAt w b (off+i * 14) l[i] bv/\RdK w l[i] bv
theorem RdKs.shape {w:World} {v:Value} {l:List Bk} (h:RdKs w v l):∃ a cap,v=.slice a l.length cap:=by
  rcases h with ⟨a,cap,rfl,rfl,-⟩ | ⟨b,off,cap,h0,rfl,_⟩
  · exact ⟨a,cap,rfl⟩
  · exact ⟨_,cap,rfl⟩
theorem RdKs.below {B:Nat} {w w':World} {v:Value} {l:List Bk} (h:RdKs w v l) (hb:Below B w w') (hB:w.heap.size<=B):RdKs w' v l:=by
  rcases h with h | ⟨b,off,cap,h0,hv,h1,h2,h3,h4⟩
  · exact .inl h
  · refine .inr ⟨b,off,cap,h0,hv,h1,h2,by have:=hb.size;omega,fun i hi=>?_⟩
    obtain ⟨lv,k1,k2⟩:=h4 i hi
    exact ⟨lv,k1.below hb (by omega),k2.below hb hB⟩
def Bv.has (v:Bv) (g:Nat):Prop:=v.q.ownBlock=some g\/v.w.ownBlock=some g\/v.h.ownBlock=some g\/v.t.ownBlock=some g\/v.n.ownBlock=some g
def bkP (q:Bk × Bv):List Value:=bkC q.1 q.2
def bkZ:List Value:=[.int .i64 0,.int .i64 0,.int .i64 0,.string { data:=#[] },.int .i64 0,.int .i64 0,.slice none 0 0,.int .i64 0,.slice none 0 0,.slice none 0 0,.slice none 0 0,.bool false,.slice none 0 0,.string { data:=#[] }]
theorem bkP_sz (l:List (Bk × Bv)):∀ x ∈ l.map bkP,x.length=14:=fun x hx=>by obtain ⟨p,_,rfl⟩:=List.mem_map.1 hx;rfl
theorem OwnK.below9 {B base:Nat} {w w':World} {b:Bk} {v:Bv} (h:OwnK base w b v) (hb:Below B w w') (hB:w.heap.size<=B):OwnK base w' b v :=
  ⟨row_below h.q hb hB,row_below h.p hb hB,row_below h.h hb hB,row_below h.t hb hB,row_below h.n hb hB⟩
theorem OwnK.in9 {base:Nat} {w:World} {b:Bk} {v:Bv} (h:OwnK base w b v) (g:Nat) (hg:v.has g):base<=g/\g < w.heap.size:=by
  rcases hg with e | e | e | e | e
  · exact World.ownsRow.lt h.q g e
  · exact World.ownsRow.lt h.p g e
  · exact World.ownsRow.lt h.h g e
  · exact World.ownsRow.lt h.t g e
  · exact World.ownsRow.lt h.n g e
theorem OwnK.grown9 {base:Nat} {w w':World} {b:Bk} {v:Bv} {g:Nat} (h:OwnK base w b v) (hg:w.grownBy w' (some g)) (hn:¬ v.has g):OwnK base w' b v:=by
  have k:∀ x:Value,(x.ownBlock=some g->v.has g)->(x.ownBlock=none\/x.ownBlock ≠ some g):=fun x hx=>.inr (fun e=>hn (hx e))
  exact ⟨World.ownsRow.kept h.q hg (k _ (fun e=>.inl e)),World.ownsRow.kept h.p hg (k _ (fun e=>.inr (.inl e))),World.ownsRow.kept h.h hg (k _ (fun e=>.inr (.inr (.inl e)))),World.ownsRow.kept h.t hg (k _ (fun e=>.inr (.inr (.inr (.inl e))))),World.ownsRow.kept h.n hg (k _ (fun e=>.inr (.inr (.inr (.inr e)))))⟩
structure Kvs (base:Nat) (w:World) (g:Nat) (Z:List (Bk × Bv)):Prop where
  own:∀ i (h:i < Z.length),OwnK base w Z[i].1 Z[i].2
  far:∀ i (h:i < Z.length),¬ Z[i].2.has g
  inner:∀ i (h:i < Z.length) k,Z[i].2.q.ownBlock=some k->Z[i].2.w.ownBlock ≠ some k
  apart:∀ i j (hi:i < Z.length) (hj:j < Z.length),i ≠ j->∀ k,Z[i].2.has k->¬ Z[j].2.has k
theorem Kvs.below {B base:Nat} {w w':World} {g:Nat} {Z:List (Bk × Bv)} (h:Kvs base w g Z) (hb:Below B w w') (hB:w.heap.size<=B):Kvs base w' g Z :=
  ⟨fun i hi=>(h.own i hi).below9 hb hB,h.far,h.inner,h.apart⟩
theorem Kvs.grown {base:Nat} {w w':World} {g:Nat} {Z:List (Bk × Bv)} (h:Kvs base w g Z) (hg:w.grownBy w' (some g)):Kvs base w' g Z :=
  ⟨fun i hi=>(h.own i hi).grown9 hg (h.far i hi),h.far,h.inner,h.apart⟩
def OwnKs (base:Nat) (w:World) (v:Value) (l:List Bk):Prop :=
  ∃ (g cap:Nat) (Z:List (Bk × Bv)),Z.map (·.1)=l/\v=.slice (some ⟨g,0,none⟩) l.length cap/\w.ownsRow base 94 14 v l.length (Z.map bkP).flatten/\Kvs base w g Z
theorem rowP_at {base:Nat} {w:World} {g cap n:Nat} {Z:List (Bk × Bv)} (ho:w.ownsRow base 94 14 (.slice (some ⟨g,0,none⟩) n cap) n (Z.map bkP).flatten) (hn:Z.length=n) (i:Nat) (hi:i < Z.length):BkAt w g (0+i * 14) Z[i].1 Z[i].2:=fun j hj=>by
  rw [Nat.zero_add,ho.cellAt (i * 14+j) (by omega),flat_get 14 (Z.map bkP) i j (by simpa using hi) (bkP_sz Z) hj]
  simp [bkP]
theorem OwnKs.rd {base:Nat} {w:World} {v:Value} {l:List Bk} (h:OwnKs base w v l):RdKs w v l:=by
  obtain ⟨g,cap,Z,hZ,rfl,ho,hl⟩:=h
  have hlen:Z.length=l.length:=by rw [<- hZ];simp
  by_cases hn:l=[]
  · subst hn;exact .inl ⟨_,_,rfl,rfl,fun h=>by cases h⟩
  · rcases ho.2 with ⟨hv,_⟩ | ⟨g',cap',cur,hv,hb,hg,hnc,hcm,hcs,ht⟩
    · cases hv
    · simp only [Value.slice.injEq,Option.some.injEq,Addr.mk.injEq,and_true,true_and] at hv
      obtain ⟨rfl,rfl⟩:=hv
      refine .inr ⟨g,0,cap,hn,rfl,hnc,hcm,(Array.getElem?_eq_some_iff.1 hg).1,fun i hi=>?_⟩
      have hi':i < Z.length:=by omega
      have e:l[i]=Z[i].1:=by subst hZ;simp
      exact ⟨Z[i].2,by rw [e];exact rowP_at ho hlen i hi',by rw [e];exact (hl.own i hi').rd⟩
end Go.Proofs.YthidkbhiikdokaaGreat
