/- Accounts and what leaves, over plain data and in memory. -/
import Derived.Test.YtfdbedenlbikgaaZlBkToD
import Derived.Deep.MidRow
import Derived.Laws.IdiomCopy
set_option maxRecDepth 20000
set_option maxHeartbeats 1000000
namespace Go.Proofs.Ytfdbedenlbikgaa
open Go.RowKit
set_option linter.unusedVariables false
theorem grownS_trans9 {a b c:World} {r:Option Nat} (h:a.grownBy b r) (k:b.grownBy c r):a.grownBy c r :=
  ⟨k.os.trans h.os,k.tape.trans h.tape,k.output.trans h.output,Nat.le_trans h.size k.size,fun i hi hn=>(k.block i (Nat.lt_of_lt_of_le hi h.size) hn).trans (h.block i hi hn)⟩
theorem RdK.shapes9 {w:World} {b:Bk} {v:Bv} (h:RdK w b v):∃ aq cq aw cw ah ch at_ ct an cn,v=⟨.slice aq b.qw.length cq,.slice aw b.tw.length cw,.slice ah b.th.length ch,.slice at_ b.ts.length ct,.slice an b.nx.length cn⟩:=by
  obtain ⟨q,p,hh,t,n⟩:=h
  obtain ⟨vq,vw,vh,vt,vn⟩:=v
  obtain ⟨aq,cq,rfl⟩:=q.shape
  obtain ⟨aw,cw,rfl⟩:=p.shape
  obtain ⟨ah,ch,rfl⟩:=hh.shape
  obtain ⟨at_,ct,rfl⟩:=t.shape
  obtain ⟨an,cn,rfl⟩:=n.shape
  exact ⟨aq,cq,aw,cw,ah,ch,at_,ct,an,cn,rfl⟩
def setAll {α:Type}:List α->Nat->List α->List α
  | xs,_,[]=>xs
  | xs,o,y :: ys=>setAll (xs.set o y) (o+1) ys
theorem putC_grown (g:Nat):∀ (ys:List Value) (w:World) (o:Nat),w.grownBy (w.setCells g o ys) (some g)
  | [],w,o=>World.grownBy.refl _ _
  | y :: ys,w,o=>grownS_trans9 (grown_set w g o y) (putC_grown g ys _ (o+1))
theorem putC_row {base:Nat} {T:TypeId} {sz g n cap:Nat}:∀ (ys:List Value) (w:World) (o:Nat) (xs:List Value),w.ownsRow base T sz (.slice (some ⟨g,0,none⟩) n cap) n xs->(w.setCells g o ys).ownsRow base T sz (.slice (some ⟨g,0,none⟩) n cap) n (setAll xs o ys)
  | [],w,o,xs,h=>h
  | y :: ys,w,o,xs,h=>putC_row ys _ (o+1) _ (h.stored o y).1
theorem putC_below {B g:Nat} (hB:B<=g):∀ (ys:List Value) (w:World) (o:Nat),Below B w (w.setCells g o ys)
  | [],w,o=>Below.refl B w
  | y :: ys,w,o=>((Below.refl B w).setCell (p:=⟨g,o,none⟩) hB y).trans (putC_below hB ys _ (o+1))
theorem setAll_part {α:Type} (sz:Nat):∀ (ys:List α) (L:List (List α)) (i j:Nat) (hi:i < L.length),(∀ x ∈ L,x.length=sz)->j+ys.length<=sz->setAll L.flatten (i * sz+j) ys=(L.set i (setAll L[i] j ys)).flatten
  | [],L,i,j,hi,h,hj=>by simp [setAll]
  | y :: ys,L,i,j,hi,h,hj=>by
    simp only [List.length_cons] at hj
    have hL:∀ x ∈ L.set i (L[i].set j y),x.length=sz:=fun x hx=>by
      rcases List.mem_or_eq_of_mem_set hx with h' | rfl
      · exact h x h'
      · simpa using h L[i] (List.getElem_mem hi)
    rw [setAll,flat_set sz y L i j hi h (by omega),Nat.add_assoc,setAll_part sz ys _ i (j+1) (by simpa using hi) hL (by omega)]
    simp [setAll,List.set_set]
theorem setAll_whole {α:Type}:∀ (ys xs ps:List α),xs.length=ys.length->setAll (ps ++ xs) ps.length ys=ps ++ ys
  | [],xs,ps,h=>by rw [List.length_eq_zero_iff.1 h];rfl
  | y :: ys,[],ps,h=>by simp at h
  | y :: ys,x :: xs,ps,h=>by
    have e:=setAll_whole ys xs (ps ++ [y]) (by simpa using h)
    rw [setAll,List.set_append_right _ _ (Nat.le_refl _),Nat.sub_self,List.set_cons_zero]
    simp only [List.length_append,List.length_cons,List.length_nil,Nat.zero_add,List.append_assoc,List.singleton_append] at e
    exact e
theorem setAll_flat {α:Type} (sz:Nat) (ys:List α) (L:List (List α)) (i:Nat) (hi:i < L.length) (h:∀ x ∈ L,x.length=sz) (hy:ys.length=sz):setAll L.flatten (i * sz) ys=(L.set i ys).flatten:=by
  have e:=setAll_part sz ys L i 0 hi h (by omega)
  rw [Nat.add_zero] at e
  rw [e]
  have e2:=setAll_whole ys L[i] [] (by rw [h _ (List.getElem_mem hi),hy])
  simp only [List.nil_append,List.length_nil] at e2
  rw [e2]
theorem store14 (w:World) (g o:Nat) (cs:List Value) (hl:cs.length=14) (ht:w.there g o 14) (h1:cs.all (·.oneCell')=true):(storeCells ⟨g,o,none⟩ cs).run Try.prog w=.ok () (w.setCells g o cs):=by
  have h:=run_storeAt_mid (P:=Try.prog) w g o 105 cs.toArray (by simpa [hl] using ht) (by rw [show cs.toArray.size=14 by simpa using hl];kernel_rfl) (by simpa using h1)
  simpa [go_sem,hl] using h
theorem row_there {base:Nat} {w:World} {T:TypeId} {sz g n cap o:Nat} {xs:List Value} (h:w.ownsRow base T sz (.slice (some ⟨g,0,none⟩) n cap) n xs) (ho:o+14<=xs.length):w.there g o 14:=fun j hj=>by
  have hx:=h.1
  refine ⟨?_,h.frozenAt (o+j)⟩
  rw [h.cellAt (o+j) (by omega),List.getElem?_eq_getElem (by omega)]
  rfl
theorem bkC_one {w:World} {b:Bk} {v:Bv} (h:RdK w b v):(bkC b v).all (·.oneCell')=true:=by
  obtain ⟨aq,cq,aw,cw,ah,ch,at_,ct,an,cn,rfl⟩:=h.shapes9
  simp [bkC,Value.oneCell']
def BkAt (w:World) (g o:Nat) (b:Bk) (v:Bv):Prop:=∀ j,j < 14->w.cell? ⟨g,o+j,none⟩=(bkC b v)[j]?
theorem BkAt.below {w w':World} {B g o:Nat} {b:Bk} {v:Bv} (h:BkAt w g o b v) (hb:Below B w w') (hB:g < B):BkAt w' g o b v :=
  fun j hj=>(hb.cell (p:=⟨g,o+j,none⟩) hB).trans (h j hj)
theorem BkAt.cells {w:World} {g o:Nat} {b:Bk} {v:Bv} (h:BkAt w g o b v):w.cell? ⟨g,o,none⟩=some (.int .i64 b.id)/\w.cell? ⟨g,o+1,none⟩=some (.int .i64 b.ep)/\w.cell? ⟨g,o+2,none⟩=some (.int .i64 b.rd)/\w.cell? ⟨g,o+3,none⟩=some (.string b.md)/\w.cell? ⟨g,o+4,none⟩=some (.int .i64 b.qr)/\w.cell? ⟨g,o+5,none⟩=some (.int .i64 b.qb)/\w.cell? ⟨g,o+6,none⟩=some (v.q)/\w.cell? ⟨g,o+7,none⟩=some (.int .i64 b.tr)/\w.cell? ⟨g,o+8,none⟩=some (v.w)/\w.cell? ⟨g,o+9,none⟩=some (v.h)/\w.cell? ⟨g,o+10,none⟩=some (v.t)/\w.cell? ⟨g,o+11,none⟩=some (.bool b.en)/\w.cell? ⟨g,o+12,none⟩=some (v.n)/\w.cell? ⟨g,o+13,none⟩=some (.string b.rt) :=
  ⟨h 0 (by omega),h 1 (by omega),h 2 (by omega),h 3 (by omega),h 4 (by omega),h 5 (by omega),h 6 (by omega),h 7 (by omega),h 8 (by omega),h 9 (by omega),h 10 (by omega),h 11 (by omega),h 12 (by omega),h 13 (by omega)⟩
def RdKs (w:World) (v:Value) (l:List Bk):Prop :=
  (∃ a cap,v=.slice a 0 cap/\l=[]/\(a=none->cap=0)) \/
  ∃ b off cap,l ≠ []/\v=.slice (some ⟨b,off,none⟩) l.length cap/\l.length<=cap/\cap<=maxLen/\b < w.heap.size /\
    ∀ i (h:i < l.length),∃ bv,BkAt w b (off+i * 14) l[i] bv/\RdK w l[i] bv
theorem RdKs.shape {w:World} {v:Value} {l:List Bk} (h:RdKs w v l):∃ a cap,v=.slice a l.length cap:=by
  rcases h with ⟨a,cap,rfl,rfl,-⟩ | ⟨b,off,cap,h0,rfl,_⟩
  · exact ⟨a,cap,rfl⟩
  · exact ⟨_,cap,rfl⟩
theorem RdKs.below {B:Nat} {w w':World} {v:Value} {l:List Bk} (h:RdKs w v l) (hb:Below B w w') (hB:w.heap.size<=B):RdKs w' v l:=by
  rcases h with h | ⟨b,off,cap,h0,hv,h1,h2,h3,h4⟩
  · exact .inl h
  · refine .inr ⟨b,off,cap,h0,hv,h1,h2,by have:=hb.size;omega,fun i hi=>?_⟩
    obtain ⟨lv,k1,k2⟩:=h4 i hi
    exact ⟨lv,k1.below hb (by omega),k2.below hb hB⟩
def Bv.has (v:Bv) (g:Nat):Prop:=v.q.ownBlock=some g\/v.w.ownBlock=some g\/v.h.ownBlock=some g\/v.t.ownBlock=some g\/v.n.ownBlock=some g
def bkP (q:Bk × Bv):List Value:=bkC q.1 q.2
def bkZ:List Value:=[.int .i64 0,.int .i64 0,.int .i64 0,.string { data:=#[] },.int .i64 0,.int .i64 0,.slice none 0 0,.int .i64 0,.slice none 0 0,.slice none 0 0,.slice none 0 0,.bool false,.slice none 0 0,.string { data:=#[] }]
theorem bkP_sz (l:List (Bk × Bv)):∀ x ∈ l.map bkP,x.length=14:=fun x hx=>by obtain ⟨p,_,rfl⟩:=List.mem_map.1 hx;rfl
theorem OwnK.below9 {B base:Nat} {w w':World} {b:Bk} {v:Bv} (h:OwnK base w b v) (hb:Below B w w') (hB:w.heap.size<=B):OwnK base w' b v :=
  ⟨row_below h.q hb hB,row_below h.p hb hB,row_below h.h hb hB,row_below h.t hb hB,row_below h.n hb hB⟩
theorem OwnK.mono9 {base base':Nat} {w:World} {b:Bk} {v:Bv} (h:OwnK base w b v) (hB:base'<=base):OwnK base' w b v :=
  ⟨h.q.mono hB,h.p.mono hB,h.h.mono hB,h.t.mono hB,h.n.mono hB⟩
theorem OwnK.in9 {base:Nat} {w:World} {b:Bk} {v:Bv} (h:OwnK base w b v) (g:Nat) (hg:v.has g):base<=g/\g < w.heap.size:=by
  rcases hg with e | e | e | e | e
  · exact World.ownsRow.lt h.q g e
  · exact World.ownsRow.lt h.p g e
  · exact World.ownsRow.lt h.h g e
  · exact World.ownsRow.lt h.t g e
  · exact World.ownsRow.lt h.n g e
theorem OwnK.grown9 {base:Nat} {w w':World} {b:Bk} {v:Bv} {g:Nat} (h:OwnK base w b v) (hg:w.grownBy w' (some g)) (hn:¬ v.has g):OwnK base w' b v:=by
  have k:∀ x:Value,(x.ownBlock=some g->v.has g)->(x.ownBlock=none\/x.ownBlock ≠ some g):=fun x hx=>.inr (fun e=>hn (hx e))
  exact ⟨World.ownsRow.kept h.q hg (k _ (fun e=>.inl e)),World.ownsRow.kept h.p hg (k _ (fun e=>.inr (.inl e))),World.ownsRow.kept h.h hg (k _ (fun e=>.inr (.inr (.inl e)))),World.ownsRow.kept h.t hg (k _ (fun e=>.inr (.inr (.inr (.inl e))))),World.ownsRow.kept h.n hg (k _ (fun e=>.inr (.inr (.inr (.inr e)))))⟩
structure Kvs (base:Nat) (w:World) (g:Nat) (Z:List (Bk × Bv)):Prop where
  own:∀ i (h:i < Z.length),OwnK base w Z[i].1 Z[i].2
  far:∀ i (h:i < Z.length),¬ Z[i].2.has g
  inner:∀ i (h:i < Z.length) k,Z[i].2.q.ownBlock=some k->Z[i].2.w.ownBlock ≠ some k
  apart:∀ i j (hi:i < Z.length) (hj:j < Z.length),i ≠ j->∀ k,Z[i].2.has k->¬ Z[j].2.has k
theorem Kvs.nil (base:Nat) (w:World) (g:Nat):Kvs base w g []:=⟨fun i h=>by simp at h,fun i h=>by simp at h,fun i h=>by simp at h,fun i j h=>by simp at h⟩
theorem Kvs.below {B base:Nat} {w w':World} {g:Nat} {Z:List (Bk × Bv)} (h:Kvs base w g Z) (hb:Below B w w') (hB:w.heap.size<=B):Kvs base w' g Z :=
  ⟨fun i hi=>(h.own i hi).below9 hb hB,h.far,h.inner,h.apart⟩
theorem Kvs.grown {base:Nat} {w w':World} {g:Nat} {Z:List (Bk × Bv)} (h:Kvs base w g Z) (hg:w.grownBy w' (some g)):Kvs base w' g Z :=
  ⟨fun i hi=>(h.own i hi).grown9 hg (h.far i hi),h.far,h.inner,h.apart⟩
theorem Kvs.snoc {base:Nat} {w:World} {g:Nat} {Z:List (Bk × Bv)} (h:Kvs base w g Z) (q:Bk × Bv) (ho:OwnK base w q.1 q.2) (hf:¬ q.2.has g) (hin:∀ k,q.2.q.ownBlock=some k->q.2.w.ownBlock ≠ some k)
    (hn:∀ i (hi:i < Z.length) k,Z[i].2.has k->¬ q.2.has k):Kvs base w g (Z ++ [q]):=by
  have at1:∀ i (hi:i < (Z ++ [q]).length),(∃ h':i < Z.length,(Z ++ [q])[i]=Z[i])\/(i=Z.length/\(Z ++ [q])[i]=q):=fun i hi=>by
    by_cases h':i < Z.length
    · exact .inl ⟨h',List.getElem_append_left h'⟩
    · have e:i=Z.length:=by simp at hi;omega
      subst e
      exact .inr ⟨rfl,by simp⟩
  refine ⟨fun i hi=>?_,fun i hi=>?_,fun i hi k hk=>?_,fun i j hi hj hij k hk=>?_⟩
  · rcases at1 i hi with ⟨h',e⟩ | ⟨_,e⟩
    · rw [e];exact h.own i h'
    · rw [e];exact ho
  · rcases at1 i hi with ⟨h',e⟩ | ⟨_,e⟩
    · rw [e];exact h.far i h'
    · rw [e];exact hf
  · rcases at1 i hi with ⟨h',e⟩ | ⟨_,e⟩
    · rw [e] at hk ⊢;exact h.inner i h' k hk
    · rw [e] at hk ⊢;exact hin k hk
  · rcases at1 i hi with ⟨h',e⟩ | ⟨ei,e⟩ <;> rcases at1 j hj with ⟨h2,e2⟩ | ⟨ej,e2⟩
    · rw [e] at hk;rw [e2];exact h.apart i j h' h2 hij k hk
    · rw [e] at hk;rw [e2];exact hn i h' k hk
    · rw [e] at hk;rw [e2];exact fun e3=>hn j h2 k e3 hk
    · omega
def OwnKs (base:Nat) (w:World) (v:Value) (l:List Bk):Prop :=
  ∃ (g cap:Nat) (Z:List (Bk × Bv)),Z.map (·.1)=l/\v=.slice (some ⟨g,0,none⟩) l.length cap/\w.ownsRow base 105 14 v l.length (Z.map bkP).flatten/\Kvs base w g Z
theorem rowP_at {base:Nat} {w:World} {g cap n:Nat} {Z:List (Bk × Bv)} (ho:w.ownsRow base 105 14 (.slice (some ⟨g,0,none⟩) n cap) n (Z.map bkP).flatten) (hn:Z.length=n) (i:Nat) (hi:i < Z.length):BkAt w g (0+i * 14) Z[i].1 Z[i].2:=fun j hj=>by
  rw [Nat.zero_add,ho.cellAt (i * 14+j) (by omega),flat_get 14 (Z.map bkP) i j (by simpa using hi) (bkP_sz Z) hj]
  simp [bkP]
theorem OwnKs.rd {base:Nat} {w:World} {v:Value} {l:List Bk} (h:OwnKs base w v l):RdKs w v l:=by
  obtain ⟨g,cap,Z,hZ,rfl,ho,hl⟩:=h
  have hlen:Z.length=l.length:=by rw [<- hZ];simp
  by_cases hn:l=[]
  · subst hn;exact .inl ⟨_,_,rfl,rfl,fun h=>by cases h⟩
  · rcases ho.2 with ⟨hv,_⟩ | ⟨g',cap',cur,hv,hb,hg,hnc,hcm,hcs,ht⟩
    · cases hv
    · simp only [Value.slice.injEq,Option.some.injEq,Addr.mk.injEq,and_true,true_and] at hv
      obtain ⟨rfl,rfl⟩:=hv
      refine .inr ⟨g,0,cap,hn,rfl,hnc,hcm,(Array.getElem?_eq_some_iff.1 hg).1,fun i hi=>?_⟩
      have hi':i < Z.length:=by omega
      have e:l[i]=Z[i].1:=by subst hZ;simp
      exact ⟨Z[i].2,by rw [e];exact rowP_at ho hlen i hi',by rw [e];exact (hl.own i hi').rd⟩
theorem Try.infoBk:(Try.prog.info? 105).map (fun i=>(i.zero,i.size,i.bytes))=some (some (.agg #[.int .i64 0,.int .i64 0,.int .i64 0,.string { data:=#[] },.int .i64 0,.int .i64 0,.slice none 0 0,.int .i64 0,.slice none 0 0,.slice none 0 0,.slice none 0 0,.bool false,.slice none 0 0,.string { data:=#[] }]),14,208):=by kernel_rfl
def RdL (w:World) (v:Value) (l:List (Int × Int)):Prop :=
  (∃ a cap,v=.slice a 0 cap/\l=[]/\(a=none->cap=0)) \/
  ∃ b off cap,l ≠ []/\v=.slice (some ⟨b,off,none⟩) l.length cap/\l.length<=cap/\cap<=maxLen/\b < w.heap.size /\
    ∀ i (h:i < l.length),w.cell? ⟨b,off+i * 2,none⟩=some (.int .i64 l[i].1)/\w.cell? ⟨b,off+i * 2+1,none⟩=some (.int .i64 l[i].2)
theorem RdL.shape {w:World} {v:Value} {l:List (Int × Int)} (h:RdL w v l):∃ a cap,v=.slice a l.length cap:=by
  rcases h with ⟨a,cap,rfl,rfl,-⟩ | ⟨b,off,cap,h0,rfl,_⟩
  · exact ⟨a,cap,rfl⟩
  · exact ⟨_,cap,rfl⟩
theorem RdL.below {B:Nat} {w w':World} {v:Value} {l:List (Int × Int)} (h:RdL w v l) (hb:Below B w w') (hB:w.heap.size<=B):RdL w' v l:=by
  rcases h with h | ⟨b,off,cap,h0,hv,h1,h2,h3,h4⟩
  · exact .inl h
  · exact .inr ⟨b,off,cap,h0,hv,h1,h2,by have:=hb.size;omega,fun i hi=>⟨(hb.cell (p:=⟨b,off+i * 2,none⟩) (by show b < B;omega)).trans (h4 i hi).1,(hb.cell (p:=⟨b,off+i * 2+1,none⟩) (by show b < B;omega)).trans (h4 i hi).2⟩⟩
def lvC (p:Int × Int):List Value:=[.int .i64 p.1,.int .i64 p.2]
def OwnL (base:Nat) (w:World) (v:Value) (l:List (Int × Int)):Prop:=w.ownsRow base 181 2 v l.length (l.map lvC).flatten
theorem Try.infoLv:(Try.prog.info? 181).map (fun i=>(i.zero,i.size,i.bytes))=some (some (.agg #[.int .i64 0,.int .i64 0]),2,16):=by kernel_rfl
theorem lvC_sz (p:Int × Int):(lvC p).length=2:=rfl
theorem lvP_sz (l:List (Int × Int)) (k:Nat):∀ x ∈ part lvC [Value.int .i64 0,Value.int .i64 0] l k,x.length=2:=part_sz 2 _ _ _ _ lvC_sz rfl
theorem lvM_sz (l:List (Int × Int)):∀ x ∈ l.map lvC,x.length=2:=fun x hx=>by obtain ⟨p,_,rfl⟩:=List.mem_map.1 hx;rfl
theorem OwnL.rd {base:Nat} {w:World} {v:Value} {l:List (Int × Int)} (h:OwnL base w v l):RdL w v l:=by
  rcases h.2 with ⟨hv,hn⟩ | ⟨g,cap,cur,hv,hb,hg,hnc,hcm,hcs,ht⟩
  · exact .inl ⟨none,0,hv,List.length_eq_zero_iff.1 hn,fun _=>rfl⟩
  · by_cases hl:l=[]
    · subst hl;exact .inl ⟨_,_,hv,rfl,fun h=>by cases h⟩
    · refine .inr ⟨g,0,cap,hl,hv,hnc,hcm,(Array.getElem?_eq_some_iff.1 hg).1,?_⟩
      intro i hi
      have h':w.ownsRow base 181 2 (.slice (some ⟨g,0,none⟩) l.length cap) l.length (l.map lvC).flatten:=hv ▸ h
      have e0:=flat_get 2 (l.map lvC) i 0 (by simpa using hi) (lvM_sz l) (by omega)
      have e1:=flat_get 2 (l.map lvC) i 1 (by simpa using hi) (lvM_sz l) (by omega)
      rw [Nat.zero_add,h'.cellAt (i * 2) (by omega),h'.cellAt (i * 2+1) (by omega)]
      rw [Nat.add_zero] at e0
      rw [e0,e1]
      simp [lvC]
theorem OwnL.mono {base base':Nat} {w:World} {v:Value} {l:List (Int × Int)} (h:OwnL base w v l) (hB:base'<=base):OwnL base' w v l:=by
  refine ⟨h.1,?_⟩
  rcases h.2 with h' | ⟨g,cap,cur,hv,hbb,r⟩
  · exact .inl h'
  · exact .inr ⟨g,cap,cur,hv,by omega,r⟩
theorem OwnL.ge {base:Nat} {w:World} {v:Value} {l:List (Int × Int)} (h:OwnL base w v l):∀ k,v.ownBlock=some k->base<=k:=fun k hk=>(World.ownsRow.lt h k hk).1
theorem OwnL.lt {base:Nat} {w:World} {v:Value} {l:List (Int × Int)} (h:OwnL base w v l):∀ k,v.ownBlock=some k->k < w.heap.size:=fun k hk=>(World.ownsRow.lt h k hk).2
theorem OwnL.below {B base:Nat} {w w':World} {v:Value} {l:List (Int × Int)} (h:OwnL base w v l) (hb:Below B w w') (hB:w.heap.size<=B):OwnL base w' v l:=row_below h hb hB
theorem toLeave_any (x y:Int) (w:World):Calls Try.prog 93 #[.agg #[.int .i64 x,.int .i64 y]] w fun e w'=>e=.returned (.agg #[.int .i64 x,.int .i64 y])/\Below w.heap.size w w':=by
  go_enter Try.func93,Try.ntmps93
  go_wp2
  refine bodyPost_ret (v:=.agg #[.int .i64 x,.int .i64 y]) (by simp [results,Try.f93,go_sem]) rfl ?_
  exact ⟨rfl,((((Below.refl _ w).alloc (Nat.le_refl _) _).alloc (by simp) _).alloc (by simp;omega) _)⟩
theorem toLeaveS_any (v:Value) (l:List (Int × Int)) (w:World) (hr:RdL w v l) (hl:l.length<=4000000) :
    Calls Try.prog 85 #[v] w fun e w'=>∃ v',e=.returned v'/\OwnL w.heap.size w' v' l/\Below w.heap.size w w':=by
  obtain ⟨i0,hi,hz0,hz1,hz2⟩:=info_parts Try.infoLv
  rcases hr with ⟨a,cap,rfl,rfl,-⟩ | ⟨b,off,cap,h0,rfl,h1,h2,h3,h4⟩
  · go_enter Try.func85,Try.ntmps85
    go_wp2_with (refine wpList_make_full _ rfl _ _ 133 rfl w.heap.size 181 i0 (.agg #[.int .i64 0,.int .i64 0]) 2 Try.underlying133 hi hz0 hz1 .i64 .i64 _ _ 0 rfl rfl rfl rfl (by omega) (by unfold maxLen;omega) (Nat.le_refl _) ?_;intro w1 hown hgrow)
    have hb1:Below w.heap.size w w1:=(Below.refl _ _).grown hgrow (Nat.le_refl _) (by intro k hk;cases hk)
    refine wp_loop_rounds 1 ?_
    rw [rounds_succ]
    go_wp2
    go_ret
    have ho':OwnL w.heap.size w1 (.slice (some ⟨w.heap.size,0,none⟩) 0 0) []:=by
      have e:=made_flat (Value.agg #[.int .i64 0,.int .i64 0]).cells 2 0 rfl (by omega)
      rw [e] at hown
      exact hown
    exact ⟨_,rfl,ho',hb1⟩
  · go_enter Try.func85,Try.ntmps85
    go_wp2_with (refine wpList_make_full _ rfl _ _ 133 rfl w.heap.size 181 i0 (.agg #[.int .i64 0,.int .i64 0]) 2 Try.underlying133 hi hz0 hz1 .i64 .i64 _ _ l.length rfl rfl rfl rfl (by rw [hz2];omega) (by unfold maxLen;omega) (Nat.le_refl _) ?_;intro w1 hown hgrow)
    have hb1:Below w.heap.size w w1:=(Below.refl _ _).grown hgrow (Nat.le_refl _) (by intro k hk;cases hk)
    go_loopw [4] (fun i wr=>∃ k:Nat,k<=l.length/\i=.int .i64 k/\wr.ownsRow w.heap.size 181 2 (.slice (some ⟨w.heap.size,0,none⟩) l.length l.length) l.length (part lvC [Value.int .i64 0,Value.int .i64 0] l k).flatten/\Below w.heap.size w wr)
      (fun i _=>l.length - (intOf i).toNat)
    case atStart =>
      refine ⟨0,Nat.zero_le _,rfl,?_,hb1⟩
      rw [part_zero]
      have e:=made_flat (Value.agg #[.int .i64 0,.int .i64 0]).cells 2 l.length rfl (by omega)
      rw [e] at hown
      exact hown
    case round =>
      obtain ⟨k,hk,rfl,ho,hb⟩:=hrel
      clear hown hgrow hb1
      by_cases hlt:k < l.length
      · obtain ⟨d1,d2⟩:=h4 k hlt
        have hc1:wr.cell? ⟨b,off+k * 2,none⟩=some (.int .i64 l[k].1):=(hb.cell (p:=⟨b,off+k * 2,none⟩) h3).trans d1
        have hc2:wr.cell? ⟨b,off+k * 2+1,none⟩=some (.int .i64 l[k].2):=(hb.cell (p:=⟨b,off+k * 2+1,none⟩) h3).trans d2
        have hli:(k:Int) < (l.length:Int):=by omega
        have Hput:=hide (flat_put2 (part lvC [Value.int .i64 0,Value.int .i64 0] l k) k (.int .i64 l[k].1) (.int .i64 l[k].2) (by rw [part_len _ _ _ _ hk];exact hlt) (lvP_sz l k))
        have Hnext:=hide (part_next lvC [Value.int .i64 0,Value.int .i64 0] l k hlt)
        have Hz0:=hide (flat_get 2 (part lvC [Value.int .i64 0,Value.int .i64 0] l k) k 0 (by rw [part_len _ _ _ _ hk];exact hlt) (lvP_sz l k) (by omega))
        have Hz1:=hide (flat_get 2 (part lvC [Value.int .i64 0,Value.int .i64 0] l k) k 1 (by rw [part_len _ _ _ _ hk];exact hlt) (lvP_sz l k) (by omega))
        rw [part_at _ _ _ _ hlt] at Hz0 Hz1
        have Hlv:Hid (lvC l[k]=[.int .i64 l[k].1,.int .i64 l[k].2]):=hide rfl
        have hlb:w.heap.size < wr.heap.size:=((World.ownsRow.lt ho w.heap.size rfl)).2
        clear d1 d2 h4
        generalize l[k].1=x at hc1 Hput Hlv
        generalize l[k].2=y at hc2 Hput Hlv
        go_wp2_with (go_at_call 93;refine (toLeave_any _ _ _).mono ?_;rintro e w2 ⟨rfl,hb2⟩;have ho2:=row_below ho hb2 (Nat.le_refl _);have q0:=ho2.cellAt (k * 2) (by omega);have q1:=ho2.cellAt (k * 2+1) (by omega);have f0:=ho2.frozenAt (k * 2);have f1:=ho2.frozenAt (k * 2+1);rw [<- Nat.add_zero (k * 2),Hz0.out] at q0;rw [Hz1.out] at q1;rw [Nat.add_zero] at q0;simp only [List.getElem?_cons_zero,List.getElem?_cons_succ] at q0 q1)
        go_roundw
        case rel =>
          refine ⟨k+1,by omega,by go_num,?_,((hb.trans (hb2.mono hb.size)).setCell (p:=⟨w.heap.size,k * 2,none⟩) (Nat.le_refl _) _).setCell (p:=⟨w.heap.size,k * 2+1,none⟩) (Nat.le_refl _) _⟩
          have s1:=(ho2.stored (k * 2) (.int .i64 x)).1
          have s2:=(s1.stored (k * 2+1) (.int .i64 y)).1
          rw [Hput.out,<- Hlv.out,Hnext.out] at s2
          exact s2
        case measure=>simp [intOf];omega
      · have e:k=l.length:=by omega
        subst e
        rw [part_all] at ho
        go_wp2
        go_ret
        exact ⟨_,rfl,ho,hb⟩
end Go.Proofs.Ytfdbedenlbikgaa
