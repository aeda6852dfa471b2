/- Orders that came in, opened. -/
import Derived.Test.YtohachldbpejpaaGreatDoorZmBkToD
import Derived.Deep.MidRow
import Derived.Laws.IdiomCopy
import Derived.ShutString
import Derived.SliceStrings
import Derived.ChangeOld
import Derived.WideShapes
set_option maxRecDepth 20000
set_option maxHeartbeats 1000000
namespace Go.Proofs.YtohachldbpejpaaGreatDoor
open Go.RowKit
set_option linter.unusedVariables false
theorem grownS_trans9 {a b c:World} {r:Option Nat} (h:a.grownBy b r) (k:b.grownBy c r):a.grownBy c r :=
  ⟨k.os.trans h.os,k.tape.trans h.tape,k.output.trans h.output,Nat.le_trans h.size k.size,fun i hi hn=>(k.block i (Nat.lt_of_lt_of_le hi h.size) hn).trans (h.block i hi hn)⟩
theorem RdK.shapes9 {w:World} {b:Bk} {v:Bv} (h:RdK w b v):∃ aq cq aw cw ah ch at_ ct an cn,v=⟨.slice aq b.qw.length cq,.slice aw b.tw.length cw,.slice ah b.th.length ch,.slice at_ b.ts.length ct,.slice an b.nx.length cn⟩:=by
  obtain ⟨q,p,hh,t,n⟩:=h
  obtain ⟨vq,vw,vh,vt,vn⟩:=v
  obtain ⟨aq,cq,rfl⟩:=q.shape
  obtain ⟨aw,cw,rfl⟩:=p.shape
  obtain ⟨ah,ch,rfl⟩:=hh.shape
  obtain ⟨at_,ct,rfl⟩:=t.shape
  obtain ⟨an,cn,rfl⟩:=n.shape
  exact ⟨aq,cq,aw,cw,ah,ch,at_,ct,an,cn,rfl⟩
def setAll {α:Type}:List α->Nat->List α->List α
  | xs,_,[]=>xs
  | xs,o,y :: ys=>setAll (xs.set o y) (o+1) ys
theorem putC_grown (g:Nat):∀ (ys:List Value) (w:World) (o:Nat),w.grownBy (w.setCells g o ys) (some g)
  | [],w,o=>World.grownBy.refl _ _
  | y :: ys,w,o=>grownS_trans9 (grown_set w g o y) (putC_grown g ys _ (o+1))
theorem putC_row {base:Nat} {T:TypeId} {sz g n cap:Nat}:∀ (ys:List Value) (w:World) (o:Nat) (xs:List Value),w.ownsRow base T sz (.slice (some ⟨g,0,none⟩) n cap) n xs->(w.setCells g o ys).ownsRow base T sz (.slice (some ⟨g,0,none⟩) n cap) n (setAll xs o ys)
  | [],w,o,xs,h=>h
  | y :: ys,w,o,xs,h=>putC_row ys _ (o+1) _ (h.stored o y).1
theorem putC_below {B g:Nat} (hB:B<=g):∀ (ys:List Value) (w:World) (o:Nat),Below B w (w.setCells g o ys)
  | [],w,o=>Below.refl B w
  | y :: ys,w,o=>((Below.refl B w).setCell (p:=⟨g,o,none⟩) hB y).trans (putC_below hB ys _ (o+1))
theorem setAll_part {α:Type} (sz:Nat):∀ (ys:List α) (L:List (List α)) (i j:Nat) (hi:i < L.length),(∀ x ∈ L,x.length=sz)->j+ys.length<=sz->setAll L.flatten (i * sz+j) ys=(L.set i (setAll L[i] j ys)).flatten
  | [],L,i,j,hi,h,hj=>by simp [setAll]
  | y :: ys,L,i,j,hi,h,hj=>by
    simp only [List.length_cons] at hj
    have hL:∀ x ∈ L.set i (L[i].set j y),x.length=sz:=fun x hx=>by
      rcases List.mem_or_eq_of_mem_set hx with h' | rfl
      · exact h x h'
      · simpa using h L[i] (List.getElem_mem hi)
    rw [setAll,flat_set sz y L i j hi h (by omega),Nat.add_assoc,setAll_part sz ys _ i (j+1) (by simpa using hi) hL (by omega)]
    simp [setAll,List.set_set]
theorem setAll_whole {α:Type}:∀ (ys xs ps:List α),xs.length=ys.length->setAll (ps ++ xs) ps.length ys=ps ++ ys
  | [],xs,ps,h=>by rw [List.length_eq_zero_iff.1 h];rfl
  | y :: ys,[],ps,h=>by simp at h
  | y :: ys,x :: xs,ps,h=>by
    have e:=setAll_whole ys xs (ps ++ [y]) (by simpa using h)
    rw [setAll,List.set_append_right _ _ (Nat.le_refl _),Nat.sub_self,List.set_cons_zero]
    simp only [List.length_append,List.length_cons,List.length_nil,Nat.zero_add,List.append_assoc,List.singleton_append] at e
    exact e
theorem setAll_flat {α:Type} (sz:Nat) (ys:List α) (L:List (List α)) (i:Nat) (hi:i < L.length) (h:∀ x ∈ L,x.length=sz) (hy:ys.length=sz):setAll L.flatten (i * sz) ys=(L.set i ys).flatten:=by
  have e:=setAll_part sz ys L i 0 hi h (by omega)
  rw [Nat.add_zero] at e
  rw [e]
  have e2:=setAll_whole ys L[i] [] (by rw [h _ (List.getElem_mem hi),hy])
  simp only [List.nil_append,List.length_nil] at e2
  rw [e2]
theorem store14 (w:World) (g o:Nat) (cs:List Value) (hl:cs.length=14) (ht:w.there g o 14) (h1:cs.all (·.oneCell')=true):(storeCells ⟨g,o,none⟩ cs).run Tryz.prog w=.ok () (w.setCells g o cs):=by
  have h:=run_storeAt_mid (P:=Tryz.prog) w g o 50 cs.toArray (by simpa [hl] using ht) (by rw [show cs.toArray.size=14 by simpa using hl];kernel_rfl) (by simpa using h1)
  simpa [go_sem,hl] using h
theorem row_there {base:Nat} {w:World} {T:TypeId} {sz g n cap o:Nat} {xs:List Value} (h:w.ownsRow base T sz (.slice (some ⟨g,0,none⟩) n cap) n xs) (ho:o+14<=xs.length):w.there g o 14:=fun j hj=>by
  have hx:=h.1
  refine ⟨?_,h.frozenAt (o+j)⟩
  rw [h.cellAt (o+j) (by omega),List.getElem?_eq_getElem (by omega)]
  rfl
theorem bkC_one {w:World} {b:Bk} {v:Bv} (h:RdK w b v):(bkC b v).all (·.oneCell')=true:=by
  obtain ⟨aq,cq,aw,cw,ah,ch,at_,ct,an,cn,rfl⟩:=h.shapes9
  simp [bkC,Value.oneCell']
def BkAt (w:World) (g o:Nat) (b:Bk) (v:Bv):Prop:=∀ j,j < 14->w.cell? ⟨g,o+j,none⟩=(bkC b v)[j]?
theorem BkAt.below {w w':World} {B g o:Nat} {b:Bk} {v:Bv} (h:BkAt w g o b v) (hb:Below B w w') (hB:g < B):BkAt w' g o b v :=
  fun j hj=>(hb.cell (p:=⟨g,o+j,none⟩) hB).trans (h j hj)
theorem BkAt.cells {w:World} {g o:Nat} {b:Bk} {v:Bv} (h:BkAt w g o b v):w.cell? ⟨g,o,none⟩=some (.int .i64 b.id)/\w.cell? ⟨g,o+1,none⟩=some (.int .i64 b.ep)/\w.cell? ⟨g,o+2,none⟩=some (.int .i64 b.rd)/\w.cell? ⟨g,o+3,none⟩=some (.string b.md)/\w.cell? ⟨g,o+4,none⟩=some (.int .i64 b.qr)/\w.cell? ⟨g,o+5,none⟩=some (.int .i64 b.qb)/\w.cell? ⟨g,o+6,none⟩=some (v.q)/\w.cell? ⟨g,o+7,none⟩=some (.int .i64 b.tr)/\w.cell? ⟨g,o+8,none⟩=some (v.w)/\w.cell? ⟨g,o+9,none⟩=some (v.h)/\w.cell? ⟨g,o+10,none⟩=some (v.t)/\w.cell? ⟨g,o+11,none⟩=some (.bool b.en)/\w.cell? ⟨g,o+12,none⟩=some (v.n)/\w.cell? ⟨g,o+13,none⟩=some (.string b.rt) :=
  ⟨h 0 (by omega),h 1 (by omega),h 2 (by omega),h 3 (by omega),h 4 (by omega),h 5 (by omega),h 6 (by omega),h 7 (by omega),h 8 (by omega),h 9 (by omega),h 10 (by omega),h 11 (by omega),h 12 (by omega),h 13 (by omega)⟩
def RdKs (w:World) (v:Value) (l:List Bk):Prop :=
  (∃ a cap,v=.slice a 0 cap/\l=[]/\(a=none->cap=0)) \/
  ∃ b off cap,l ≠ []/\v=.slice (some ⟨b,off,none⟩) l.length cap/\l.length<=cap/\cap<=maxLen/\b < w.heap.size /\
    ∀ i (h:i < l.length),∃ bv,BkAt w b (off+i * 14) l[i] bv/\RdK w l[i] bv
theorem RdKs.shape {w:World} {v:Value} {l:List Bk} (h:RdKs w v l):∃ a cap,v=.slice a l.length cap:=by
  rcases h with ⟨a,cap,rfl,rfl,-⟩ | ⟨b,off,cap,h0,rfl,_⟩
  · exact ⟨a,cap,rfl⟩
  · exact ⟨_,cap,rfl⟩
theorem RdKs.below {B:Nat} {w w':World} {v:Value} {l:List Bk} (h:RdKs w v l) (hb:Below B w w') (hB:w.heap.size<=B):RdKs w' v l:=by
  rcases h with h | ⟨b,off,cap,h0,hv,h1,h2,h3,h4⟩
  · exact .inl h
  · refine .inr ⟨b,off,cap,h0,hv,h1,h2,by have:=hb.size;omega,fun i hi=>?_⟩
    obtain ⟨lv,k1,k2⟩:=h4 i hi
    exact ⟨lv,k1.below hb (by omega),k2.below hb hB⟩
def Bv.has (v:Bv) (g:Nat):Prop:=v.q.ownBlock=some g\/v.w.ownBlock=some g\/v.h.ownBlock=some g\/v.t.ownBlock=some g\/v.n.ownBlock=some g
def bkP (q:Bk × Bv):List Value:=bkC q.1 q.2
def bkZ:List Value:=[.int .i64 0,.int .i64 0,.int .i64 0,.string { data:=#[] },.int .i64 0,.int .i64 0,.slice none 0 0,.int .i64 0,.slice none 0 0,.slice none 0 0,.slice none 0 0,.bool false,.slice none 0 0,.string { data:=#[] }]
theorem bkP_sz (l:List (Bk × Bv)):∀ x ∈ l.map bkP,x.length=14:=fun x hx=>by obtain ⟨p,_,rfl⟩:=List.mem_map.1 hx;rfl
theorem OwnK.below9 {B base:Nat} {w w':World} {b:Bk} {v:Bv} (h:OwnK base w b v) (hb:Below B w w') (hB:w.heap.size<=B):OwnK base w' b v :=
  ⟨row_below h.q hb hB,row_below h.p hb hB,row_below h.h hb hB,row_below h.t hb hB,row_below h.n hb hB⟩
theorem OwnK.mono9 {base base':Nat} {w:World} {b:Bk} {v:Bv} (h:OwnK base w b v) (hB:base'<=base):OwnK base' w b v :=
  ⟨h.q.mono hB,h.p.mono hB,h.h.mono hB,h.t.mono hB,h.n.mono hB⟩
theorem OwnK.in9 {base:Nat} {w:World} {b:Bk} {v:Bv} (h:OwnK base w b v) (g:Nat) (hg:v.has g):base<=g/\g < w.heap.size:=by
  rcases hg with e | e | e | e | e
  · exact World.ownsRow.lt h.q g e
  · exact World.ownsRow.lt h.p g e
  · exact World.ownsRow.lt h.h g e
  · exact World.ownsRow.lt h.t g e
  · exact World.ownsRow.lt h.n g e
theorem OwnK.grown9 {base:Nat} {w w':World} {b:Bk} {v:Bv} {g:Nat} (h:OwnK base w b v) (hg:w.grownBy w' (some g)) (hn:¬ v.has g):OwnK base w' b v:=by
  have k:∀ x:Value,(x.ownBlock=some g->v.has g)->(x.ownBlock=none\/x.ownBlock ≠ some g):=fun x hx=>.inr (fun e=>hn (hx e))
  exact ⟨World.ownsRow.kept h.q hg (k _ (fun e=>.inl e)),World.ownsRow.kept h.p hg (k _ (fun e=>.inr (.inl e))),World.ownsRow.kept h.h hg (k _ (fun e=>.inr (.inr (.inl e)))),World.ownsRow.kept h.t hg (k _ (fun e=>.inr (.inr (.inr (.inl e))))),World.ownsRow.kept h.n hg (k _ (fun e=>.inr (.inr (.inr (.inr e)))))⟩
structure Kvs (base:Nat) (w:World) (g:Nat) (Z:List (Bk × Bv)):Prop where
  own:∀ i (h:i < Z.length),OwnK base w Z[i].1 Z[i].2
  far:∀ i (h:i < Z.length),¬ Z[i].2.has g
  inner:∀ i (h:i < Z.length) k,Z[i].2.q.ownBlock=some k->Z[i].2.w.ownBlock ≠ some k
  apart:∀ i j (hi:i < Z.length) (hj:j < Z.length),i ≠ j->∀ k,Z[i].2.has k->¬ Z[j].2.has k
theorem Kvs.nil (base:Nat) (w:World) (g:Nat):Kvs base w g []:=⟨fun i h=>by simp at h,fun i h=>by simp at h,fun i h=>by simp at h,fun i j h=>by simp at h⟩
theorem Kvs.below {B base:Nat} {w w':World} {g:Nat} {Z:List (Bk × Bv)} (h:Kvs base w g Z) (hb:Below B w w') (hB:w.heap.size<=B):Kvs base w' g Z :=
  ⟨fun i hi=>(h.own i hi).below9 hb hB,h.far,h.inner,h.apart⟩
theorem Kvs.grown {base:Nat} {w w':World} {g:Nat} {Z:List (Bk × Bv)} (h:Kvs base w g Z) (hg:w.grownBy w' (some g)):Kvs base w' g Z :=
  ⟨fun i hi=>(h.own i hi).grown9 hg (h.far i hi),h.far,h.inner,h.apart⟩
theorem Kvs.snoc {base:Nat} {w:World} {g:Nat} {Z:List (Bk × Bv)} (h:Kvs base w g Z) (q:Bk × Bv) (ho:OwnK base w q.1 q.2) (hf:¬ q.2.has g) (hin:∀ k,q.2.q.ownBlock=some k->q.2.w.ownBlock ≠ some k)
    (hn:∀ i (hi:i < Z.length) k,Z[i].2.has k->¬ q.2.has k):Kvs base w g (Z ++ [q]):=by
  have at1:∀ i (hi:i < (Z ++ [q]).length),(∃ h':i < Z.length,(Z ++ [q])[i]=Z[i])\/(i=Z.length/\(Z ++ [q])[i]=q):=fun i hi=>by
    by_cases h':i < Z.length
    · exact .inl ⟨h',List.getElem_append_left h'⟩
    · have e:i=Z.length:=by simp at hi;omega
      subst e
      exact .inr ⟨rfl,by simp⟩
  refine ⟨fun i hi=>?_,fun i hi=>?_,fun i hi k hk=>?_,fun i j hi hj hij k hk=>?_⟩
  · rcases at1 i hi with ⟨h',e⟩ | ⟨_,e⟩
    · rw [e];exact h.own i h'
    · rw [e];exact ho
  · rcases at1 i hi with ⟨h',e⟩ | ⟨_,e⟩
    · rw [e];exact h.far i h'
    · rw [e];exact hf
  · rcases at1 i hi with ⟨h',e⟩ | ⟨_,e⟩
    · rw [e] at hk ⊢;exact h.inner i h' k hk
    · rw [e] at hk ⊢;exact hin k hk
  · rcases at1 i hi with ⟨h',e⟩ | ⟨ei,e⟩ <;> rcases at1 j hj with ⟨h2,e2⟩ | ⟨ej,e2⟩
    · rw [e] at hk;rw [e2];exact h.apart i j h' h2 hij k hk
    · rw [e] at hk;rw [e2];exact hn i h' k hk
    · rw [e] at hk;rw [e2];exact fun e3=>hn j h2 k e3 hk
    · omega
def OwnKs (base:Nat) (w:World) (v:Value) (l:List Bk):Prop :=
  ∃ (g cap:Nat) (Z:List (Bk × Bv)),Z.map (·.1)=l/\v=.slice (some ⟨g,0,none⟩) l.length cap/\w.ownsRow base 50 14 v l.length (Z.map bkP).flatten/\Kvs base w g Z
theorem rowP_at {base:Nat} {w:World} {g cap n:Nat} {Z:List (Bk × Bv)} (ho:w.ownsRow base 50 14 (.slice (some ⟨g,0,none⟩) n cap) n (Z.map bkP).flatten) (hn:Z.length=n) (i:Nat) (hi:i < Z.length):BkAt w g (0+i * 14) Z[i].1 Z[i].2:=fun j hj=>by
  rw [Nat.zero_add,ho.cellAt (i * 14+j) (by omega),flat_get 14 (Z.map bkP) i j (by simpa using hi) (bkP_sz Z) hj]
  simp [bkP]
theorem OwnKs.rd {base:Nat} {w:World} {v:Value} {l:List Bk} (h:OwnKs base w v l):RdKs w v l:=by
  obtain ⟨g,cap,Z,hZ,rfl,ho,hl⟩:=h
  have hlen:Z.length=l.length:=by rw [<- hZ];simp
  by_cases hn:l=[]
  · subst hn;exact .inl ⟨_,_,rfl,rfl,fun h=>by cases h⟩
  · rcases ho.2 with ⟨hv,_⟩ | ⟨g',cap',cur,hv,hb,hg,hnc,hcm,hcs,ht⟩
    · cases hv
    · simp only [Value.slice.injEq,Option.some.injEq,Addr.mk.injEq,and_true,true_and] at hv
      obtain ⟨rfl,rfl⟩:=hv
      refine .inr ⟨g,0,cap,hn,rfl,hnc,hcm,(Array.getElem?_eq_some_iff.1 hg).1,fun i hi=>?_⟩
      have hi':i < Z.length:=by omega
      have e:l[i]=Z[i].1:=by subst hZ;simp
      exact ⟨Z[i].2,by rw [e];exact rowP_at ho hlen i hi',by rw [e];exact (hl.own i hi').rd⟩
theorem OwnKs.below {B base:Nat} {w w':World} {v:Value} {l:List Bk} (h:OwnKs base w v l) (hb:Below B w w') (hB:w.heap.size<=B):OwnKs base w' v l:=by
  obtain ⟨g,cap,Z,hZ,hv,ho,hl⟩:=h
  exact ⟨g,cap,Z,hZ,hv,row_below ho hb hB,hl.below hb hB⟩
theorem Tryz.infoBk:(Tryz.prog.info? 50).map (fun i=>(i.zero,i.size,i.bytes))=some (some (.agg #[.int .i64 0,.int .i64 0,.int .i64 0,.string { data:=#[] },.int .i64 0,.int .i64 0,.slice none 0 0,.int .i64 0,.slice none 0 0,.slice none 0 0,.slice none 0 0,.bool false,.slice none 0 0,.string { data:=#[] }]),14,208):=by kernel_rfl
end Go.Proofs.YtohachldbpejpaaGreatDoor
namespace Go.Proofs.YtohachldbpejpaaGreatDoor
open Go.RowKit Go.ChangeShapes Go.WideShapes
set_option linter.unusedVariables false
section
variable {H:Type} {enc:TypeId × Value->H} {w:World} {base:Nat} {spare:Nat->Bool} {held:Bool}
theorem add_plainC (b off i:Nat):(⟨b,off,none⟩:Addr).add i=⟨b,off+i,none⟩:=by
  by_cases hz:i=0
  · subst hz;simp [Addr.add]
  · simp [Addr.add,hz]
theorem open_strs {fuel:Nat} {cs:List Value} {x:DataW H × List MemPlace} (h:DataW.trod enc Tryz.prog w base spare held fuel 42 cs=some x) :
    ∃ v ls,cs=[v]/\RdS w v ls/\ls.length<=maxLen/\∀ s ∈ ls,s.size<=maxLen:=by
  rcases Deep.open_slice Tryz.underlying42 h with ⟨hcs,_⟩ | ⟨ad,len,cap,m,n,D,Pl,hcs,hb,hl,hm,hmm,hx,hel⟩
  · exact ⟨_,[],hcs,.inl ⟨_,_,rfl,rfl,fun _=>rfl⟩,by simp,by simp⟩
  · have hlm:len<=m:=by rw [hmm];split <;> omega
    by_cases h0:len=0
    · subst h0;exact ⟨_,[],hcs,.inl ⟨_,_,rfl,rfl,fun h=>by cases h⟩,by simp,by simp⟩
    · obtain ⟨b,off,spot⟩:=ad
      rw [show Tryz.prog.cellsOf 9=1 from by kernel_rfl] at hel
      have each:∀ i,i < m->∃ q:ByteArray,w.cells? base ((⟨b,off,spot⟩:Addr).add (i * 1)) 1=some [.string q]/\q.size<=maxLen:=fun i hi=>by
        obtain ⟨cs',h1,h2⟩:=hel i hi
        obtain ⟨s,e,_,hs⟩:=DataW.trod_string Tryz.underlying9 h2
        subst e
        exact ⟨s,h1,hs⟩
      obtain ⟨q,hq⟩:=Deep.choose_lt each
      have c0:∀ i,i < m->∀ j,j < 1->w.cell? (((⟨b,off,spot⟩:Addr).add (i * 1)).add j)=[Value.string (q i)][j]?:=fun i hi=>(World.cells?_some (hq i hi).1).2.2
      have hc0:=c0 0 (by omega) 0 (by omega)
      have hspot:spot=none:=by simpa [Addr.add] using World.cell?_spot hc0
      subst hspot
      have hlen:((List.range len).map q).length=len:=by simp
      refine ⟨_,(List.range len).map q,hcs,.inr ⟨b,off,cap,?_,by rw [hlen],by omega,hm,?_,?_⟩,by omega,?_⟩
      · intro e;rw [e] at hlen;simp at hlen;omega
      · have:=World.block_lt_of_cell? w _ hc0;simpa [Addr.add] using this
      · intro i hi
        rw [hlen] at hi
        have cc:=c0 i (by omega) 0 (by omega)
        rw [add_plainC,add_plainC,Nat.mul_one,Nat.add_zero] at cc
        simp only [List.getElem_map,List.getElem_range]
        simpa using cc
      · intro z hz
        obtain ⟨i,hi,rfl⟩:=List.mem_map.1 hz
        exact (hq i (by have:=List.mem_range.1 hi;omega)).2
theorem open_intsC {fuel:Nat} {cs:List Value} {x:DataW H × List MemPlace} (h:DataW.trod enc Tryz.prog w base spare held fuel 45 cs=some x) :
    ∃ v ls,cs=[v]/\RdI w v ls/\ls.length<=maxLen:=by
  rcases Deep.open_slice Tryz.underlying45 h with ⟨hcs,_⟩ | ⟨ad,len,cap,m,n,D,Pl,hcs,hb,hl,hm,hmm,hx,hel⟩
  · exact ⟨_,[],hcs,.inl ⟨_,_,rfl,rfl,fun _=>rfl⟩,by simp⟩
  · have hlm:len<=m:=by rw [hmm];split <;> omega
    by_cases h0:len=0
    · subst h0;exact ⟨_,[],hcs,.inl ⟨_,_,rfl,rfl,fun h=>by cases h⟩,by simp⟩
    · obtain ⟨b,off,spot⟩:=ad
      rw [show Tryz.prog.cellsOf 3=1 from by kernel_rfl] at hel
      have each:∀ i,i < m->∃ q:Int,w.cells? base ((⟨b,off,spot⟩:Addr).add (i * 1)) 1=some [.int .i64 q]:=fun i hi=>by
        obtain ⟨cs',h1,h2⟩:=hel i hi
        obtain ⟨s,e,_⟩:=DataW.trod_int Tryz.underlying3 h2
        subst e
        exact ⟨s,h1⟩
      obtain ⟨q,hq⟩:=Deep.choose_lt each
      have c0:∀ i,i < m->∀ j,j < 1->w.cell? (((⟨b,off,spot⟩:Addr).add (i * 1)).add j)=[Value.int .i64 (q i)][j]?:=fun i hi=>(World.cells?_some (hq i hi)).2.2
      have hc0:=c0 0 (by omega) 0 (by omega)
      have hspot:spot=none:=by simpa [Addr.add] using World.cell?_spot hc0
      subst hspot
      have hlen:((List.range len).map q).length=len:=by simp
      refine ⟨_,(List.range len).map q,hcs,.inr ⟨b,off,cap,?_,by rw [hlen],by omega,hm,?_,?_⟩,by omega⟩
      · intro e;rw [e] at hlen;simp at hlen;omega
      · have:=World.block_lt_of_cell? w _ hc0;simpa [Addr.add] using this
      · intro i hi
        rw [hlen] at hi
        have cc:=c0 i (by omega) 0 (by omega)
        rw [add_plainC,add_plainC,Nat.mul_one,Nat.add_zero] at cc
        simp only [List.getElem_map,List.getElem_range]
        simpa using cc
end
end Go.Proofs.YtohachldbpejpaaGreatDoor
namespace Go.Proofs.YtohachldbpejpaaGreatDoor
open Go.RowKit Go.ChangeShapes Go.WideShapes Go.ChangeAt
set_option linter.unusedVariables false
variable {H:Type} {enc:TypeId × Value->H} {w:World} {base:Nat} {spare:Nat->Bool} {held:Bool}
theorem open_tx {fuel:Nat} {cs:List Value} {x:DataW H × List MemPlace} (h:DataW.trod enc Tryz.prog w base spare held fuel 151 cs=some x) :
    ∃ t:Tx5,cs=[.int .i64 t.1,.string t.2.1,.string t.2.2.1,.int .i64 t.2.2.2.1,.int .i64 t.2.2.2.2]/\t.2.1.size<=maxLen/\t.2.2.1.size<=maxLen/\(Lit.int .i64 t.1).wf=true/\(Lit.int .i64 t.2.2.2.1).wf=true/\(Lit.int .i64 t.2.2.2.2).wf=true:=by
  obtain ⟨xs,n,_,_,hlen,hxl,hf⟩:=DataW.trod_struct Tryz.underlying151 h
  have h5:cs.length=5:=hlen.trans (by kernel_rfl)
  have hx5:xs.length=5:=hxl
  match cs,h5,xs,hx5 with
  | [c0,c1,c2,c3,c4],_,[y0,y1,y2,y3,y4],_ =>
    have ks:Tryz.prog.cellsOf 9=1:=by kernel_rfl
    have ki:Tryz.prog.cellsOf 3=1:=by kernel_rfl
    have g0:DataW.trod enc Tryz.prog w base spare held n 3 [c0]=some y0:=by
      have e:=hf 0 _ rfl
      change DataW.trod enc Tryz.prog w base spare held n 3 (List.take (Tryz.prog.cellsOf 3) [c0,c1,c2,c3,c4])=some y0 at e
      rw [ki] at e
      exact e
    have g1:DataW.trod enc Tryz.prog w base spare held n 9 [c1]=some y1:=by
      have e:=hf 1 _ rfl
      change DataW.trod enc Tryz.prog w base spare held n 9 (List.take (Tryz.prog.cellsOf 9) [c1,c2,c3,c4])=some y1 at e
      rw [ks] at e
      exact e
    have g2:DataW.trod enc Tryz.prog w base spare held n 9 [c2]=some y2:=by
      have e:=hf 2 _ rfl
      change DataW.trod enc Tryz.prog w base spare held n 9 (List.take (Tryz.prog.cellsOf 9) [c2,c3,c4])=some y2 at e
      rw [ks] at e
      exact e
    have g3:DataW.trod enc Tryz.prog w base spare held n 3 [c3]=some y3:=by
      have e:=hf 3 _ rfl
      change DataW.trod enc Tryz.prog w base spare held n 3 (List.take (Tryz.prog.cellsOf 3) [c3,c4])=some y3 at e
      rw [ki] at e
      exact e
    have g4:DataW.trod enc Tryz.prog w base spare held n 3 [c4]=some y4:=by
      have e:=hf 4 _ rfl
      change DataW.trod enc Tryz.prog w base spare held n 3 (List.take (Tryz.prog.cellsOf 3) [c4])=some y4 at e
      rw [ki] at e
      exact e
    obtain ⟨z0,e0,_,h0⟩:=DataW.trod_int Tryz.underlying3 g0
    obtain ⟨s1,e1,_,h1⟩:=DataW.trod_string Tryz.underlying9 g1
    obtain ⟨s2,e2,_,h2⟩:=DataW.trod_string Tryz.underlying9 g2
    obtain ⟨z3,e3,_,h3⟩:=DataW.trod_int Tryz.underlying3 g3
    obtain ⟨z4,e4,_,h4⟩:=DataW.trod_int Tryz.underlying3 g4
    simp only [List.cons.injEq,and_true] at e0 e1 e2 e3 e4
    subst e0 e1 e2 e3 e4
    exact ⟨(z0,s1,s2,z3,z4),rfl,h1,h2,h0,h3,h4⟩
end Go.Proofs.YtohachldbpejpaaGreatDoor
namespace Go.Proofs.YtohachldbpejpaaGreatDoor
open Go.RowKit Go.ChangeShapes Go.WideShapes
set_option linter.unusedVariables false
section
variable {H:Type} {enc:TypeId × Value->H} {w:World} {base:Nat} {spare:Nat->Bool} {held:Bool}
theorem add_plainV (b off i:Nat):(⟨b,off,none⟩:Addr).add i=⟨b,off+i,none⟩:=by
  by_cases hz:i=0
  · subst hz;simp [Addr.add]
  · simp [Addr.add,hz]
theorem open_vl {fuel:Nat} {cs:List Value} {x:DataW H × List MemPlace} (h:DataW.trod enc Tryz.prog w base spare held fuel 213 cs=some x) :
    ∃ t:Vl,cs=[.string t.1,.int .i64 t.2]/\t.1.size<=maxLen:=by
  obtain ⟨xs,n,_,_,hlen,hxl,hf⟩:=DataW.trod_struct Tryz.underlying213 h
  have h5:cs.length=2:=hlen.trans (by kernel_rfl)
  have hx5:xs.length=2:=hxl
  match cs,h5,xs,hx5 with
  | [c0,c1],_,[y0,y1],_ =>
    have ks:Tryz.prog.cellsOf 9=1:=by kernel_rfl
    have ki:Tryz.prog.cellsOf 3=1:=by kernel_rfl
    have g0:DataW.trod enc Tryz.prog w base spare held n 9 [c0]=some y0:=by
      have e:=hf 0 _ rfl
      change DataW.trod enc Tryz.prog w base spare held n 9 (List.take (Tryz.prog.cellsOf 9) [c0,c1])=some y0 at e
      rw [ks] at e
      exact e
    have g1:DataW.trod enc Tryz.prog w base spare held n 3 [c1]=some y1:=by
      have e:=hf 1 _ rfl
      change DataW.trod enc Tryz.prog w base spare held n 3 (List.take (Tryz.prog.cellsOf 3) [c1])=some y1 at e
      rw [ki] at e
      exact e
    obtain ⟨s0,e0,_,h0⟩:=DataW.trod_string Tryz.underlying9 g0
    obtain ⟨z1,e1,_⟩:=DataW.trod_int Tryz.underlying3 g1
    simp only [List.cons.injEq,and_true] at e0 e1
    subst e0 e1
    exact ⟨(s0,z1),rfl,h0⟩
theorem open_vlS {fuel:Nat} {a:Option Addr} {len cap:Nat} {x:DataW H × List MemPlace} (h:DataW.trod enc Tryz.prog w base spare held fuel 69 [.slice a len cap]=some x) :
    ∃ l:List Vl,len=l.length/\RdV w (.slice a len cap) l/\l.length<=maxLen/\∀ q ∈ l,q.1.size<=maxLen:=by
  rcases Deep.open_slice Tryz.underlying69 h with ⟨hcs,_⟩ | ⟨ad,len',cap',m,n,D,Pl,hcs,hb,hl,hm,hmm,hx,hel⟩
  · simp at hcs
    obtain ⟨rfl,rfl,rfl⟩:=hcs
    exact ⟨[],rfl,.inl ⟨_,_,rfl,rfl,fun _=>rfl⟩,by simp,by simp⟩
  · simp at hcs
    obtain ⟨rfl,rfl,rfl⟩:=hcs
    have hlm:len<=m:=by rw [hmm];split <;> omega
    by_cases h0:len=0
    · subst h0;exact ⟨[],rfl,.inl ⟨_,_,rfl,rfl,fun h=>by cases h⟩,by simp,by simp⟩
    · obtain ⟨b,off,spot⟩:=ad
      rw [show Tryz.prog.cellsOf 213=2 from by kernel_rfl] at hel
      have each:∀ i,i < m->∃ q:Vl,w.cells? base ((⟨b,off,spot⟩:Addr).add (i * 2)) 2=some (vlC q)/\q.1.size<=maxLen:=fun i hi=>by
        obtain ⟨cs',h1,h2⟩:=hel i hi
        obtain ⟨q,rfl,k1⟩:=open_vl h2
        exact ⟨q,h1,k1⟩
      obtain ⟨q,hq⟩:=Deep.choose_lt each
      have c0:∀ i,i < m->∀ j,j < 2->w.cell? (((⟨b,off,spot⟩:Addr).add (i * 2)).add j)=(vlC (q i))[j]?:=fun i hi=>(World.cells?_some (hq i hi).1).2.2
      have hc0:=c0 0 (by omega) 0 (by omega)
      have hspot:spot=none:=by simpa [Addr.add] using World.cell?_spot hc0
      subst hspot
      have hlen:((List.range len).map q).length=len:=by simp
      refine ⟨(List.range len).map q,hlen.symm,.inr ⟨b,off,cap,?_,by rw [hlen],by omega,hm,?_,?_⟩,by omega,?_⟩
      · intro e;rw [e] at hlen;simp at hlen;omega
      · have:=World.block_lt_of_cell? w _ hc0;simpa [Addr.add] using this
      · intro i hi
        rw [hlen] at hi
        have cc:∀ j,j < 2->w.cell? ⟨b,off+i * 2+j,none⟩=(vlC (q i))[j]?:=fun j hj=>by
          have:=c0 i (by omega) j hj
          rwa [add_plainV,add_plainV] at this
        simp only [List.getElem_map,List.getElem_range]
        exact ⟨by have:=cc 0 (by omega);simpa [vlC] using this,by have:=cc 1 (by omega);simpa [vlC] using this⟩
      · intro z hz
        obtain ⟨i,hi,rfl⟩:=List.mem_map.1 hz
        exact (hq i (by have:=List.mem_range.1 hi;omega)).2
end
end Go.Proofs.YtohachldbpejpaaGreatDoor
namespace Go.Proofs.YtohachldbpejpaaGreatDoor
open Go.RowKit Go.ChangeShapes Go.WideShapes
set_option linter.unusedVariables false
structure FitK (b:Bk):Prop where
  q:b.qw.length<=maxLen
  w:b.tw.length<=maxLen
  h:b.th.length<=maxLen
  t:b.ts.length<=maxLen
  n:b.nx.length<=maxLen
  qs:∀ s ∈ b.qw,s.size<=maxLen
  ws:∀ s ∈ b.tw,s.size<=maxLen
  ts:∀ t ∈ b.ts,t.2.1.size<=maxLen/\t.2.2.1.size<=maxLen
  ns:∀ p ∈ b.nx,p.1.size<=maxLen
  ms:b.md.size<=maxLen
  rs:b.rt.size<=maxLen
  wf:(Lit.int .i64 b.id).wf=true/\(Lit.int .i64 b.ep).wf=true/\(Lit.int .i64 b.rd).wf=true/\(Lit.int .i64 b.qr).wf=true/\(Lit.int .i64 b.qb).wf=true/\(Lit.int .i64 b.tr).wf=true
section
variable {H:Type} {enc:TypeId × Value->H} {w:World} {base:Nat} {spare:Nat->Bool} {held:Bool}
theorem open_txS9 {fuel:Nat} {a:Option Addr} {len cap:Nat} {x:DataW H × List MemPlace} (h:DataW.trod enc Tryz.prog w base spare held fuel 68 [.slice a len cap]=some x) :
    ∃ l:List Tx5,len=l.length/\RdT w (.slice a len cap) l/\l.length<=maxLen/\∀ q ∈ l,q.2.1.size<=maxLen/\q.2.2.1.size<=maxLen:=by
  rcases Deep.open_slice Tryz.underlying68 h with ⟨hcs,_⟩ | ⟨ad,len',cap',m,n,D,Pl,hcs,hb,hl,hm,hmm,hx,hel⟩
  · simp at hcs
    obtain ⟨rfl,rfl,rfl⟩:=hcs
    exact ⟨[],rfl,.inl ⟨_,_,rfl,rfl,fun _=>rfl⟩,by simp,by simp⟩
  · simp at hcs
    obtain ⟨rfl,rfl,rfl⟩:=hcs
    have hlm:len<=m:=by rw [hmm];split <;> omega
    by_cases h0:len=0
    · subst h0;exact ⟨[],rfl,.inl ⟨_,_,rfl,rfl,fun h=>by cases h⟩,by simp,by simp⟩
    · obtain ⟨b,off,spot⟩:=ad
      rw [show Tryz.prog.cellsOf 151=5 from by kernel_rfl] at hel
      have each:∀ i,i < m->∃ q:Tx5,w.cells? base ((⟨b,off,spot⟩:Addr).add (i * 5)) 5=some (txC q)/\q.2.1.size<=maxLen/\q.2.2.1.size<=maxLen:=fun i hi=>by
        obtain ⟨cs',h1,h2⟩:=hel i hi
        obtain ⟨q,rfl,k1,k2,-⟩:=open_tx h2
        exact ⟨q,h1,k1,k2⟩
      obtain ⟨q,hq⟩:=Deep.choose_lt each
      have c0:∀ i,i < m->∀ j,j < 5->w.cell? (((⟨b,off,spot⟩:Addr).add (i * 5)).add j)=(txC (q i))[j]?:=fun i hi=>(World.cells?_some (hq i hi).1).2.2
      have hc0:=c0 0 (by omega) 0 (by omega)
      have hspot:spot=none:=by simpa [Addr.add] using World.cell?_spot hc0
      subst hspot
      have hlen:((List.range len).map q).length=len:=by simp
      refine ⟨(List.range len).map q,hlen.symm,.inr ⟨b,off,cap,?_,by rw [hlen],by omega,hm,?_,?_⟩,by omega,?_⟩
      · intro e;rw [e] at hlen;simp at hlen;omega
      · have:=World.block_lt_of_cell? w _ hc0;simpa [Addr.add] using this
      · intro i hi
        rw [hlen] at hi
        have cc:∀ j,j < 5->w.cell? ⟨b,off+i * 5+j,none⟩=(txC (q i))[j]?:=fun j hj=>by
          have:=c0 i (by omega) j hj
          rwa [add_plainC,add_plainC] at this
        simp only [List.getElem_map,List.getElem_range]
        exact ⟨by have:=cc 0 (by omega);simpa [txC] using this,by have:=cc 1 (by omega);simpa [txC] using this,by have:=cc 2 (by omega);simpa [txC] using this,by have:=cc 3 (by omega);simpa [txC] using this,by have:=cc 4 (by omega);simpa [txC] using this⟩
      · intro z hz
        obtain ⟨i,hi,rfl⟩:=List.mem_map.1 hz
        exact (hq i (by have:=List.mem_range.1 hi;omega)).2
theorem open_qc9 {fuel:Nat} {cs:List Value} {x:DataW H × List MemPlace} (h:DataW.trod enc Tryz.prog w base spare held fuel 66 cs=some x) :
    ∃ (r b:Int) (vw:Value) (ws:List ByteArray),cs=[.int .i64 r,.int .i64 b,vw]/\RdS w vw ws/\ws.length<=maxLen/\(∀ s ∈ ws,s.size<=maxLen)/\(Lit.int .i64 r).wf=true/\(Lit.int .i64 b).wf=true:=by
  obtain ⟨xs,n,_,_,hlen,hxl,hf⟩:=DataW.trod_struct Tryz.underlying66 h
  have h5:cs.length=3:=hlen.trans (by kernel_rfl)
  have hx5:xs.length=3:=hxl
  match cs,h5,xs,hx5 with
  | [c0,c1,c2],_,[y0,y1,y2],_ =>
    have ki:Tryz.prog.cellsOf 3=1:=by kernel_rfl
    have ks:Tryz.prog.cellsOf 42=1:=by kernel_rfl
    have g0:DataW.trod enc Tryz.prog w base spare held n 3 [c0]=some y0:=by
      have e:=hf 0 _ rfl
      change DataW.trod enc Tryz.prog w base spare held n 3 (List.take (Tryz.prog.cellsOf 3) [c0,c1,c2])=some y0 at e
      rw [ki] at e
      exact e
    have g1:DataW.trod enc Tryz.prog w base spare held n 3 [c1]=some y1:=by
      have e:=hf 1 _ rfl
      change DataW.trod enc Tryz.prog w base spare held n 3 (List.take (Tryz.prog.cellsOf 3) [c1,c2])=some y1 at e
      rw [ki] at e
      exact e
    have g2:DataW.trod enc Tryz.prog w base spare held n 42 [c2]=some y2:=by
      have e:=hf 2 _ rfl
      change DataW.trod enc Tryz.prog w base spare held n 42 (List.take (Tryz.prog.cellsOf 42) [c2])=some y2 at e
      rw [ks] at e
      exact e
    obtain ⟨z0,e0,_,f0⟩:=DataW.trod_int Tryz.underlying3 g0
    obtain ⟨z1,e1,_,f1⟩:=DataW.trod_int Tryz.underlying3 g1
    obtain ⟨v2,ws,e2,hw,hwl,hwz⟩:=open_strs g2
    simp only [List.cons.injEq,and_true] at e0 e1 e2
    subst e0 e1 e2
    exact ⟨z0,z1,c2,ws,rfl,hw,hwl,hwz,f0,f1⟩
theorem open_tc9 {fuel:Nat} {cs:List Value} {x:DataW H × List MemPlace} (h:DataW.trod enc Tryz.prog w base spare held fuel 67 cs=some x) :
    ∃ (r:Int) (vw vh:Value) (ws:List ByteArray) (hs:List Int),cs=[.int .i64 r,vw,vh]/\RdS w vw ws/\RdI w vh hs/\ws.length<=maxLen/\(∀ s ∈ ws,s.size<=maxLen)/\hs.length<=maxLen/\(Lit.int .i64 r).wf=true:=by
  obtain ⟨xs,n,_,_,hlen,hxl,hf⟩:=DataW.trod_struct Tryz.underlying67 h
  have h5:cs.length=3:=hlen.trans (by kernel_rfl)
  have hx5:xs.length=3:=hxl
  match cs,h5,xs,hx5 with
  | [c0,c1,c2],_,[y0,y1,y2],_ =>
    have ki:Tryz.prog.cellsOf 3=1:=by kernel_rfl
    have ks:Tryz.prog.cellsOf 42=1:=by kernel_rfl
    have kh:Tryz.prog.cellsOf 45=1:=by kernel_rfl
    have g0:DataW.trod enc Tryz.prog w base spare held n 3 [c0]=some y0:=by
      have e:=hf 0 _ rfl
      change DataW.trod enc Tryz.prog w base spare held n 3 (List.take (Tryz.prog.cellsOf 3) [c0,c1,c2])=some y0 at e
      rw [ki] at e
      exact e
    have g1:DataW.trod enc Tryz.prog w base spare held n 42 [c1]=some y1:=by
      have e:=hf 1 _ rfl
      change DataW.trod enc Tryz.prog w base spare held n 42 (List.take (Tryz.prog.cellsOf 42) [c1,c2])=some y1 at e
      rw [ks] at e
      exact e
    have g2:DataW.trod enc Tryz.prog w base spare held n 45 [c2]=some y2:=by
      have e:=hf 2 _ rfl
      change DataW.trod enc Tryz.prog w base spare held n 45 (List.take (Tryz.prog.cellsOf 45) [c2])=some y2 at e
      rw [kh] at e
      exact e
    obtain ⟨z0,e0,_,f0⟩:=DataW.trod_int Tryz.underlying3 g0
    obtain ⟨v1,ws,e1,hw,hwl,hwz⟩:=open_strs g1
    obtain ⟨v2,hs,e2,hh,hhl⟩:=open_intsC g2
    simp only [List.cons.injEq,and_true] at e0 e1 e2
    subst e0 e1 e2
    exact ⟨z0,c1,c2,ws,hs,rfl,hw,hh,hwl,hwz,hhl,f0⟩
theorem open_block {fuel:Nat} {cs:List Value} {x:DataW H × List MemPlace} (h:DataW.trod enc Tryz.prog w base spare held fuel 71 cs=some x) :
    ∃ (b:Bk) (v:Bv),cs=bkC b v/\RdK w b v/\FitK b:=by
  obtain ⟨xs,n,_,_,hlen,hxl,hf⟩:=DataW.trod_struct Tryz.underlying71 h
  have h5:cs.length=14:=hlen.trans (by kernel_rfl)
  have hx5:xs.length=10:=hxl
  match cs,h5,xs,hx5 with
  | [c0,c1,c2,c3,c4,c5,c6,c7,c8,c9,c10,c11,c12,c13],_,[y0,y1,y2,y3,y4,y5,y6,y7,y8,y9],_ =>
    have k_int:Tryz.prog.cellsOf 3=1:=by kernel_rfl
    have k_string:Tryz.prog.cellsOf 9=1:=by kernel_rfl
    have k_laws_Qc:Tryz.prog.cellsOf 66=3:=by kernel_rfl
    have k_laws_Tc:Tryz.prog.cellsOf 67=3:=by kernel_rfl
    have k_Slaws_Tx:Tryz.prog.cellsOf 68=1:=by kernel_rfl
    have k_bool:Tryz.prog.cellsOf 4=1:=by kernel_rfl
    have k_Slaws_Val:Tryz.prog.cellsOf 69=1:=by kernel_rfl
    have g0:DataW.trod enc Tryz.prog w base spare held n 3 [c0]=some y0:=by
      have e:=hf 0 _ rfl
      change DataW.trod enc Tryz.prog w base spare held n 3 (List.take (Tryz.prog.cellsOf 3) [c0,c1,c2,c3,c4,c5,c6,c7,c8,c9,c10,c11,c12,c13])=some y0 at e
      rw [k_int] at e
      exact e
    have g1:DataW.trod enc Tryz.prog w base spare held n 3 [c1]=some y1:=by
      have e:=hf 1 _ rfl
      change DataW.trod enc Tryz.prog w base spare held n 3 (List.take (Tryz.prog.cellsOf 3) [c1,c2,c3,c4,c5,c6,c7,c8,c9,c10,c11,c12,c13])=some y1 at e
      rw [k_int] at e
      exact e
    have g2:DataW.trod enc Tryz.prog w base spare held n 3 [c2]=some y2:=by
      have e:=hf 2 _ rfl
      change DataW.trod enc Tryz.prog w base spare held n 3 (List.take (Tryz.prog.cellsOf 3) [c2,c3,c4,c5,c6,c7,c8,c9,c10,c11,c12,c13])=some y2 at e
      rw [k_int] at e
      exact e
    have g3:DataW.trod enc Tryz.prog w base spare held n 9 [c3]=some y3:=by
      have e:=hf 3 _ rfl
      change DataW.trod enc Tryz.prog w base spare held n 9 (List.take (Tryz.prog.cellsOf 9) [c3,c4,c5,c6,c7,c8,c9,c10,c11,c12,c13])=some y3 at e
      rw [k_string] at e
      exact e
    have g4:DataW.trod enc Tryz.prog w base spare held n 66 [c4,c5,c6]=some y4:=by
      have e:=hf 4 _ rfl
      change DataW.trod enc Tryz.prog w base spare held n 66 (List.take (Tryz.prog.cellsOf 66) [c4,c5,c6,c7,c8,c9,c10,c11,c12,c13])=some y4 at e
      rw [k_laws_Qc] at e
      exact e
    have g5:DataW.trod enc Tryz.prog w base spare held n 67 [c7,c8,c9]=some y5:=by
      have e:=hf 5 _ rfl
      change DataW.trod enc Tryz.prog w base spare held n 67 (List.take (Tryz.prog.cellsOf 67) [c7,c8,c9,c10,c11,c12,c13])=some y5 at e
      rw [k_laws_Tc] at e
      exact e
    have g6:DataW.trod enc Tryz.prog w base spare held n 68 [c10]=some y6:=by
      have e:=hf 6 _ rfl
      change DataW.trod enc Tryz.prog w base spare held n 68 (List.take (Tryz.prog.cellsOf 68) [c10,c11,c12,c13])=some y6 at e
      rw [k_Slaws_Tx] at e
      exact e
    have g7:DataW.trod enc Tryz.prog w base spare held n 4 [c11]=some y7:=by
      have e:=hf 7 _ rfl
      change DataW.trod enc Tryz.prog w base spare held n 4 (List.take (Tryz.prog.cellsOf 4) [c11,c12,c13])=some y7 at e
      rw [k_bool] at e
      exact e
    have g8:DataW.trod enc Tryz.prog w base spare held n 69 [c12]=some y8:=by
      have e:=hf 8 _ rfl
      change DataW.trod enc Tryz.prog w base spare held n 69 (List.take (Tryz.prog.cellsOf 69) [c12,c13])=some y8 at e
      rw [k_Slaws_Val] at e
      exact e
    have g9:DataW.trod enc Tryz.prog w base spare held n 9 [c13]=some y9:=by
      have e:=hf 9 _ rfl
      change DataW.trod enc Tryz.prog w base spare held n 9 (List.take (Tryz.prog.cellsOf 9) [c13])=some y9 at e
      rw [k_string] at e
      exact e
    obtain ⟨z0,e0,_,f0⟩:=DataW.trod_int Tryz.underlying3 g0
    obtain ⟨z1,e1,_,f1⟩:=DataW.trod_int Tryz.underlying3 g1
    obtain ⟨z2,e2,_,f2⟩:=DataW.trod_int Tryz.underlying3 g2
    obtain ⟨s3,e3,_,f3⟩:=DataW.trod_string Tryz.underlying9 g3
    obtain ⟨r4,b4,v4,ws4,e4,hw4,hl4,hz4,f4,f4'⟩:=open_qc9 g4
    obtain ⟨r5,v5,u5,ws5,hs5,e5,hw5,hh5,hl5,hz5,hm5,f5⟩:=open_tc9 g5
    obtain ⟨a6,n6,p6,rfl⟩:∃ a len cap,c10=.slice a len cap:=by
      rcases Deep.open_slice Tryz.underlying68 g6 with ⟨hcs,_⟩ | ⟨ad,len',cap',m,n,D,Pl,hcs,_⟩ <;> (simp only [List.cons.injEq,and_true] at hcs;exact ⟨_,_,_,hcs⟩)
    obtain ⟨t6,en6,ht6,hl6,hz6⟩:=open_txS9 g6
    obtain ⟨b7,e7,_⟩:=DataW.trod_bool Tryz.underlying4 g7
    obtain ⟨a8,n8,p8,rfl⟩:∃ a len cap,c12=.slice a len cap:=by
      rcases Deep.open_slice Tryz.underlying69 g8 with ⟨hcs,_⟩ | ⟨ad,len',cap',m,n,D,Pl,hcs,_⟩ <;> (simp only [List.cons.injEq,and_true] at hcs;exact ⟨_,_,_,hcs⟩)
    obtain ⟨t8,en8,ht8,hl8,hz8⟩:=open_vlS g8
    obtain ⟨s9,e9,_,f9⟩:=DataW.trod_string Tryz.underlying9 g9
    simp only [List.cons.injEq,and_true] at e0 e1 e2 e3 e4 e5 e7 e9
    obtain ⟨e4a,e4b,e4c⟩:=e4
    obtain ⟨e5a,e5b,e5c⟩:=e5
    subst e0 e1 e2 e3 e4a e4b e4c e5a e5b e5c e7 e9
    exact ⟨⟨z0,z1,z2,s3,r4,b4,ws4,r5,ws5,hs5,t6,b7,t8,s9⟩,⟨c6,c8,c9,.slice a6 n6 p6,.slice a8 n8 p8⟩,rfl,⟨hw4,hw5,hh5,ht6,ht8⟩,⟨hl4,hl5,hm5,hl6,hl8,hz4,hz5,hz6,hz8,f3,f9,f0,f1,f2,f4,f4',f5⟩⟩
end
end Go.Proofs.YtohachldbpejpaaGreatDoor
namespace Go.Proofs.YtohachldbpejpaaGreatDoor
open Go.RowKit Go.ChangeShapes Go.WideShapes
set_option linter.unusedVariables false
theorem wf_int {x:Int} (h:(Lit.int .i64 x).wf=true):-9223372036854775808<=x/\x<=9223372036854775807:=by
  simp [Lit.wf,IntKind.min,IntKind.max,IntKind.signed,IntKind.bits] at h
  omega
theorem trS_of {l:List Bk} (h:∀ q ∈ l,FitK q):∀ b ∈ l,-9223372036854775808<=b.tr/\b.tr<=9223372036854775807:=fun b hb=>wf_int (h b hb).wf.2.2.2.2.2
section
variable {H:Type} {enc:TypeId × Value->H} {w:World} {base:Nat} {spare:Nat->Bool} {held:Bool}
theorem open_blockS {fuel:Nat} {a:Option Addr} {len cap:Nat} {x:DataW H × List MemPlace} (h:DataW.trod enc Tryz.prog w base spare held fuel 65 [.slice a len cap]=some x) :
    ∃ l:List Bk,len=l.length/\RdKs w (.slice a len cap) l/\l.length<=maxLen/\∀ q ∈ l,FitK q:=by
  rcases Deep.open_slice Tryz.underlying65 h with ⟨hcs,_⟩ | ⟨ad,len',cap',m,n,D,Pl,hcs,hb,hl,hm,hmm,hx,hel⟩
  · simp at hcs
    obtain ⟨rfl,rfl,rfl⟩:=hcs
    exact ⟨[],rfl,.inl ⟨_,_,rfl,rfl,fun _=>rfl⟩,by simp,by simp⟩
  · simp at hcs
    obtain ⟨rfl,rfl,rfl⟩:=hcs
    have hlm:len<=m:=by rw [hmm];split <;> omega
    by_cases h0:len=0
    · subst h0;exact ⟨[],rfl,.inl ⟨_,_,rfl,rfl,fun h=>by cases h⟩,by simp,by simp⟩
    · obtain ⟨b,off,spot⟩:=ad
      rw [show Tryz.prog.cellsOf 71=14 from by kernel_rfl] at hel
      have each:∀ i,i < m->∃ q:Bk × Bv,w.cells? base ((⟨b,off,spot⟩:Addr).add (i * 14)) 14=some (bkP q)/\RdK w q.1 q.2/\FitK q.1:=fun i hi=>by
        obtain ⟨cs',h1,h2⟩:=hel i hi
        obtain ⟨qa,lv,rfl,k1,k2⟩:=open_block h2
        exact ⟨(qa,lv),h1,k1,k2⟩
      obtain ⟨q0,-⟩:=each 0 (by omega)
      haveI:Inhabited (Bk × Bv):=⟨q0⟩
      obtain ⟨q,hq⟩:=Deep.choose_lt each
      have c0:∀ i,i < m->∀ j,j < 14->w.cell? (((⟨b,off,spot⟩:Addr).add (i * 14)).add j)=(bkP (q i))[j]?:=fun i hi=>(World.cells?_some (hq i hi).1).2.2
      have hc0:=c0 0 (by omega) 0 (by omega)
      have hspot:spot=none:=by simpa [Addr.add] using World.cell?_spot hc0
      subst hspot
      have hlen:((List.range len).map (fun i=>(q i).1)).length=len:=by simp
      refine ⟨(List.range len).map (fun i=>(q i).1),hlen.symm,.inr ⟨b,off,cap,?_,by rw [hlen],by omega,hm,?_,?_⟩,by omega,?_⟩
      · intro e;rw [e] at hlen;simp at hlen;omega
      · have:=World.block_lt_of_cell? w _ hc0;simpa [Addr.add] using this
      · intro i hi
        rw [hlen] at hi
        refine ⟨(q i).2,?_,by simpa using (hq i (by omega)).2.1⟩
        intro j hj
        have:=c0 i (by omega) j hj
        rw [add_plainC,add_plainC] at this
        simpa [bkP] using this
      · intro z hz
        obtain ⟨i,hi,rfl⟩:=List.mem_map.1 hz
        exact (hq i (by have:=List.mem_range.1 hi;omega)).2.2
end
end Go.Proofs.YtohachldbpejpaaGreatDoor
namespace Go.Proofs.YtohachldbpejpaaGreatDoor
open Go.RowKit Go.ChangeShapes Go.WideShapes
set_option linter.unusedVariables false
section
variable {H:Type} {enc:TypeId × Value->H} {w:World} {base:Nat} {spare:Nat->Bool} {held:Bool}
theorem open_txS {fuel:Nat} {a:Option Addr} {len cap:Nat} {x:DataW H × List MemPlace} (h:DataW.trod enc Tryz.prog w base spare held fuel 68 [.slice a len cap]=some x) :
    ∃ l:List Tx5,len=l.length/\RdT w (.slice a len cap) l/\l.length<=maxLen/\∀ q ∈ l,q.2.1.size<=maxLen/\q.2.2.1.size<=maxLen:=by
  rcases Deep.open_slice Tryz.underlying68 h with ⟨hcs,_⟩ | ⟨ad,len',cap',m,n,D,Pl,hcs,hb,hl,hm,hmm,hx,hel⟩
  · simp at hcs
    obtain ⟨rfl,rfl,rfl⟩:=hcs
    exact ⟨[],rfl,.inl ⟨_,_,rfl,rfl,fun _=>rfl⟩,by simp,by simp⟩
  · simp at hcs
    obtain ⟨rfl,rfl,rfl⟩:=hcs
    have hlm:len<=m:=by rw [hmm];split <;> omega
    by_cases h0:len=0
    · subst h0;exact ⟨[],rfl,.inl ⟨_,_,rfl,rfl,fun h=>by cases h⟩,by simp,by simp⟩
    · obtain ⟨b,off,spot⟩:=ad
      rw [show Tryz.prog.cellsOf 151=5 from by kernel_rfl] at hel
      have each:∀ i,i < m->∃ q:Tx5,w.cells? base ((⟨b,off,spot⟩:Addr).add (i * 5)) 5=some (txC q)/\q.2.1.size<=maxLen/\q.2.2.1.size<=maxLen:=fun i hi=>by
        obtain ⟨cs',h1,h2⟩:=hel i hi
        obtain ⟨q,rfl,k1,k2,-⟩:=open_tx h2
        exact ⟨q,h1,k1,k2⟩
      obtain ⟨q,hq⟩:=Deep.choose_lt each
      have c0:∀ i,i < m->∀ j,j < 5->w.cell? (((⟨b,off,spot⟩:Addr).add (i * 5)).add j)=(txC (q i))[j]?:=fun i hi=>(World.cells?_some (hq i hi).1).2.2
      have hc0:=c0 0 (by omega) 0 (by omega)
      have hspot:spot=none:=by simpa [Addr.add] using World.cell?_spot hc0
      subst hspot
      have hlen:((List.range len).map q).length=len:=by simp
      refine ⟨(List.range len).map q,hlen.symm,.inr ⟨b,off,cap,?_,by rw [hlen],by omega,hm,?_,?_⟩,by omega,?_⟩
      · intro e;rw [e] at hlen;simp at hlen;omega
      · have:=World.block_lt_of_cell? w _ hc0;simpa [Addr.add] using this
      · intro i hi
        rw [hlen] at hi
        have cc:∀ j,j < 5->w.cell? ⟨b,off+i * 5+j,none⟩=(txC (q i))[j]?:=fun j hj=>by
          have:=c0 i (by omega) j hj
          rwa [add_plain',add_plain'] at this
        simp only [List.getElem_map,List.getElem_range]
        exact ⟨cc 0 (by omega),cc 1 (by omega),cc 2 (by omega),cc 3 (by omega),cc 4 (by omega)⟩
      · intro z hz
        obtain ⟨i,hi,rfl⟩:=List.mem_map.1 hz
        exact (hq i (by have:=List.mem_range.1 hi;omega)).2
end
end Go.Proofs.YtohachldbpejpaaGreatDoor
