/- Chains in a tree, plainly. Numbers appended to a row of the call's own; rows of numbers turned round, and looked through. Chains in a tree, and what extends what, by the model. Whether an epoch has ended at a block of a tree: plainly, and by the model. -/
import Derived.Test.YtohachldbpejpaaGreatDoorZnBkSpec
import Derived.Test.YtohachldbpejpaaGreatDoorZnCtVal
import Derived.Test.YtohachldbpejpaaGreatDoorZnStrs
import Derived.Laws.AppendOwnNone
import Derived.Maps.AppendAt
import Derived.Test.YtohachldbpejpaaGreatDoorZnTrSpec
namespace Go.Proofs.YtohachldbpejpaaGreatDoor
open Go.RowKit
set_option linter.unusedVariables false
theorem low_id {b:Bk} (h:blB b=true):0<=b.id:=by
  unfold blB inB at h
  simp only [Bool.and_eq_true,decide_eq_true_eq] at h
  omega
theorem root_qb {r b:Int} {ws:List ByteArray} (h:rootB r b ws=true):b=-1:=by
  unfold rootB at h
  simp only [Bool.and_eq_true,decide_eq_true_eq] at h
  omega
def qbAt (l:List Bk) (i:Nat):Int:=(l[i]?.map (·.qb)).getD (-1)
def idAt (l:List Bk) (i:Nat):Int:=(l[i]?.map (·.id)).getD 0
theorem qbAt_eq {l:List Bk} {i:Nat} (h:i < l.length):qbAt l i=l[i].qb:=by simp [qbAt,h]
theorem idAt_eq {l:List Bk} {i:Nat} (h:i < l.length):idAt l i=l[i].id:=by simp [idAt,h]
def upI (l:List Bk):Nat->Nat->List Nat
  | 0,_=>[]
  | n+1,i=>i :: (if atI l (qbAt l i) < 0 then [] else upI l n (atI l (qbAt l i)).toNat)
def upN (l:List Bk) (i:Nat):List Nat:=upI l (i+1) i
theorem tree_asc {l:List Bk} (h:treeP l):AscP l l.length:=asc_of (fun i hi _=>h.2 i hi)
theorem at_low {l:List Bk} (h:treeP l) {id:Int} (hi:id < 0):atI l id=-1 :=
  atI_eq (.inl ⟨rfl,fun j hj e=>by have:=low_id (h.2 j hj).1;omega⟩)
theorem par {l:List Bk} (h:treeP l) {i:Nat} (hi:i < l.length):(atI l l[i].qb=-1/\l[i].qb=-1)\/∃ j,∃ hj:j < i,atI l l[i].qb=(j:Int)/\(l[j]'(by omega)).id=l[i].qb:=by
  rcases (h.2 i hi).2.2.2 with r | ⟨j,hj,e,_⟩
  · have:=root_qb r
    exact .inl ⟨by rw [this];exact at_low h (by omega),this⟩
  · exact .inr ⟨j,hj,by rw [<- e];exact atI_asc (tree_asc h) (by omega),e⟩
theorem up_fuel {l:List Bk} (h:treeP l):∀ (i n m:Nat),i < l.length->i < n->i < m->upI l n i=upI l m i:=by
  intro i
  induction i using Nat.strongRecOn with
  | ind i ih =>
    intro n m hi hn hm
    match n,m,hn,hm with
    | n + 1,m+1,hn,hm =>
      rw [upI,upI,qbAt_eq hi]
      rcases par h hi with ⟨e,_⟩ | ⟨j,hj,e,_⟩
      · rw [e,if_pos (by omega),if_pos (by omega)]
      · rw [e,if_neg (by omega),if_neg (by omega)]
        simp only [Int.toNat_natCast]
        rw [ih j hj n m (by omega) (by omega) (by omega)]
theorem up_root {l:List Bk} (h:treeP l) {i:Nat} (hi:i < l.length) (e:atI l l[i].qb=-1):upN l i=[i]:=by
  rw [upN,upI,qbAt_eq hi,e,if_pos (by omega)]
theorem up_step {l:List Bk} (h:treeP l) {i j:Nat} (hi:i < l.length) (hj:j < i) (e:atI l l[i].qb=(j:Int)):upN l i=i :: upN l j:=by
  rw [upN,upI,qbAt_eq hi,e,if_neg (by omega),Int.toNat_natCast,up_fuel h j i (j+1) (by omega) hj (by omega)]
  rfl
theorem up_pos {l:List Bk} (i:Nat):0 < (upN l i).length:=by rw [upN,upI];simp
theorem up_mem {l:List Bk} (h:treeP l):∀ (i:Nat),i < l.length->∀ x ∈ upN l i,x<=i:=by
  intro i
  induction i using Nat.strongRecOn with
  | ind i ih =>
    intro hi x hx
    rcases par h hi with ⟨e,_⟩ | ⟨j,hj,e,_⟩
    · rw [up_root h hi e] at hx
      simp at hx;omega
    · rw [up_step h hi hj e] at hx
      rcases List.mem_cons.1 hx with rfl | hx
      · omega
      · have:=ih j hj (by omega) x hx;omega
theorem up_len {l:List Bk} (h:treeP l):∀ (i:Nat),i < l.length->(upN l i).length<=i+1:=by
  intro i
  induction i using Nat.strongRecOn with
  | ind i ih =>
    intro hi
    rcases par h hi with ⟨e,_⟩ | ⟨j,hj,e,_⟩
    · rw [up_root h hi e];simp
    · rw [up_step h hi hj e]
      have:=ih j hj (by omega)
      simp;omega
def chA (l:List Bk) (id:Int):List Nat:=if atI l id < 0 then [] else (upN l (atI l id).toNat).reverse
theorem at_lt {l:List Bk} {id:Int} (h:0<=atI l id):∃ k,∃ hk:k < l.length,atI l id=(k:Int)/\l[k].id=id:=by
  rcases atI_is l id with ⟨e,_⟩ | ⟨k,hk,e,f,_⟩
  · omega
  · exact ⟨k,hk,e,f⟩
theorem chA_none {l:List Bk} {id:Int} (h:atI l id < 0):chA l id=[]:=by rw [chA,if_pos h]
theorem chA_step {l:List Bk} (h:treeP l) {id:Int} {k:Nat} (hk:k < l.length) (e:atI l id=(k:Int)):chA l id=chA l l[k].qb ++ [k]:=by
  rw [chA,if_neg (by omega),e,Int.toNat_natCast]
  rcases par h hk with ⟨e2,_⟩ | ⟨j,hj,e2,_⟩
  · rw [up_root h hk e2,chA_none (by omega)];rfl
  · rw [up_step h hk hj e2,chA,e2,if_neg (by omega),Int.toNat_natCast,List.reverse_cons]
theorem chA_len {l:List Bk} (h:treeP l) (id:Int):(chA l id).length<=l.length:=by
  by_cases hn:atI l id < 0
  · rw [chA_none hn];simp
  · obtain ⟨k,hk,e,_⟩:=at_lt (l:=l) (id:=id) (by omega)
    rw [chA,if_neg hn,e,Int.toNat_natCast,List.length_reverse]
    have:=up_len h k hk
    omega
theorem chA_lt {l:List Bk} (h:treeP l) (id:Int):∀ x ∈ chA l id,x < l.length:=by
  intro x hx
  by_cases hn:atI l id < 0
  · rw [chA_none hn] at hx;simp at hx
  · obtain ⟨k,hk,e,_⟩:=at_lt (l:=l) (id:=id) (by omega)
    rw [chA,if_neg hn,e,Int.toNat_natCast,List.mem_reverse] at hx
    have:=up_mem h k hk x hx
    omega
def coA (l:List Bk) (id:Int):List Int:=if treeB l=true then (chA l id).map (idAt l) else []
def exB (l:List Bk) (a b:Int):Bool:=treeB l && (if a=-1 then (decide (b=-1) || decide (0<=atI l b)) else ((chA l b).map (idAt l)).any (fun x=>decide (x=a)))
def slen:Value->Nat
  | .slice _ n _=>n
  | _=>0
end Go.Proofs.YtohachldbpejpaaGreatDoor

namespace Go.Proofs.YtohachldbpejpaaGreatDoor
open Go.RowKit
set_option linter.unusedVariables false
theorem add_flatI (b off i:Nat):(⟨b,off,none⟩:Addr).add i=⟨b,off+i,none⟩:=by
  by_cases hz:i=0
  · subst hz;simp [Addr.add]
  · simp [Addr.add,hz]
theorem grownS_transI {a b c:World} {r:Option Nat} (h:a.grownBy b r) (k:b.grownBy c r):a.grownBy c r :=
  ⟨k.os.trans h.os,k.tape.trans h.tape,k.output.trans h.output,Nat.le_trans h.size k.size,fun i hi hn=>(k.block i (Nat.lt_of_lt_of_le hi h.size) hn).trans (h.block i hi hn)⟩
theorem grown_drewI {a b:World} {r:Option Nat} (h:a.grownBy b r):a.grownBy b.drew r:=⟨h.os,h.tape,h.output,h.size,h.block⟩
theorem row_drew {base:Nat} {w:World} {e:TypeId} {size:Nat} {v:Value} {n:Nat} {xs:List Value} (h:w.ownsRow base e size v n xs):w.drew.ownsRow base e size v n xs:=row_below h ((Below.refl w.heap.size w).drew) (Nat.le_refl _)
theorem own_nilI (w:World) (base:Nat) (h:base<=w.heap.size):OwnI base (w.alloc (.cells #[] 3)) (.slice (some ⟨w.heap.size,0,none⟩) 0 0) [] :=
  World.ownsRow_lit w #[] 0 h (by unfold maxLen;omega) (by simp)
theorem own_oneI (w:World) (base:Nat) (x:Int) (h:base<=w.heap.size):OwnI base (w.alloc (.cells #[.int .i64 x] 3)) (.slice (some ⟨w.heap.size,0,none⟩) 1 1) [x] :=
  World.ownsRow_lit w #[.int .i64 x] 1 h (by unfold maxLen;omega) (by simp)
theorem rd_oneI {w:World} {g:Nat} {x:Int} (h:Blk w g 3 [.int .i64 x]):RdI w (.slice (some ⟨g,0,none⟩) 1 1) [x]:=by
  refine .inr ⟨g,0,1,by simp,rfl,by simp,by unfold maxLen;omega,h.lt,fun i hi=>?_⟩
  obtain rfl:i=0:=by simpa using hi
  rw [h.cell]
  rfl
theorem app_ownIs {ops:Array Oper} {rest:List Oper} {o:Oper} {a:Act} {Q:Exit->Act->World->Prop} (w:World) (hgd:o.guard=none) (s x:Operand)
    (ho:o.op=.call { callee:=.builtin .append,args:=#[s,x],argTypes:=#[45,45] })
    (base:Nat) (v vx:Value) (l k:List Int) (hs:a.eval s=v) (hx:a.eval x=vx) (hown:OwnI base w v l) (hrd:RdI w vx k)
    (hlen:l.length+k.length<=100000000) (hbase:base<=w.heap.size)
    (h:∀ v' w',OwnI base w' v' (l ++ k)->w.grownBy w' v.ownBlock->Below base w w'->(v'.ownBlock=v.ownBlock\/v'.ownBlock=some w.heap.size)->wpList Tryz.prog ops Q rest (a.put o.dst v') w'):wpList Tryz.prog ops Q (o :: rest) a w:=by
  obtain ⟨i0,hi,hz0,hz1,hz2⟩:=info_parts Tryz.infoI
  have hbel:∀ w',w.grownBy w' v.ownBlock->Below base w w':=fun w' hg=>(Below.refl _ _).grown hg hbase (fun k hk=>(hown.ge k hk))
  rcases hrd with ⟨ax,cap,rfl,rfl,hnil⟩ | ⟨b,off,cap,h0,rfl,h1,h2,h3,h4⟩
  · cases ax with
    | none =>
      have hc:cap=0:=hnil rfl
      subst hc
      refine wpList_append_own_none hgd s x 45 ho base 3 i0 1 Tryz.underlying45 hi v l.length (l.map (Value.int .i64)) hs hown hx ?_
      exact h v w (by simpa [OwnI] using hown) (World.grownBy.refl _ _) (Below.refl _ _) (.inl rfl)
    | some ad =>
      refine wpList_append_own_at w hgd s x 45 ho base 3 i0 (.int .i64 0) 1 8 Tryz.underlying45 hi hz0 hz1 hz2 rfl (by decide) v l.length (l.map (Value.int .i64)) hs hown ad 0 cap [] hx rfl (by intro j u hj;simp at hj) (by intro u hu;simp at hu) (by unfold maxLen;simp at hlen;omega) (by simp at hlen;omega) hbase ?_
      intro v' w' ho' hg _ hl'
      exact h v' w' (by simpa [OwnI] using ho') hg (hbel w' hg) hl'
  · refine wpList_append_own_at w hgd s x 45 ho base 3 i0 (.int .i64 0) 1 8 Tryz.underlying45 hi hz0 hz1 hz2 rfl (by decide) v l.length (l.map (Value.int .i64)) hs hown ⟨b,off,none⟩ k.length cap (k.map (Value.int .i64)) hx (by simp) ?_ ?_ (by unfold maxLen;omega) (by omega) hbase ?_
    · intro j u hj
      obtain ⟨hjl,hj⟩:=List.getElem?_eq_some_iff.1 hj
      simp only [List.length_map] at hjl
      rw [add_flatI,h4 j hjl]
      simpa using hj
    · intro u hu
      obtain ⟨p,_,rfl⟩:=List.mem_map.1 hu
      rfl
    · intro v' w' ho' hg _ hl'
      exact h v' w' (by simpa [OwnI] using ho') hg (hbel w' hg) hl'
def RevP (l X:List Int) (i:Nat):Prop:=X.length=l.length/\∀ t (h:t < l.length) (h2:t < X.length),X[t]=if t < i\/l.length - 1 - t < i then l[l.length - 1 - t] else l[t]
theorem rev_done {l X:List Int} {i:Nat} (h:RevP l X i) (hi:l.length<=2 * i+1):X=l.reverse:=by
  apply List.ext_getElem
  · simp [h.1]
  · intro t h1 h2
    have hl:=h.1
    rw [h.2 t (by omega) h1,List.getElem_reverse]
    split
    · rfl
    · congr 1
      omega
theorem rev_next {l X:List Int} {i:Nat} (h:RevP l X i) (hi:2 * i+1 < l.length):RevP l ((X.set i (X[l.length - 1 - i]'(by rw [h.1];omega))).set (l.length - 1 - i) (X[i]'(by rw [h.1];omega))) (i+1):=by
  have hl:=h.1
  refine ⟨by simp [hl],fun t ht h2=>?_⟩
  simp only [List.getElem_set]
  by_cases e1:l.length - 1 - i=t
  · rw [if_pos e1,if_pos (by omega),h.2 i (by omega) (by omega),if_neg (by omega)]
    congr 1
    omega
  · rw [if_neg e1]
    by_cases e2:i=t
    · rw [if_pos e2,if_pos (by omega),h.2 (l.length - 1 - i) (by omega) (by omega),if_neg (by omega)]
      subst e2
      rfl
    · rw [if_neg e2,h.2 t ht (by simp at h2;omega)]
      by_cases c:t < i\/l.length - 1 - t < i
      · rw [if_pos c,if_pos (by omega)]
      · rw [if_neg c,if_neg (by omega)]
set_option maxRecDepth 20000 in
set_option maxHeartbeats 2000000 in
theorem reverseI_any (v:Value) (l:List Int) (base:Nat) (w:World) (ho:OwnI base w v l) (hl:l.length<=4000000) :
    Calls Tryz.prog 215 #[v] w fun e w'=>e=.returned (.tuple #[])/\OwnI base w' v l.reverse/\w.grownBy w' v.ownBlock:=by
  obtain ⟨a,cap,rfl⟩:=ho.rd.shape
  obtain ⟨n,hn⟩:∃ n,l.length=n:=⟨_,rfl⟩
  have Hn:=hide hn
  have Ho:Hid (w.ownsRow base 3 1 (.slice a n cap) n (l.map (Value.int .i64))):=hide (by rw [<- hn];exact ho)
  have Hsh:Hid (0 < n->∃ g,a=some ⟨g,0,none⟩):=hide (fun h=>by
    rcases ho.2 with ⟨hv,h0⟩ | ⟨g,c,u,hv,-⟩
    · omega
    · simp only [Value.slice.injEq] at hv;exact ⟨g,hv.1⟩)
  rw [hn] at hl ⊢
  have Hend:Hid (∀ wr X i,RevP l X i->n<=2 * i+1->wr.ownsRow base 3 1 (.slice a n cap) n (X.map (Value.int .i64))->OwnI base wr (.slice a n cap) l.reverse):=hide (fun wr X i hX hi h=>by
    have e:=rev_done hX (by rw [Hn.out];exact hi)
    unfold OwnI
    rw [<- e,hX.1,Hn.out]
    exact h)
  clear hn ho
  go_enter Tryz.func215,Tryz.ntmps215
  go_wp2
  go_loopw [2,3] (fun iv jv wr=>∃ (i:Nat) (X:List Int),(2 * i<=n+1)/\iv=.int .i64 (i:Int)/\jv=.int .i64 ((n:Int) - 1 - (i:Int))/\RevP l X i/\wr.ownsRow base 3 1 (.slice a n cap) n (X.map (Value.int .i64))/\w.grownBy wr (Value.slice a n cap).ownBlock) (fun iv _ _=>n - (intOf iv).toNat)
  case atStart=>exact ⟨0,l,by omega,rfl,by congr 1;omega,⟨rfl,fun t _ _=>by rw [if_neg (by omega)]⟩,Ho.out,World.grownBy.refl _ _⟩
  case round =>
    obtain ⟨i,X,hi,rfl,rfl,hX,ho,hg⟩:=hrel
    have HX:=hide hX
    have Hg:=hide hg
    have hXl:X.length=n:=by rw [hX.1];exact Hn.out
    clear hX hg Ho
    by_cases hlt:2 * i+1 < n
    · obtain ⟨g,rfl⟩:=Hsh.out (by omega)
      obtain ⟨j,hj⟩:∃ j,n - 1 - i=j:=⟨_,rfl⟩
      have ej:(n:Int) - 1 - (i:Int)=(j:Int):=by omega
      rw [ej]
      have hij:(i:Int) < (j:Int):=by omega
      have hi0:i < X.length:=by omega
      have hj0:j < X.length:=by omega
      have c1:=ho.cellAt i (by omega)
      have c2:=ho.cellAt j (by omega)
      have f1:=ho.frozenAt i
      have f2:=ho.frozenAt j
      rw [List.getElem?_map,List.getElem?_eq_getElem hi0,Option.map_some] at c1
      rw [List.getElem?_map,List.getElem?_eq_getElem hj0,Option.map_some] at c2
      have s1:=ho.stored i (.int .i64 X[j])
      have s2:=s1.1.stored j (.int .i64 X[i])
      have HS:Hid (RevP l ((X.set i X[j]).set j X[i]) (i+1)):=hide (by
        have h:=rev_next HX.out (by rw [Hn.out];exact hlt)
        have e:l.length - 1 - i=j:=by rw [Hn.out];exact hj
        simp only [e] at h
        exact h)
      have Ho:=hide ho
      have hin:(i:Int) < (n:Int):=by omega
      have hjn:(j:Int) < (n:Int):=by omega
      have hii:(0:Int)<=(i:Int):=by omega
      have hjj:(0:Int)<=(j:Int):=by omega
      have hne:i ≠ j:=by omega
      have Hj:=hide hj
      clear ho s1 s2 hj ej hXl
      generalize hxi:X[i]=xi at c1 HS
      generalize hxj:X[j]=xj at c2 HS
      clear hxi hxj
      go_wp2
      go_region
      go_wp2
      have hr1:=(Ho.out.stored i (.int .i64 xj)).1
      have hr2:=(hr1.stored j (.int .i64 xi)).1
      rw [<- List.map_set,<- List.map_set] at hr2
      have HG:=hide (grownS_transI (grownS_transI Hg.out (grown_set wr g i (.int .i64 xj))) (grown_set _ g j (.int .i64 xi)))
      go_roundw
      case rel=>exact ⟨i+1,_,by omega,by congr 1,by have:=Hj.out;congr 1;omega,HS.out,row_drew hr2,grown_drewI HG.out⟩
      case measure=>simp [intOf];omega
    · have ho2:=hide (Hend.out wr X i HX.out (by omega) ho)
      have hle:(n:Int) - 1 - (i:Int)<=(i:Int):=by omega
      clear ho HX
      go_wp2
      refine bodyPost_end (results_none rfl _ _ _) rfl ?_
      exact ⟨rfl,ho2.out,Hg.out⟩
end Go.Proofs.YtohachldbpejpaaGreatDoor

namespace Go.Proofs.YtohachldbpejpaaGreatDoor
open Go.RowKit
set_option linter.unusedVariables false
theorem RdKs.parts9 {w:World} {a:Option Addr} {cap:Nat} {l:List Bk} (h:RdKs w (.slice a l.length cap) l) (hl:0 < l.length):∃ b off,a=some ⟨b,off,none⟩/\b < w.heap.size/\∀ i (h:i < l.length),∃ bv,BkAt w b (off+i * 14) l[i] bv/\RdK w l[i] bv:=by
  rcases h with ⟨a',cap',e,rfl,hn⟩ | ⟨b,off,cap',h0,e,h1,h2,h3,h4⟩
  · simp at hl
  · simp only [Value.slice.injEq] at e
    exact ⟨b,off,e.1,h3,h4⟩
def ofN (i:Nat):Int:=(i:Int)
structure UpTo (l:List Bk) (id0 id:Int) (O:List Nat):Prop where
  all:chA l id0=chA l id ++ O
  there:O=[]\/id < 0\/0<=atI l id
theorem UpTo.next {l:List Bk} (ht:treeP l) {id0 id:Int} {O:List Nat} (h:UpTo l id0 id O) {k:Nat} (hk:k < l.length) (e:atI l id=(k:Int)):UpTo l id0 l[k].qb (k :: O):=by
  refine ⟨?_,?_⟩
  · rw [h.all,chA_step ht hk e,List.append_assoc];rfl
  · rcases par ht hk with ⟨_,q⟩ | ⟨j,hj,q,_⟩
    · exact .inr (.inl (by omega))
    · exact .inr (.inr (by omega))
theorem UpTo.len {l:List Bk} (ht:treeP l) {id0 id:Int} {O:List Nat} (h:UpTo l id0 id O):O.length<=l.length:=by
  have:=chA_len ht id0
  rw [h.all] at this
  simp at this
  omega
set_option maxRecDepth 20000 in
set_option maxHeartbeats 2000000 in
theorem specChain_any (v:Value) (l:List Bk) (id0:Int) (w:World) (hr:RdKs w v l) (hl:l.length<=4000000) (ht:treeP l) :
    Calls Tryz.prog 82 #[v,.int .i64 id0] w fun e w'=>∃ x,e=.returned x/\OwnI w.heap.size w' x ((chA l id0).map ofN)/\Below w.heap.size w w':=by
  obtain ⟨a,cap,rfl⟩:=hr.shape
  have Hr:=hide hr
  have Ht:=hide ht
  have HA:=hide (fun V (hV:Below w.heap.size w V) id=>specAt_any (.slice a l.length cap) l id V (hr.below hV (Nat.le_refl _)) hl)
  have HT:=hide (chA_len ht id0)
  clear hr ht
  go_enter Tryz.func82,Tryz.ntmps82
  go_wp2
  have o1:=own_nilI w w.heap.size (Nat.le_refl _)
  have b1:Below w.heap.size w (w.alloc (.cells #[] 3)):=(Below.refl _ w).alloc (Nat.le_refl _) _
  go_loopw [1,5] (fun iv ov wr=>∃ (id:Int) (O:List Nat),iv=.int .i64 id/\UpTo l id0 id O/\slen ov=O.length/\OwnI w.heap.size wr ov (O.map ofN)/\Below w.heap.size w wr) (fun _ ov _=>l.length - slen ov)
  case atStart=>exact ⟨id0,[],rfl,⟨by simp,.inl rfl⟩,rfl,o1,b1⟩
  case round =>
    clear o1 b1
    obtain ⟨id,O,rfl,hu,hs,ho,hb⟩:=hrel
    obtain ⟨oa,oc,rfl⟩:=ho.rd.shape
    have Hu:=hide hu
    have Ho:=hide ho
    clear hu ho hs
    by_cases hlow:id < 0
    · have HX:Hid (chA l id0=O):=hide (by rw [Hu.out.all,chA_none (by rw [at_low Ht.out hlow];omega)];rfl)
      go_wp2
      go_ret
      exact ⟨_,rfl,by rw [HX.out];exact Ho.out,hb⟩
    · have hge:0<=id:=by omega
      go_wp2_with fail
      refine (HA.out wr hb id).mono ?_
      rintro e w2 ⟨rfl,rfl⟩
      by_cases hn:atI l id < 0
      · have HX:Hid (chA l id0=[]):=hide (by
          rcases Hu.out.there with h | h | h
          · rw [Hu.out.all,chA_none hn,h];rfl
          · omega
          · omega)
        have HO:=hide (own_nilI w2 w.heap.size hb.size)
        have HB:=hide (hb.alloc (o:=.cells #[] 3) hb.size)
        go_wp2
        go_ret
        exact ⟨_,rfl,by rw [HX.out];exact HO.out,HB.out⟩
      · obtain ⟨k,hk,e,-⟩:=at_lt (l:=l) (id:=id) (by omega)
        have Hu2:=hide (Hu.out.next Ht.out hk e)
        have hm:=Hu2.out.len Ht.out
        obtain ⟨b,off,rfl,h3,hcell⟩:=Hr.out.parts9 (by omega)
        obtain ⟨lv,hat,-⟩:=hcell k hk
        have c5:=(hat.below hb h3).cells.2.2.2.2.2.1
        have h39:b < w2.heap.size:=by have:=hb.size;omega
        rw [e]
        have hk0:(0:Int)<=(k:Int):=by omega
        have hkl:(k:Int) < (l.length:Int):=by omega
        have HC:Hid (∀ V,Below w.heap.size w V->V.cell? ⟨b,off+k * 14+5,none⟩=some (.int .i64 l[k].qb)):=hide (fun V hV=>(hat.below hV h3).cells.2.2.2.2.2.1)
        have hO:O.length+1<=l.length:=by simpa using hm
        have HO1:=hide (own_oneI w2 w.heap.size (k:Int) hb.size)
        have HR1:=hide (Ho.out.rd.below ((Below.refl w2.heap.size w2).alloc (Nat.le_refl _) (.cells #[.int .i64 (k:Int)] 3)) (Nat.le_refl _))
        have HB1:=hide (hb.alloc (o:=.cells #[.int .i64 (k:Int)] 3) hb.size)
        clear hn hm hcell hat c5 Hu HA Hr
        generalize l[k].qb=qb at HC Hu2
        have hlen1:((O.map ofN).length:Nat)=O.length:=by simp
        rw [hlen1] at HR1
        have hdone:∀ v3 w3,OwnI w.heap.size w3 v3 ([(k:Int)] ++ O.map ofN)->slen v3=O.length+1:=fun v3 w3 h=>by
          obtain ⟨a3,c3,rfl⟩:=h.rd.shape
          simp [slen]
        have Hdone:=hide hdone
        clear hdone
        simp only
        go_wp2_with (at_builtin;refine app_ownIs _ rfl _ _ rfl w.heap.size _ _ [(k:Int)] (O.map ofN) rfl rfl HO1.out HR1.out (by simp;omega) (by have:=HB1.out.size;omega) ?_;intro v3 w3 ho3 hg3 hb3 _;have cc:=HC.out w3 (HB1.out.trans hb3))
        have HS3:=hide (Hdone.out v3 w3 ho3)
        have Ho3:=hide ho3
        clear ho3
        go_roundw
        case rel=>exact ⟨qb,k :: O,rfl,Hu2.out,by rw [HS3.out];rfl,Ho3.out,HB1.out.trans hb3⟩
        case measure=>rw [HS3.out];simp [slen];omega
theorem RdI.cellI {w:World} {a:Option Addr} {cap:Nat} {l:List Int} {n:Nat} (h:RdI w (.slice a n cap) l) (hn:n=l.length) {k:Nat} (hk:k < l.length):∃ b off,a=some ⟨b,off,none⟩/\b < w.heap.size/\w.cell? ⟨b,off+k,none⟩=some (.int .i64 l[k]):=by
  rcases h with ⟨a',cap',e,rfl,hn⟩ | ⟨b,off,cap',h0,e,h1,h2,h3,h4⟩
  · simp at hk
  · simp only [Value.slice.injEq] at e
    exact ⟨b,off,e.1,h3,h4 k hk⟩
end Go.Proofs.YtohachldbpejpaaGreatDoor

namespace Go.Proofs.YtohachldbpejpaaGreatDoor
open Go.RowKit
set_option linter.unusedVariables false
def enAt (l:List Bk) (i:Nat):Bool:=(l[i]?.map (·.en)).getD false
theorem enAt_eq {l:List Bk} {i:Nat} (h:i < l.length):enAt l i=l[i].en:=by simp [enAt,h]
def chT (l:List Bk) (id:Int):List Nat:=if treeB l=true then chA l id else []
def enB (l:List Bk) (id:Int):Bool:=(chT l id).any (enAt l)
theorem chT_co (l:List Bk) (id:Int):coA l id=(chT l id).map (idAt l):=by
  unfold coA chT
  split <;> simp
theorem chT_lt (l:List Bk) (id:Int):∀ x ∈ chT l id,x < l.length:=by
  intro x hx
  unfold chT at hx
  split at hx
  · rename_i h
    exact chA_lt (treeP_of h) id x hx
  · simp at hx
theorem chT_len (l:List Bk) (id:Int):(chT l id).length<=l.length:=by
  unfold chT
  split
  · rename_i h
    exact chA_len (treeP_of h) id
  · simp
theorem chT_at (l:List Bk) (id:Int):∀ x ∈ chT l id,atI l (idAt l x)=(x:Int):=by
  intro x hx
  have hlt:=chT_lt l id x hx
  unfold chT at hx
  split at hx
  · rename_i h
    rw [idAt_eq hlt]
    exact atI_asc (tree_asc (treeP_of h)) hlt
  · simp at hx
theorem any_yes {C:List Nat} {f:Nat->Bool} {k:Nat} (hk:k < C.length) (h:f C[k]=true):C.any f=true:=by
  rw [List.any_eq_true]
  exact ⟨C[k],List.getElem_mem hk,h⟩
theorem any_no {C:List Nat} {f:Nat->Bool} (h:∀ j (hj:j < C.length),f C[j]=false):C.any f=false:=by
  rw [List.any_eq_false]
  intro x hx
  obtain ⟨j,hj,rfl⟩:=List.mem_iff_getElem.1 hx
  simp [h j hj]
theorem no_next {C:List Nat} {f:Nat->Bool} {k:Nat} (hk:k < C.length) (hno:∀ j (hj:j < C.length),j < k->f C[j]=false) (h:f C[k]=false):∀ j (hj:j < C.length),j < k+1->f C[j]=false:=by
  intro j hj hjk
  by_cases e:j=k
  · subst e;exact h
  · exact hno j hj (by omega)
set_option maxRecDepth 20000 in
set_option maxHeartbeats 2000000 in
theorem specEndedC_any (v:Value) (l:List Bk) (id:Int) (w:World) (hr:RdKs w v l) (hl:l.length<=4000000) (ht:treeP l) :
    Calls Tryz.prog 80 #[v,.int .i64 id] w fun e w'=>e=.returned (.bool ((chA l id).any (enAt l)))/\Below w.heap.size w w':=by
  obtain ⟨a,cap,rfl⟩:=hr.shape
  have Hr:=hide hr
  have HC:=hide (specChain_any _ l id w hr hl ht)
  have hcl:=chA_len ht id
  have Hclt:=hide (chA_lt ht id)
  clear hr ht
  generalize chA l id=C at HC hcl Hclt ⊢
  obtain ⟨X,hX⟩:∃ X,C.any (enAt l)=X:=⟨_,rfl⟩
  rw [hX]
  have HXa:=hide hX
  clear hX
  go_enter Tryz.func80,Tryz.ntmps80
  go_wp2_with fail
  refine HC.out.mono ?_
  rintro e w3 ⟨cv,rfl,oc,hb3⟩
  obtain ⟨ca,cc,rfl⟩:=oc.rd.shape
  have hlc:(C.map ofN).length=C.length:=by simp
  rw [hlc] at oc ⊢
  have Hoc:=hide oc.rd
  clear oc hlc HC
  go_wp2
  go_loopw [6] (fun iv wr=>∃ k:Nat,k<=C.length/\iv=.int .i64 (k:Int)/\(∀ j (h:j < C.length),j < k->enAt l C[j]=false)/\wr=w3) (fun iv _=>C.length - (intOf iv).toNat)
  case atStart=>exact ⟨0,Nat.zero_le _,rfl,fun j _ h=>by omega,rfl⟩
  case round =>
    obtain ⟨k,hk,rfl,hno,rfl⟩:=hrel
    have Hno:=hide hno
    clear hno
    by_cases hlt:k < C.length
    · obtain ⟨b2,off2,rfl,h32,cc0⟩:=RdI.cellI Hoc.out (by simp) (k:=k) (by simpa using hlt)
      rw [List.getElem_map] at cc0
      have hCk:=Hclt.out C[k] (List.getElem_mem hlt)
      obtain ⟨b,off,rfl,h3,hcell⟩:=Hr.out.parts9 (by omega)
      obtain ⟨lv,hat,-⟩:=hcell C[k] hCk
      have c11:=(hat.below hb3 h3).cells.2.2.2.2.2.2.2.2.2.2.2.1
      have HE:=hide (enAt_eq hCk)
      have HY:=hide (fun h=>any_yes (f:=enAt l) hlt h)
      have HN:=hide (fun h=>no_next (f:=enAt l) hlt Hno.out h)
      generalize l[C[k]].en=d at c11 HE
      have hki:(k:Int) < (C.length:Int):=by omega
      have hk0:(0:Int)<=(k:Int):=by omega
      generalize hj:C[k]=j at cc0 c11 hCk HE HY HN
      simp only [ofN] at cc0
      have hji:(j:Int) < (l.length:Int):=by omega
      have hj0:(0:Int)<=(j:Int):=by omega
      clear hj hat hcell Hno
      cases d
      · go_wp2
        go_roundw
        case rel=>exact ⟨k+1,by omega,by go_num,HN.out HE.out,by first | trivial | rfl⟩
        case measure=>simp [intOf];omega
      · go_wp2
        go_ret
        exact ⟨ret_bool (by rw [<- HXa.out,HY.out HE.out]),hb3⟩
    · have HZ:Hid (X=false):=hide (by rw [<- HXa.out];exact any_no (fun j hj=>Hno.out j hj (by omega)))
      go_wp2
      go_ret
      exact ⟨ret_bool HZ.out.symm,hb3⟩
end Go.Proofs.YtohachldbpejpaaGreatDoor
