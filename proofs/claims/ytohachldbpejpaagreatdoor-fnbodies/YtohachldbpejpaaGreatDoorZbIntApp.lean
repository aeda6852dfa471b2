/- Numbers appended to a row of the call's own; rows of numbers turned round, and looked through. -/
import Derived.Test.YtohachldbpejpaaGreatDoorZbTxMarkC
set_option maxRecDepth 20000
set_option maxHeartbeats 2000000
namespace Go.Proofs.YtohachldbpejpaaGreatDoor
open Go.RowKit
set_option linter.unusedVariables false
def mkV (k n:Nat):List Vl:=(List.range n).map (fun i=>(mtx (k+2 * i),((k+2 * i+1:Nat):Int)))
def mkI (k n:Nat):List Int:=(List.range n).map (fun j=>((k+j:Nat):Int))
theorem own_nilS (w:World) (base:Nat) (h:base<=w.heap.size):OwnS base (w.alloc (.cells #[] 9)) (.slice (some ⟨w.heap.size,0,none⟩) 0 0) [] :=
  World.ownsRow_lit w #[] 0 h (by unfold maxLen;omega) (by simp)
theorem own_noneS (w:World) (base:Nat):OwnS base w (.slice none 0 0) []:=World.ownsRow_nil w base _ _
theorem OwnS.alloc {base:Nat} {w:World} {v:Value} {l:List ByteArray} (h:OwnS base w v l) (o:Obj):OwnS base (w.alloc o) v l:=World.ownsRow.alloc h o
theorem app_ownS {ops:Array Oper} {rest:List Oper} {o:Oper} {a:Act} {Q:Exit->Act->World->Prop} (w:World) (hgd:o.guard=none) (s x:Operand)
    (ho:o.op=.call { callee:=.builtin .append,args:=#[s,x],argTypes:=#[42,42] })
    (base:Nat) (v vx:Value) (l k:List ByteArray) (hs:a.eval s=v) (hx:a.eval x=vx) (hown:OwnS base w v l) (hrd:RdS w vx k)
    (hlen:l.length+k.length<=100000000) (hbase:base<=w.heap.size)
    (h:∀ v' w',OwnS base w' v' (l ++ k)->Below base w w'->wpList Tryz.prog ops Q rest (a.put o.dst v') w'):wpList Tryz.prog ops Q (o :: rest) a w:=by
  obtain ⟨i0,hi,hz0,hz1,hz2⟩:=info_parts Tryz.infoStr
  have hbel:∀ w',w.grownBy w' v.ownBlock->Below base w w':=fun w' hg=>(Below.refl _ _).grown hg hbase (fun k hk=>(World.ownsRow.lt hown k hk).1)
  rcases hrd with ⟨ax,cap,rfl,rfl,hnil⟩ | ⟨b,off,cap,h0,rfl,h1,h2,h3,h4⟩
  · cases ax with
    | none =>
      have hc:cap=0:=hnil rfl
      subst hc
      refine wpList_append_own_none hgd s x 42 ho base 9 i0 1 Tryz.underlying42 hi v l.length (l.map Value.string) hs hown hx ?_
      exact h v w (by simpa [OwnS] using hown) (Below.refl _ _)
    | some ad =>
      refine wpList_append_own w hgd s x 42 ho base 9 i0 (.string ByteArray.empty) 1 16 Tryz.underlying42 hi hz0 hz1 hz2 rfl (by decide) v l.length (l.map Value.string) hs hown ad 0 cap [] hx rfl (by intro j u hj;simp at hj) (by intro u hu;simp at hu) (by unfold maxLen;simp at hlen;omega) (by simp at hlen;omega) hbase ?_
      intro v' w' ho' hg _
      exact h v' w' (by simpa [OwnS] using ho') (hbel w' hg)
  · refine wpList_append_own w hgd s x 42 ho base 9 i0 (.string ByteArray.empty) 1 16 Tryz.underlying42 hi hz0 hz1 hz2 rfl (by decide) v l.length (l.map Value.string) hs hown ⟨b,off,none⟩ k.length cap (k.map Value.string) hx (by simp) ?_ ?_ (by unfold maxLen;omega) (by omega) hbase ?_
    · intro j u hj
      have hj':j < k.length:=by have:=(List.getElem?_eq_some_iff.1 hj).1;simpa using this
      have ea:(⟨b,off,none⟩:Addr).add j=⟨b,off+j,none⟩:=by
        by_cases hz:j=0
        · subst hz;simp [Addr.add]
        · simp [Addr.add,hz]
      rw [ea,h4 j hj']
      simp [hj'] at hj
      rw [<- hj]
    · intro u hu
      obtain ⟨c,_,rfl⟩:=List.mem_map.1 hu
      rfl
    · intro v' w' ho' hg _
      exact h v' w' (by simpa [OwnS] using ho') (hbel w' hg)
theorem add_flatT (b off i:Nat):(⟨b,off,none⟩:Addr).add i=⟨b,off+i,none⟩:=by
  simp [Addr.add]
theorem own_nilT (w:World) (base:Nat) (h:base<=w.heap.size):OwnT base (w.alloc (.cells #[] 35)) (.slice (some ⟨w.heap.size,0,none⟩) 0 0) [] :=
  World.ownsRow_lit w #[] 0 h (by unfold maxLen;omega) (by simp)
theorem rdT_cells {w:World} {b off:Nat} {k:List Tx5} (h4:∀ i (h:i < k.length),TxAt w b (off+i * 5) k[i]) :
    ∀ j u,(k.map txC).flatten[j]?=some u->w.cell? ((⟨b,off,none⟩:Addr).add j)=some u:=by
  intro j u hj
  have hjl:j < (k.map txC).flatten.length:=(List.getElem?_eq_some_iff.1 hj).1
  rw [flat_len 5 _ (txM_sz k),List.length_map] at hjl
  have h1:j / 5 < k.length:=by omega
  have h2:j % 5 < 5:=Nat.mod_lt _ (by omega)
  have e:=flat_get 5 (k.map txC) (j / 5) (j % 5) (by simpa using h1) (txM_sz k) h2
  rw [show j / 5 * 5+j % 5=j from by omega,hj,List.getElem_map] at e
  obtain ⟨c0,c1,c2,c3,c4⟩:=h4 (j / 5) h1
  rw [add_flatT,show off+j=off+j / 5 * 5+j % 5 from by omega]
  generalize j % 5=m at e h2
  match m,h2 with
  | 0,_=>rw [Nat.add_zero,c0];simpa [txC] using e.symm
  | 1,_=>rw [c1];simpa [txC] using e.symm
  | 2,_=>rw [c2];simpa [txC] using e.symm
  | 3,_=>rw [c3];simpa [txC] using e.symm
  | 4,_=>rw [c4];simpa [txC] using e.symm
theorem app_ownTs {ops:Array Oper} {rest:List Oper} {o:Oper} {a:Act} {Q:Exit->Act->World->Prop} (w:World) (hgd:o.guard=none) (s x:Operand)
    (ho:o.op=.call { callee:=.builtin .append,args:=#[s,x],argTypes:=#[27,27] })
    (base:Nat) (v vx:Value) (l k:List Tx5) (hs:a.eval s=v) (hx:a.eval x=vx) (hown:OwnT base w v l) (hrd:RdT w vx k)
    (hlen:l.length+k.length<=100000000) (hbase:base<=w.heap.size)
    (h:∀ v' w',OwnT base w' v' (l ++ k)->Below base w w'->wpList Tryz.prog ops Q rest (a.put o.dst v') w'):wpList Tryz.prog ops Q (o :: rest) a w:=by
  obtain ⟨i0,hi,hz0,hz1,hz2⟩:=info_parts Tryz.infoTx
  have hbel:∀ w',w.grownBy w' v.ownBlock->Below base w w':=fun w' hg=>(Below.refl _ _).grown hg hbase (fun k hk=>(World.ownsRow.lt hown k hk).1)
  rcases hrd with ⟨ax,cap,rfl,rfl,hnil⟩ | ⟨b,off,cap,h0,rfl,h1,h2,h3,h4⟩
  · cases ax with
    | none =>
      have hc:cap=0:=hnil rfl
      subst hc
      refine wpList_append_own_none hgd s x 27 ho base 35 i0 5 Tryz.underlying27 hi v l.length (l.map txC).flatten hs hown hx ?_
      exact h v w (by simpa [OwnT] using hown) (Below.refl _ _)
    | some ad =>
      refine wpList_append_own w hgd s x 27 ho base 35 i0 (.agg #[.int .i64 0,.string { data:=#[] },.string { data:=#[] },.int .i64 0,.int .i64 0]) 5 56 Tryz.underlying27 hi hz0 hz1 hz2 rfl (by decide) v l.length (l.map txC).flatten hs hown ad 0 cap [] hx rfl (by intro j u hj;simp at hj) (by intro u hu;simp at hu) (by unfold maxLen;simp at hlen;omega) (by simp at hlen;omega) hbase ?_
      intro v' w' ho' hg _
      exact h v' w' (by simpa [OwnT] using ho') (hbel w' hg)
  · refine wpList_append_own w hgd s x 27 ho base 35 i0 (.agg #[.int .i64 0,.string { data:=#[] },.string { data:=#[] },.int .i64 0,.int .i64 0]) 5 56 Tryz.underlying27 hi hz0 hz1 hz2 rfl (by decide) v l.length (l.map txC).flatten hs hown ⟨b,off,none⟩ k.length cap (k.map txC).flatten hx (by rw [flat_len 5 _ (txM_sz k),List.length_map]) (rdT_cells h4) ?_ (by unfold maxLen;omega) (by omega) hbase ?_
    · intro u hu
      obtain ⟨c,hc,hu⟩:=List.mem_flatten.1 hu
      obtain ⟨p,_,rfl⟩:=List.mem_map.1 hc
      simp only [txC,List.mem_cons,List.not_mem_nil,or_false] at hu
      rcases hu with rfl | rfl | rfl | rfl | rfl <;> rfl
    · intro v' w' ho' hg _
      exact h v' w' (by simpa [OwnT] using ho') (hbel w' hg)
theorem app_ownT1 {ops:Array Oper} {rest:List Oper} {o:Oper} {a:Act} {Q:Exit->Act->World->Prop} (w:World) (hgd:o.guard=none) (s x:Operand)
    (ho:o.op=.call { callee:=.builtin .append,args:=#[s,x],argTypes:=#[27,27] })
    (base:Nat) (v:Value) (B:Nat) (l:List Tx5) (t:Tx5) (hs:a.eval s=v) (hx:a.eval x=.slice (some ⟨B,0,none⟩) 1 1) (hown:OwnT base w v l) (hblk:Blk w B 35 (txC t))
    (hlen:l.length<=100000000) (hbase:base<=w.heap.size)
    (h:∀ v' w',OwnT base w' v' (l ++ [t])->w.grownBy w' v.ownBlock->(v'.ownBlock=v.ownBlock\/v'.ownBlock=some w.heap.size)->wpList Tryz.prog ops Q rest (a.put o.dst v') w'):wpList Tryz.prog ops Q (o :: rest) a w:=by
  obtain ⟨i0,hi,hz0,hz1,hz2⟩:=info_parts Tryz.infoTx
  refine wpList_append_own_at w hgd s x 27 ho base 35 i0 _ 5 56 Tryz.underlying27 hi hz0 hz1 hz2 rfl (by decide) v l.length (l.map txC).flatten hs hown ⟨B,0,none⟩ 1 1 (txC t) hx rfl ?_ ?_ (by unfold maxLen;omega) (by omega) hbase ?_
  · intro j u hj
    rw [add_flatT,Nat.zero_add,hblk.cell j]
    exact hj
  · intro u hu
    simp only [txC,List.mem_cons,List.not_mem_nil,or_false] at hu
    rcases hu with rfl | rfl | rfl | rfl | rfl <;> rfl
  · intro v' w' ho' hg _ hl
    exact h v' w' (by unfold OwnT;rw [List.length_append,List.map_append,List.flatten_append];simpa using ho') hg hl
theorem copiedTxs_any (v:Value) (l:List Tx5) (w:World) (hr:RdT w v l) (hl:l.length<=4000000) :
    Calls Tryz.prog 128 #[v] w fun e w'=>∃ v',e=.returned v'/\OwnT w.heap.size w' v' l/\Below w.heap.size w w':=by
  obtain ⟨a,c,rfl⟩:=hr.shape
  have h1:Below w.heap.size w (w.alloc (.cells #[] 35)):=(Below.refl _ w).alloc (Nat.le_refl _) _
  have Hr:=hide (hr.below h1 (Nat.le_refl _))
  clear hr
  go_enter Tryz.func128,Tryz.ntmps128
  go_wp2_with (at_builtin;refine app_ownTs _ rfl _ _ rfl w.heap.size _ _ [] l rfl rfl (own_nilT w w.heap.size (Nat.le_refl _)) Hr.out (by simp;omega) (by simp) ?_;intro v' w' ho hb)
  go_ret
  exact ⟨v',rfl,ho,h1.trans hb⟩
theorem add_flatI (b off i:Nat):(⟨b,off,none⟩:Addr).add i=⟨b,off+i,none⟩:=by
  by_cases hz:i=0
  · subst hz;simp [Addr.add]
  · simp [Addr.add,hz]
theorem grownS_transI {a b c:World} {r:Option Nat} (h:a.grownBy b r) (k:b.grownBy c r):a.grownBy c r :=
  ⟨k.os.trans h.os,k.tape.trans h.tape,k.output.trans h.output,Nat.le_trans h.size k.size,fun i hi hn=>(k.block i (Nat.lt_of_lt_of_le hi h.size) hn).trans (h.block i hi hn)⟩
theorem grown_drewI {a b:World} {r:Option Nat} (h:a.grownBy b r):a.grownBy b.drew r:=⟨h.os,h.tape,h.output,h.size,h.block⟩
theorem row_drew {base:Nat} {w:World} {e:TypeId} {size:Nat} {v:Value} {n:Nat} {xs:List Value} (h:w.ownsRow base e size v n xs):w.drew.ownsRow base e size v n xs:=row_below h ((Below.refl w.heap.size w).drew) (Nat.le_refl _)
theorem own_nilI (w:World) (base:Nat) (h:base<=w.heap.size):OwnI base (w.alloc (.cells #[] 3)) (.slice (some ⟨w.heap.size,0,none⟩) 0 0) [] :=
  World.ownsRow_lit w #[] 0 h (by unfold maxLen;omega) (by simp)
theorem own_oneI (w:World) (base:Nat) (x:Int) (h:base<=w.heap.size):OwnI base (w.alloc (.cells #[.int .i64 x] 3)) (.slice (some ⟨w.heap.size,0,none⟩) 1 1) [x] :=
  World.ownsRow_lit w #[.int .i64 x] 1 h (by unfold maxLen;omega) (by simp)
theorem rd_oneI {w:World} {g:Nat} {x:Int} (h:Blk w g 3 [.int .i64 x]):RdI w (.slice (some ⟨g,0,none⟩) 1 1) [x]:=by
  refine .inr ⟨g,0,1,by simp,rfl,by simp,by unfold maxLen;omega,h.lt,fun i hi=>?_⟩
  obtain rfl:i=0:=by simpa using hi
  rw [h.cell]
  rfl
theorem app_ownIs {ops:Array Oper} {rest:List Oper} {o:Oper} {a:Act} {Q:Exit->Act->World->Prop} (w:World) (hgd:o.guard=none) (s x:Operand)
    (ho:o.op=.call { callee:=.builtin .append,args:=#[s,x],argTypes:=#[45,45] })
    (base:Nat) (v vx:Value) (l k:List Int) (hs:a.eval s=v) (hx:a.eval x=vx) (hown:OwnI base w v l) (hrd:RdI w vx k)
    (hlen:l.length+k.length<=100000000) (hbase:base<=w.heap.size)
    (h:∀ v' w',OwnI base w' v' (l ++ k)->w.grownBy w' v.ownBlock->Below base w w'->(v'.ownBlock=v.ownBlock\/v'.ownBlock=some w.heap.size)->wpList Tryz.prog ops Q rest (a.put o.dst v') w'):wpList Tryz.prog ops Q (o :: rest) a w:=by
  obtain ⟨i0,hi,hz0,hz1,hz2⟩:=info_parts Tryz.infoI
  have hbel:∀ w',w.grownBy w' v.ownBlock->Below base w w':=fun w' hg=>(Below.refl _ _).grown hg hbase (fun k hk=>(hown.ge k hk))
  rcases hrd with ⟨ax,cap,rfl,rfl,hnil⟩ | ⟨b,off,cap,h0,rfl,h1,h2,h3,h4⟩
  · cases ax with
    | none =>
      have hc:cap=0:=hnil rfl
      subst hc
      refine wpList_append_own_none hgd s x 45 ho base 3 i0 1 Tryz.underlying45 hi v l.length (l.map (Value.int .i64)) hs hown hx ?_
      exact h v w (by simpa [OwnI] using hown) (World.grownBy.refl _ _) (Below.refl _ _) (.inl rfl)
    | some ad =>
      refine wpList_append_own_at w hgd s x 45 ho base 3 i0 (.int .i64 0) 1 8 Tryz.underlying45 hi hz0 hz1 hz2 rfl (by decide) v l.length (l.map (Value.int .i64)) hs hown ad 0 cap [] hx rfl (by intro j u hj;simp at hj) (by intro u hu;simp at hu) (by unfold maxLen;simp at hlen;omega) (by simp at hlen;omega) hbase ?_
      intro v' w' ho' hg _ hl'
      exact h v' w' (by simpa [OwnI] using ho') hg (hbel w' hg) hl'
  · refine wpList_append_own_at w hgd s x 45 ho base 3 i0 (.int .i64 0) 1 8 Tryz.underlying45 hi hz0 hz1 hz2 rfl (by decide) v l.length (l.map (Value.int .i64)) hs hown ⟨b,off,none⟩ k.length cap (k.map (Value.int .i64)) hx (by simp) ?_ ?_ (by unfold maxLen;omega) (by omega) hbase ?_
    · intro j u hj
      obtain ⟨hjl,hj⟩:=List.getElem?_eq_some_iff.1 hj
      simp only [List.length_map] at hjl
      rw [add_flatI,h4 j hjl]
      simpa using hj
    · intro u hu
      obtain ⟨p,_,rfl⟩:=List.mem_map.1 hu
      rfl
    · intro v' w' ho' hg _ hl'
      exact h v' w' (by simpa [OwnI] using ho') hg (hbel w' hg) hl'
def RevP (l X:List Int) (i:Nat):Prop:=X.length=l.length/\∀ t (h:t < l.length) (h2:t < X.length),X[t]=if t < i\/l.length - 1 - t < i then l[l.length - 1 - t] else l[t]
theorem rev_done {l X:List Int} {i:Nat} (h:RevP l X i) (hi:l.length<=2 * i+1):X=l.reverse:=by
  apply List.ext_getElem
  · simp [h.1]
  · intro t h1 h2
    have hl:=h.1
    rw [h.2 t (by omega) h1,List.getElem_reverse]
    split
    · rfl
    · congr 1
      omega
theorem rev_next {l X:List Int} {i:Nat} (h:RevP l X i) (hi:2 * i+1 < l.length):RevP l ((X.set i (X[l.length - 1 - i]'(by rw [h.1];omega))).set (l.length - 1 - i) (X[i]'(by rw [h.1];omega))) (i+1):=by
  have hl:=h.1
  refine ⟨by simp [hl],fun t ht h2=>?_⟩
  simp only [List.getElem_set]
  by_cases e1:l.length - 1 - i=t
  · rw [if_pos e1,if_pos (by omega),h.2 i (by omega) (by omega),if_neg (by omega)]
    congr 1
    omega
  · rw [if_neg e1]
    by_cases e2:i=t
    · rw [if_pos e2,if_pos (by omega),h.2 (l.length - 1 - i) (by omega) (by omega),if_neg (by omega)]
      subst e2
      rfl
    · rw [if_neg e2,h.2 t ht (by simp at h2;omega)]
      by_cases c:t < i\/l.length - 1 - t < i
      · rw [if_pos c,if_pos (by omega)]
      · rw [if_neg c,if_neg (by omega)]
theorem reverseI_any (v:Value) (l:List Int) (base:Nat) (w:World) (ho:OwnI base w v l) (hl:l.length<=4000000) :
    Calls Tryz.prog 215 #[v] w fun e w'=>e=.returned (.tuple #[])/\OwnI base w' v l.reverse/\w.grownBy w' v.ownBlock:=by
  obtain ⟨a,cap,rfl⟩:=ho.rd.shape
  obtain ⟨n,hn⟩:∃ n,l.length=n:=⟨_,rfl⟩
  have Hn:=hide hn
  have Ho:Hid (w.ownsRow base 3 1 (.slice a n cap) n (l.map (Value.int .i64))):=hide (by rw [<- hn];exact ho)
  have Hsh:Hid (0 < n->∃ g,a=some ⟨g,0,none⟩):=hide (fun h=>by
    rcases ho.2 with ⟨hv,h0⟩ | ⟨g,c,u,hv,-⟩
    · omega
    · simp only [Value.slice.injEq] at hv;exact ⟨g,hv.1⟩)
  rw [hn] at hl ⊢
  have Hend:Hid (∀ wr X i,RevP l X i->n<=2 * i+1->wr.ownsRow base 3 1 (.slice a n cap) n (X.map (Value.int .i64))->OwnI base wr (.slice a n cap) l.reverse):=hide (fun wr X i hX hi h=>by
    have e:=rev_done hX (by rw [Hn.out];exact hi)
    unfold OwnI
    rw [<- e,hX.1,Hn.out]
    exact h)
  clear hn ho
  go_enter Tryz.func215,Tryz.ntmps215
  go_wp2
  go_loopw [2,3] (fun iv jv wr=>∃ (i:Nat) (X:List Int),(2 * i<=n+1)/\iv=.int .i64 (i:Int)/\jv=.int .i64 ((n:Int) - 1 - (i:Int))/\RevP l X i/\wr.ownsRow base 3 1 (.slice a n cap) n (X.map (Value.int .i64))/\w.grownBy wr (Value.slice a n cap).ownBlock) (fun iv _ _=>n - (intOf iv).toNat)
  case atStart=>exact ⟨0,l,by omega,rfl,by congr 1;omega,⟨rfl,fun t _ _=>by rw [if_neg (by omega)]⟩,Ho.out,World.grownBy.refl _ _⟩
  case round =>
    obtain ⟨i,X,hi,rfl,rfl,hX,ho,hg⟩:=hrel
    have HX:=hide hX
    have Hg:=hide hg
    have hXl:X.length=n:=by rw [hX.1];exact Hn.out
    clear hX hg Ho
    by_cases hlt:2 * i+1 < n
    · obtain ⟨g,rfl⟩:=Hsh.out (by omega)
      obtain ⟨j,hj⟩:∃ j,n - 1 - i=j:=⟨_,rfl⟩
      have ej:(n:Int) - 1 - (i:Int)=(j:Int):=by omega
      rw [ej]
      have hij:(i:Int) < (j:Int):=by omega
      have hi0:i < X.length:=by omega
      have hj0:j < X.length:=by omega
      have c1:=ho.cellAt i (by omega)
      have c2:=ho.cellAt j (by omega)
      have f1:=ho.frozenAt i
      have f2:=ho.frozenAt j
      rw [List.getElem?_map,List.getElem?_eq_getElem hi0,Option.map_some] at c1
      rw [List.getElem?_map,List.getElem?_eq_getElem hj0,Option.map_some] at c2
      have s1:=ho.stored i (.int .i64 X[j])
      have s2:=s1.1.stored j (.int .i64 X[i])
      have HS:Hid (RevP l ((X.set i X[j]).set j X[i]) (i+1)):=hide (by
        have h:=rev_next HX.out (by rw [Hn.out];exact hlt)
        have e:l.length - 1 - i=j:=by rw [Hn.out];exact hj
        simp only [e] at h
        exact h)
      have Ho:=hide ho
      have hin:(i:Int) < (n:Int):=by omega
      have hjn:(j:Int) < (n:Int):=by omega
      have hii:(0:Int)<=(i:Int):=by omega
      have hjj:(0:Int)<=(j:Int):=by omega
      have hne:i ≠ j:=by omega
      have Hj:=hide hj
      clear ho s1 s2 hj ej hXl
      generalize hxi:X[i]=xi at c1 HS
      generalize hxj:X[j]=xj at c2 HS
      clear hxi hxj
      go_wp2
      go_region
      go_wp2
      have hr1:=(Ho.out.stored i (.int .i64 xj)).1
      have hr2:=(hr1.stored j (.int .i64 xi)).1
      rw [<- List.map_set,<- List.map_set] at hr2
      have HG:=hide (grownS_transI (grownS_transI Hg.out (grown_set wr g i (.int .i64 xj))) (grown_set _ g j (.int .i64 xi)))
      go_roundw
      case rel=>exact ⟨i+1,_,by omega,by congr 1,by have:=Hj.out;congr 1;omega,HS.out,row_drew hr2,grown_drewI HG.out⟩
      case measure=>simp [intOf];omega
    · have ho2:=hide (Hend.out wr X i HX.out (by omega) ho)
      have hle:(n:Int) - 1 - (i:Int)<=(i:Int):=by omega
      clear ho HX
      go_wp2
      refine bodyPost_end (results_none rfl _ _ _) rfl ?_
      exact ⟨rfl,ho2.out,Hg.out⟩
end Go.Proofs.YtohachldbpejpaaGreatDoor
