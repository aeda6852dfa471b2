/- Appending to texts of the call's own. -/
import Derived.Test.YtaidhenkijjcfaaGreatZrBkVal
set_option maxRecDepth 20000
namespace Go.Proofs.YtaidhenkijjcfaaGreat
open Go.RowKit
set_option linter.unusedVariables false
theorem add_flatT (b off i:Nat):(⟨b,off,none⟩:Addr).add i=⟨b,off+i,none⟩:=by
  simp [Addr.add]
theorem own_nilT (w:World) (base:Nat) (h:base<=w.heap.size):OwnT base (w.alloc (.cells #[] 177)) (.slice (some ⟨w.heap.size,0,none⟩) 0 0) [] :=
  World.ownsRow_lit w #[] 0 h (by unfold maxLen;omega) (by simp)
theorem rdT_cells {w:World} {b off:Nat} {k:List Tx5} (h4:∀ i (h:i < k.length),TxAt w b (off+i * 5) k[i]) :
    ∀ j u,(k.map txC).flatten[j]?=some u->w.cell? ((⟨b,off,none⟩:Addr).add j)=some u:=by
  intro j u hj
  have hjl:j < (k.map txC).flatten.length:=(List.getElem?_eq_some_iff.1 hj).1
  rw [flat_len 5 _ (txM_sz k),List.length_map] at hjl
  have h1:j / 5 < k.length:=by omega
  have h2:j % 5 < 5:=Nat.mod_lt _ (by omega)
  have e:=flat_get 5 (k.map txC) (j / 5) (j % 5) (by simpa using h1) (txM_sz k) h2
  rw [show j / 5 * 5+j % 5=j from by omega,hj,List.getElem_map] at e
  obtain ⟨c0,c1,c2,c3,c4⟩:=h4 (j / 5) h1
  rw [add_flatT,show off+j=off+j / 5 * 5+j % 5 from by omega]
  generalize j % 5=m at e h2
  match m,h2 with
  | 0,_=>rw [Nat.add_zero,c0];simpa [txC] using e.symm
  | 1,_=>rw [c1];simpa [txC] using e.symm
  | 2,_=>rw [c2];simpa [txC] using e.symm
  | 3,_=>rw [c3];simpa [txC] using e.symm
  | 4,_=>rw [c4];simpa [txC] using e.symm
theorem app_ownTs {ops:Array Oper} {rest:List Oper} {o:Oper} {a:Act} {Q:Exit->Act->World->Prop} (w:World) (hgd:o.guard=none) (s x:Operand)
    (ho:o.op=.call { callee:=.builtin .append,args:=#[s,x],argTypes:=#[70,70] })
    (base:Nat) (v vx:Value) (l k:List Tx5) (hs:a.eval s=v) (hx:a.eval x=vx) (hown:OwnT base w v l) (hrd:RdT w vx k)
    (hlen:l.length+k.length<=100000000) (hbase:base<=w.heap.size)
    (h:∀ v' w',OwnT base w' v' (l ++ k)->Below base w w'->wpList Tryz.prog ops Q rest (a.put o.dst v') w'):wpList Tryz.prog ops Q (o :: rest) a w:=by
  obtain ⟨i0,hi,hz0,hz1,hz2⟩:=info_parts Tryz.infoTx
  have hbel:∀ w',w.grownBy w' v.ownBlock->Below base w w':=fun w' hg=>(Below.refl _ _).grown hg hbase (fun k hk=>(World.ownsRow.lt hown k hk).1)
  rcases hrd with ⟨ax,cap,rfl,rfl,hnil⟩ | ⟨b,off,cap,h0,rfl,h1,h2,h3,h4⟩
  · cases ax with
    | none =>
      have hc:cap=0:=hnil rfl
      subst hc
      refine wpList_append_own_none hgd s x 70 ho base 177 i0 5 Tryz.underlying70 hi v l.length (l.map txC).flatten hs hown hx ?_
      exact h v w (by simpa [OwnT] using hown) (Below.refl _ _)
    | some ad =>
      refine wpList_append_own w hgd s x 70 ho base 177 i0 (.agg #[.int .i64 0,.string { data:=#[] },.string { data:=#[] },.int .i64 0,.int .i64 0]) 5 56 Tryz.underlying70 hi hz0 hz1 hz2 rfl (by decide) v l.length (l.map txC).flatten hs hown ad 0 cap [] hx rfl (by intro j u hj;simp at hj) (by intro u hu;simp at hu) (by unfold maxLen;simp at hlen;omega) (by simp at hlen;omega) hbase ?_
      intro v' w' ho' hg _
      exact h v' w' (by simpa [OwnT] using ho') (hbel w' hg)
  · refine wpList_append_own w hgd s x 70 ho base 177 i0 (.agg #[.int .i64 0,.string { data:=#[] },.string { data:=#[] },.int .i64 0,.int .i64 0]) 5 56 Tryz.underlying70 hi hz0 hz1 hz2 rfl (by decide) v l.length (l.map txC).flatten hs hown ⟨b,off,none⟩ k.length cap (k.map txC).flatten hx (by rw [flat_len 5 _ (txM_sz k),List.length_map]) (rdT_cells h4) ?_ (by unfold maxLen;omega) (by omega) hbase ?_
    · intro u hu
      obtain ⟨c,hc,hu⟩:=List.mem_flatten.1 hu
      obtain ⟨p,_,rfl⟩:=List.mem_map.1 hc
      simp only [txC,List.mem_cons,List.not_mem_nil,or_false] at hu
      rcases hu with rfl | rfl | rfl | rfl | rfl <;> rfl
    · intro v' w' ho' hg _
      exact h v' w' (by simpa [OwnT] using ho') (hbel w' hg)
theorem copiedTxs_any (v:Value) (l:List Tx5) (w:World) (hr:RdT w v l) (hl:l.length<=4000000) :
    Calls Tryz.prog 163 #[v] w fun e w'=>∃ v',e=.returned v'/\OwnT w.heap.size w' v' l/\Below w.heap.size w w':=by
  obtain ⟨a,c,rfl⟩:=hr.shape
  have h1:Below w.heap.size w (w.alloc (.cells #[] 177)):=(Below.refl _ w).alloc (Nat.le_refl _) _
  have Hr:=hide (hr.below h1 (Nat.le_refl _))
  clear hr
  go_enter Tryz.func163,Tryz.ntmps163
  go_wp2_with (at_builtin;refine app_ownTs _ rfl _ _ rfl w.heap.size _ _ [] l rfl rfl (own_nilT w w.heap.size (Nat.le_refl _)) Hr.out (by simp;omega) (by simp) ?_;intro v' w' ho hb)
  go_ret
  exact ⟨v',rfl,ho,h1.trans hb⟩
theorem own_nilS (w:World) (base:Nat) (h:base<=w.heap.size):OwnS base (w.alloc (.cells #[] 9)) (.slice (some ⟨w.heap.size,0,none⟩) 0 0) [] :=
  World.ownsRow_lit w #[] 0 h (by unfold maxLen;omega) (by simp)
theorem app_ownS {ops:Array Oper} {rest:List Oper} {o:Oper} {a:Act} {Q:Exit->Act->World->Prop} (w:World) (hgd:o.guard=none) (s x:Operand)
    (ho:o.op=.call { callee:=.builtin .append,args:=#[s,x],argTypes:=#[26,26] })
    (base:Nat) (v vx:Value) (l k:List ByteArray) (hs:a.eval s=v) (hx:a.eval x=vx) (hown:OwnS base w v l) (hrd:RdS w vx k)
    (hlen:l.length+k.length<=100000000) (hbase:base<=w.heap.size)
    (h:∀ v' w',OwnS base w' v' (l ++ k)->Below base w w'->wpList Tryz.prog ops Q rest (a.put o.dst v') w'):wpList Tryz.prog ops Q (o :: rest) a w:=by
  obtain ⟨i0,hi,hz0,hz1,hz2⟩:=info_parts Tryz.infoStr
  have hbel:∀ w',w.grownBy w' v.ownBlock->Below base w w':=fun w' hg=>(Below.refl _ _).grown hg hbase (fun k hk=>(World.ownsRow.lt hown k hk).1)
  rcases hrd with ⟨ax,cap,rfl,rfl,hnil⟩ | ⟨b,off,cap,h0,rfl,h1,h2,h3,h4⟩
  · cases ax with
    | none =>
      have hc:cap=0:=hnil rfl
      subst hc
      refine wpList_append_own_none hgd s x 26 ho base 9 i0 1 Tryz.underlying26 hi v l.length (l.map Value.string) hs hown hx ?_
      exact h v w (by simpa [OwnS] using hown) (Below.refl _ _)
    | some ad =>
      refine wpList_append_own w hgd s x 26 ho base 9 i0 (.string ByteArray.empty) 1 16 Tryz.underlying26 hi hz0 hz1 hz2 rfl (by decide) v l.length (l.map Value.string) hs hown ad 0 cap [] hx rfl (by intro j u hj;simp at hj) (by intro u hu;simp at hu) (by unfold maxLen;simp at hlen;omega) (by simp at hlen;omega) hbase ?_
      intro v' w' ho' hg _
      exact h v' w' (by simpa [OwnS] using ho') (hbel w' hg)
  · refine wpList_append_own w hgd s x 26 ho base 9 i0 (.string ByteArray.empty) 1 16 Tryz.underlying26 hi hz0 hz1 hz2 rfl (by decide) v l.length (l.map Value.string) hs hown ⟨b,off,none⟩ k.length cap (k.map Value.string) hx (by simp) ?_ ?_ (by unfold maxLen;omega) (by omega) hbase ?_
    · intro j u hj
      have hj':j < k.length:=by have:=(List.getElem?_eq_some_iff.1 hj).1;simpa using this
      have ea:(⟨b,off,none⟩:Addr).add j=⟨b,off+j,none⟩:=by
        by_cases hz:j=0
        · subst hz;simp [Addr.add]
        · simp [Addr.add,hz]
      rw [ea,h4 j hj']
      simp [hj'] at hj
      rw [<- hj]
    · intro u hu
      obtain ⟨c,_,rfl⟩:=List.mem_map.1 hu
      rfl
    · intro v' w' ho' hg _
      exact h v' w' (by simpa [OwnS] using ho') (hbel w' hg)
end Go.Proofs.YtaidhenkijjcfaaGreat
