/- Quorums, on both sides, where the weights are small. -/
import Derived.Test.YtaidhenkijjcfaaGreatZoVsMem
namespace Go.Proofs.YtaidhenkijjcfaaGreat
open Go.RowKit
set_option linter.unusedVariables false
theorem add_flatV (b off i:Nat):(⟨b,off,none⟩:Addr).add i=⟨b,off+i,none⟩:=by
  by_cases hz:i=0
  · subst hz;simp [Addr.add]
  · simp [Addr.add,hz]
theorem own_nilV (w:World) (base:Nat) (h:base<=w.heap.size):OwnV base (w.alloc (.cells #[] 100)) (.slice (some ⟨w.heap.size,0,none⟩) 0 0) [] :=
  World.ownsRow_lit w #[] 0 h (by unfold maxLen;omega) (by simp)
theorem rdV_cells {w:World} {b off:Nat} {k:List Vl} (h4:∀ i (h:i < k.length),w.cell? ⟨b,off+i * 2,none⟩=some (.string k[i].1)/\w.cell? ⟨b,off+i * 2+1,none⟩=some (.int .i64 k[i].2)) :
    ∀ j u,(k.map vlC).flatten[j]?=some u->w.cell? ((⟨b,off,none⟩:Addr).add j)=some u:=by
  intro j u hj
  have hjl:j < (k.map vlC).flatten.length:=(List.getElem?_eq_some_iff.1 hj).1
  rw [flat_len 2 _ (vlM_sz k),List.length_map] at hjl
  have hi:j / 2 < k.length:=by omega
  have e:=flat_get 2 (k.map vlC) (j / 2) (j % 2) (by simpa using hi) (vlM_sz k) (by omega)
  rw [show j / 2 * 2+j % 2=j from by omega] at e
  rw [e] at hj
  rw [add_flatV]
  rcases Nat.mod_two_eq_zero_or_one j with h | h
  · rw [h] at hj
    rw [show off+j=off+j / 2 * 2 from by omega,(h4 (j / 2) hi).1]
    simpa [vlC] using hj
  · rw [h] at hj
    rw [show off+j=off+j / 2 * 2+1 from by omega,(h4 (j / 2) hi).2]
    simpa [vlC] using hj
theorem app_ownV {ops:Array Oper} {rest:List Oper} {o:Oper} {a:Act} {Q:Exit->Act->World->Prop} (w:World) (hgd:o.guard=none) (s x:Operand)
    (ho:o.op=.call { callee:=.builtin .append,args:=#[s,x],argTypes:=#[33,33] })
    (base:Nat) (v vx:Value) (l k:List Vl) (hs:a.eval s=v) (hx:a.eval x=vx) (hown:OwnV base w v l) (hrd:RdV w vx k)
    (hlen:l.length+k.length<=100000000) (hbase:base<=w.heap.size)
    (h:∀ v' w',OwnV base w' v' (l ++ k)->w.grownBy w' v.ownBlock->Below base w w'->wpList Tryz.prog ops Q rest (a.put o.dst v') w'):wpList Tryz.prog ops Q (o :: rest) a w:=by
  obtain ⟨i0,hi,hz0,hz1,hz2⟩:=info_parts Tryz.infoVl
  have hbel:∀ w',w.grownBy w' v.ownBlock->Below base w w':=fun w' hg=>(Below.refl _ _).grown hg hbase (fun k hk=>(hown.ge k hk))
  rcases hrd with ⟨ax,cap,rfl,rfl,hnil⟩ | ⟨b,off,cap,h0,rfl,h1,h2,h3,h4⟩
  · cases ax with
    | none =>
      have hc:cap=0:=hnil rfl
      subst hc
      refine wpList_append_own_none hgd s x 33 ho base 100 i0 2 Tryz.underlying33 hi v l.length (l.map vlC).flatten hs hown hx ?_
      exact h v w (by simpa [OwnV] using hown) (World.grownBy.refl _ _) (Below.refl _ _)
    | some ad =>
      refine wpList_append_own w hgd s x 33 ho base 100 i0 (.agg #[.string { data:=#[] },.int .i64 0]) 2 24 Tryz.underlying33 hi hz0 hz1 hz2 rfl (by decide) v l.length (l.map vlC).flatten hs hown ad 0 cap [] hx rfl (by intro j u hj;simp at hj) (by intro u hu;simp at hu) (by unfold maxLen;simp at hlen;omega) (by simp at hlen;omega) hbase ?_
      intro v' w' ho' hg _
      exact h v' w' (by simpa [OwnV] using ho') hg (hbel w' hg)
  · refine wpList_append_own w hgd s x 33 ho base 100 i0 (.agg #[.string { data:=#[] },.int .i64 0]) 2 24 Tryz.underlying33 hi hz0 hz1 hz2 rfl (by decide) v l.length (l.map vlC).flatten hs hown ⟨b,off,none⟩ k.length cap (k.map vlC).flatten hx (by rw [flat_len 2 _ (vlM_sz k),List.length_map]) (rdV_cells h4) ?_ (by unfold maxLen;omega) (by omega) hbase ?_
    · intro u hu
      obtain ⟨c,hc,hu⟩:=List.mem_flatten.1 hu
      obtain ⟨p,_,rfl⟩:=List.mem_map.1 hc
      simp only [vlC,List.mem_cons,List.not_mem_nil,or_false] at hu
      rcases hu with rfl | rfl <;> rfl
    · intro v' w' ho' hg _
      exact h v' w' (by simpa [OwnV] using ho') hg (hbel w' hg)
def sumV (f:Vl->Int) (l:List Vl):Int:=l.foldl (fun s p=>wrap64 (s+f p)) 0
def hasN (ns:List ByteArray) (s:ByteArray):Bool:=ns.any (fun t=>decide (t=s))
def wtN (ns:List ByteArray) (p:Vl):Int:=if hasN ns p.1=true then p.2 else 0
def weightV (l:List Vl) (ns:List ByteArray):Int:=sumV (wtN ns) l
def totalV (l:List Vl):Int:=sumV (·.2) l
def leadV (l:List Vl) (r:Int):ByteArray:=if l.length=0\/r < 0 then ByteArray.empty else (l.getD (r.toNat % l.length) (ByteArray.empty,0)).1
end Go.Proofs.YtaidhenkijjcfaaGreat
