/- Numbers appended to a row of the call's own; rows of numbers turned round, and looked through. -/
import Derived.Test.YtfdbedenlbikgaaZlCtVal
import Derived.Laws.AppendOwnNone
import Derived.Maps.AppendAt
namespace Go.Proofs.Ytfdbedenlbikgaa
open Go.RowKit
set_option linter.unusedVariables false
theorem add_flatI (b off i:Nat):(⟨b,off,none⟩:Addr).add i=⟨b,off+i,none⟩:=by
  by_cases hz:i=0
  · subst hz;simp [Addr.add]
  · simp [Addr.add,hz]
theorem rd_oneI {w:World} {g:Nat} {x:Int} (h:Blk w g 3 [.int .i64 x]):RdI w (.slice (some ⟨g,0,none⟩) 1 1) [x]:=by
  refine .inr ⟨g,0,1,by simp,rfl,by simp,by unfold maxLen;omega,h.lt,fun i hi=>?_⟩
  obtain rfl:i=0:=by simpa using hi
  rw [h.cell]
  rfl
theorem app_ownIs {ops:Array Oper} {rest:List Oper} {o:Oper} {a:Act} {Q:Exit->Act->World->Prop} (w:World) (hgd:o.guard=none) (s x:Operand)
    (ho:o.op=.call { callee:=.builtin .append,args:=#[s,x],argTypes:=#[55,55] })
    (base:Nat) (v vx:Value) (l k:List Int) (hs:a.eval s=v) (hx:a.eval x=vx) (hown:OwnI base w v l) (hrd:RdI w vx k)
    (hlen:l.length+k.length<=100000000) (hbase:base<=w.heap.size)
    (h:∀ v' w',OwnI base w' v' (l ++ k)->w.grownBy w' v.ownBlock->Below base w w'->(v'.ownBlock=v.ownBlock\/v'.ownBlock=some w.heap.size)->wpList Try.prog ops Q rest (a.put o.dst v') w'):wpList Try.prog ops Q (o :: rest) a w:=by
  obtain ⟨i0,hi,hz0,hz1,hz2⟩:=info_parts Try.infoI
  have hbel:∀ w',w.grownBy w' v.ownBlock->Below base w w':=fun w' hg=>(Below.refl _ _).grown hg hbase (fun k hk=>(hown.ge k hk))
  rcases hrd with ⟨ax,cap,rfl,rfl,hnil⟩ | ⟨b,off,cap,h0,rfl,h1,h2,h3,h4⟩
  · cases ax with
    | none =>
      have hc:cap=0:=hnil rfl
      subst hc
      refine wpList_append_own_none hgd s x 55 ho base 3 i0 1 Try.underlying55 hi v l.length (l.map (Value.int .i64)) hs hown hx ?_
      exact h v w (by simpa [OwnI] using hown) (World.grownBy.refl _ _) (Below.refl _ _) (.inl rfl)
    | some ad =>
      refine wpList_append_own_at w hgd s x 55 ho base 3 i0 (.int .i64 0) 1 8 Try.underlying55 hi hz0 hz1 hz2 rfl (by decide) v l.length (l.map (Value.int .i64)) hs hown ad 0 cap [] hx rfl (by intro j u hj;simp at hj) (by intro u hu;simp at hu) (by unfold maxLen;simp at hlen;omega) (by simp at hlen;omega) hbase ?_
      intro v' w' ho' hg _ hl'
      exact h v' w' (by simpa [OwnI] using ho') hg (hbel w' hg) hl'
  · refine wpList_append_own_at w hgd s x 55 ho base 3 i0 (.int .i64 0) 1 8 Try.underlying55 hi hz0 hz1 hz2 rfl (by decide) v l.length (l.map (Value.int .i64)) hs hown ⟨b,off,none⟩ k.length cap (k.map (Value.int .i64)) hx (by simp) ?_ ?_ (by unfold maxLen;omega) (by omega) hbase ?_
    · intro j u hj
      obtain ⟨hjl,hj⟩:=List.getElem?_eq_some_iff.1 hj
      simp only [List.length_map] at hjl
      rw [add_flatI,h4 j hjl]
      simpa using hj
    · intro u hu
      obtain ⟨p,_,rfl⟩:=List.mem_map.1 hu
      rfl
    · intro v' w' ho' hg _ hl'
      exact h v' w' (by simpa [OwnI] using ho') hg (hbel w' hg) hl'
end Go.Proofs.Ytfdbedenlbikgaa
