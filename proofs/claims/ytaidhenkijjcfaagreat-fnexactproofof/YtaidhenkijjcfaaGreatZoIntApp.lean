/- Numbers appended to a row of the call's own; rows of numbers turned round, and looked through. -/
import Derived.Test.YtaidhenkijjcfaaGreatZoNdMem
import Derived.Test.YtaidhenkijjcfaaGreatZoLdMid
namespace Go.Proofs.YtaidhenkijjcfaaGreat
open Go.RowKit
set_option linter.unusedVariables false
def pfF (l:List Pf) (e:Int):Option Pf:=l.find? (fun q=>decide (q.ep=e))
def poZ:Pf:=⟨0,[],0,0,[]⟩
def poY:Pv:=⟨.slice none 0 0,.slice none 0 0⟩
def poP (l:List Pf) (e:Int):Pf:=(pfF l e).getD poZ
def poO (l:List Pf) (e:Int):Bool:=(pfF l e).isSome
theorem pfF_at (l:List Pf) (e:Int) (k:Nat) (hk:k < l.length) (he:l[k].ep=e) (hn:∀ j (h:j < l.length),j < k->¬ l[j].ep=e):pfF l e=some l[k] :=
  List.find?_eq_some_iff_getElem.2 ⟨by simp [he],k,hk,rfl,fun j hj=>by simp [hn j (by omega) hj]⟩
theorem pfF_none (l:List Pf) (e:Int) (hn:∀ j (h:j < l.length),¬ l[j].ep=e):pfF l e=none :=
  List.find?_eq_none.2 (fun x hx=>by obtain ⟨j,hj,rfl⟩:=List.mem_iff_getElem.1 hx;simp [hn j hj])
theorem pfF_mem {l:List Pf} {e:Int} {q:Pf} (h:pfF l e=some q):q ∈ l/\q.ep=e:=⟨List.mem_of_find?_eq_some h,by have:=List.find?_some h;simpa using this⟩
theorem poP_few {l:List Pf} (e:Int) (P:Pf->Prop) (h:∀ q ∈ l,P q) (hz:P poZ):P (poP l e):=by
  unfold poP
  cases hf:pfF l e with
  | none=>exact hz
  | some q=>exact h q (pfF_mem hf).1
theorem RdPs.atP {w:World} {a:Option Addr} {cap n:Nat} {l:List Pf} (h:RdPs w (.slice a n cap) l) (hl:0 < l.length):∃ b off,a=some ⟨b,off,none⟩/\b < w.heap.size/\∀ i (h:i < l.length),∃ u,w.rangeAt b (off+i * 5) (pfC l[i] u)/\RdPf w l[i] u:=by
  obtain ⟨Z,rfl,h⟩:=h
  rcases h with ⟨a',cap',e,rfl,hn⟩ | ⟨b,off,cap',h0,e,h1,h2,h3,h4⟩
  · simp at hl
  · simp only [Value.slice.injEq] at e
    refine ⟨b,off,e.1,h3,fun i hi=>?_⟩
    have hi':i < Z.length:=by simpa using hi
    refine ⟨Z[i].2,?_,?_⟩
    · simpa using (h4 i hi').1
    · simpa using (h4 i hi').2
theorem rdPf_zero (w:World):RdPf w poZ poY:=⟨.inl ⟨none,0,rfl,rfl,fun _=>rfl⟩,.inl ⟨none,0,rfl,rfl,fun _=>rfl⟩⟩
theorem add_flatI (b off i:Nat):(⟨b,off,none⟩:Addr).add i=⟨b,off+i,none⟩:=by
  by_cases hz:i=0
  · subst hz;simp [Addr.add]
  · simp [Addr.add,hz]
theorem own_nilI (w:World) (base:Nat) (h:base<=w.heap.size):OwnI base (w.alloc (.cells #[] 3)) (.slice (some ⟨w.heap.size,0,none⟩) 0 0) [] :=
  World.ownsRow_lit w #[] 0 h (by unfold maxLen;omega) (by simp)
theorem app_ownIs {ops:Array Oper} {rest:List Oper} {o:Oper} {a:Act} {Q:Exit->Act->World->Prop} (w:World) (hgd:o.guard=none) (s x:Operand)
    (ho:o.op=.call { callee:=.builtin .append,args:=#[s,x],argTypes:=#[52,52] })
    (base:Nat) (v vx:Value) (l k:List Int) (hs:a.eval s=v) (hx:a.eval x=vx) (hown:OwnI base w v l) (hrd:RdI w vx k)
    (hlen:l.length+k.length<=100000000) (hbase:base<=w.heap.size)
    (h:∀ v' w',OwnI base w' v' (l ++ k)->w.grownBy w' v.ownBlock->Below base w w'->(v'.ownBlock=v.ownBlock\/v'.ownBlock=some w.heap.size)->wpList Tryz.prog ops Q rest (a.put o.dst v') w'):wpList Tryz.prog ops Q (o :: rest) a w:=by
  obtain ⟨i0,hi,hz0,hz1,hz2⟩:=info_parts Tryz.infoI
  have hbel:∀ w',w.grownBy w' v.ownBlock->Below base w w':=fun w' hg=>(Below.refl _ _).grown hg hbase (fun k hk=>(hown.ge k hk))
  rcases hrd with ⟨ax,cap,rfl,rfl,hnil⟩ | ⟨b,off,cap,h0,rfl,h1,h2,h3,h4⟩
  · cases ax with
    | none =>
      have hc:cap=0:=hnil rfl
      subst hc
      refine wpList_append_own_none hgd s x 52 ho base 3 i0 1 Tryz.underlying52 hi v l.length (l.map (Value.int .i64)) hs hown hx ?_
      exact h v w (by simpa [OwnI] using hown) (World.grownBy.refl _ _) (Below.refl _ _) (.inl rfl)
    | some ad =>
      refine wpList_append_own_at w hgd s x 52 ho base 3 i0 (.int .i64 0) 1 8 Tryz.underlying52 hi hz0 hz1 hz2 rfl (by decide) v l.length (l.map (Value.int .i64)) hs hown ad 0 cap [] hx rfl (by intro j u hj;simp at hj) (by intro u hu;simp at hu) (by unfold maxLen;simp at hlen;omega) (by simp at hlen;omega) hbase ?_
      intro v' w' ho' hg _ hl'
      exact h v' w' (by simpa [OwnI] using ho') hg (hbel w' hg) hl'
  · refine wpList_append_own_at w hgd s x 52 ho base 3 i0 (.int .i64 0) 1 8 Tryz.underlying52 hi hz0 hz1 hz2 rfl (by decide) v l.length (l.map (Value.int .i64)) hs hown ⟨b,off,none⟩ k.length cap (k.map (Value.int .i64)) hx (by simp) ?_ ?_ (by unfold maxLen;omega) (by omega) hbase ?_
    · intro j u hj
      obtain ⟨hjl,hj⟩:=List.getElem?_eq_some_iff.1 hj
      simp only [List.length_map] at hjl
      rw [add_flatI,h4 j hjl]
      simpa using hj
    · intro u hu
      obtain ⟨p,_,rfl⟩:=List.mem_map.1 hu
      rfl
    · intro v' w' ho' hg _ hl'
      exact h v' w' (by simpa [OwnI] using ho') hg (hbel w' hg) hl'
end Go.Proofs.YtaidhenkijjcfaaGreat
