/- Numbers appended to a row of the call's own; rows of numbers turned round, and looked through. -/
import Derived.Test.YtaidhenkijjcfaaGreatZrClNew
import Derived.Test.YtaidhenkijjcfaaGreatZrNdSz
namespace Go.Proofs.YtaidhenkijjcfaaGreat
open Go.RowKit Go.Sort
set_option linter.unusedVariables false
def faO (L:List Pf) (e:Int) (st:List Vl):Bool:=poO L e && clB e st (poP L e)
def faG (L:List Pf):Nat->Int->List Vl->Nat->Int × List Vl × Nat
  | 0,e,st,k=>(e,st,k)
  | f+1,e,st,k=>if faO L e st=true then faG L f (clE e st (poP L e)) (clS e st (poP L e)) (k+1) else (e,st,k)
def faA (e:Int) (A:List Ac) (L:List Pf):Int × List Vl × Nat:=faG L 1000 (cnA e A).1 (cnA e A).2 0
theorem faG_step (L:List Pf) (k:Nat) (hk:k<=901) (e:Int) (st:List Vl) (j:Nat):faG L (1000 - k) e st j=if faO L e st=true then faG L (1000 - (k+1)) (clE e st (poP L e)) (clS e st (poP L e)) (j+1) else (e,st,j):=by
  rw [show 1000 - k=(1000 - (k+1))+1 by omega]
  rfl
theorem faO_yes {L:List Pf} {e:Int} {st:List Vl} (h1:poO L e=true) (h2:clB e st (poP L e)=true):faO L e st=true:=by unfold faO;rw [h1,h2];rfl
theorem faO_no1 {L:List Pf} {e:Int} {st:List Vl} (h1:poO L e=false):faO L e st=false:=by unfold faO;rw [h1];rfl
theorem faO_no2 {L:List Pf} {e:Int} {st:List Vl} (h2:clB e st (poP L e)=false):faO L e st=false:=by unfold faO;rw [h2,Bool.and_false]
theorem cnA_in (e:Int) (A:List Ac) (h:∀ a ∈ A,a.1.size<=maxLen):∀ q ∈ (cnA e A).2,q.1.size<=maxLen:=by
  unfold cnA
  split
  · intro q hq
    simp only [setV] at hq
    obtain ⟨a,ha,rfl⟩:=List.mem_map.1 hq
    exact h a (List.mem_filter.1 ha).1
  · intro q hq;simp at hq
structure GoodPf (p:Pf):Prop where
  nb:p.bs.length<=4000000
  fb:∀ b ∈ p.bs,FewK b
  tr:∀ b ∈ p.bs,-9223372036854775808<=b.tr/\b.tr<=9223372036854775807
  nw:p.qw.length<=4000000
  sw:∀ s ∈ p.qw,s.size<=maxLen
theorem good_zero:GoodPf poZ:=⟨by simp [poZ],by simp [poZ],by simp [poZ],by simp [poZ],by simp [poZ]⟩
theorem good_of {p:Pf} (h:FewPf p) (hf:FitPf p):GoodPf p:=⟨h.nb,h.fb,trS_of hf.gb,h.nw,hf.gw⟩
theorem faG_len (L:List Pf) (hL:∀ q ∈ L,GoodPf q):∀ (f:Nat) (e:Int) (st:List Vl) (k:Nat),st.length<=4000000->(faG L f e st k).2.1.length<=4000000
  | 0,e,st,k,h=>h
  | f+1,e,st,k,h=>by
    unfold faG
    split
    · exact faG_len L hL f _ _ _ (clS_len h (fun b hb=>((poP_few e GoodPf hL good_zero).fb b hb).n))
    · exact h
end Go.Proofs.YtaidhenkijjcfaaGreat
namespace Go.Proofs.YtaidhenkijjcfaaGreat
open Go.RowKit
set_option linter.unusedVariables false
theorem add_flatI (b off i:Nat):(⟨b,off,none⟩:Addr).add i=⟨b,off+i,none⟩:=by
  by_cases hz:i=0
  · subst hz;simp [Addr.add]
  · simp [Addr.add,hz]
theorem own_nilI (w:World) (base:Nat) (h:base<=w.heap.size):OwnI base (w.alloc (.cells #[] 3)) (.slice (some ⟨w.heap.size,0,none⟩) 0 0) [] :=
  World.ownsRow_lit w #[] 0 h (by unfold maxLen;omega) (by simp)
theorem app_ownIs {ops:Array Oper} {rest:List Oper} {o:Oper} {a:Act} {Q:Exit->Act->World->Prop} (w:World) (hgd:o.guard=none) (s x:Operand)
    (ho:o.op=.call { callee:=.builtin .append,args:=#[s,x],argTypes:=#[52,52] })
    (base:Nat) (v vx:Value) (l k:List Int) (hs:a.eval s=v) (hx:a.eval x=vx) (hown:OwnI base w v l) (hrd:RdI w vx k)
    (hlen:l.length+k.length<=100000000) (hbase:base<=w.heap.size)
    (h:∀ v' w',OwnI base w' v' (l ++ k)->w.grownBy w' v.ownBlock->Below base w w'->(v'.ownBlock=v.ownBlock\/v'.ownBlock=some w.heap.size)->wpList Tryz.prog ops Q rest (a.put o.dst v') w'):wpList Tryz.prog ops Q (o :: rest) a w:=by
  obtain ⟨i0,hi,hz0,hz1,hz2⟩:=info_parts Tryz.infoI
  have hbel:∀ w',w.grownBy w' v.ownBlock->Below base w w':=fun w' hg=>(Below.refl _ _).grown hg hbase (fun k hk=>(hown.ge k hk))
  rcases hrd with ⟨ax,cap,rfl,rfl,hnil⟩ | ⟨b,off,cap,h0,rfl,h1,h2,h3,h4⟩
  · cases ax with
    | none =>
      have hc:cap=0:=hnil rfl
      subst hc
      refine wpList_append_own_none hgd s x 52 ho base 3 i0 1 Tryz.underlying52 hi v l.length (l.map (Value.int .i64)) hs hown hx ?_
      exact h v w (by simpa [OwnI] using hown) (World.grownBy.refl _ _) (Below.refl _ _) (.inl rfl)
    | some ad =>
      refine wpList_append_own_at w hgd s x 52 ho base 3 i0 (.int .i64 0) 1 8 Tryz.underlying52 hi hz0 hz1 hz2 rfl (by decide) v l.length (l.map (Value.int .i64)) hs hown ad 0 cap [] hx rfl (by intro j u hj;simp at hj) (by intro u hu;simp at hu) (by unfold maxLen;simp at hlen;omega) (by simp at hlen;omega) hbase ?_
      intro v' w' ho' hg _ hl'
      exact h v' w' (by simpa [OwnI] using ho') hg (hbel w' hg) hl'
  · refine wpList_append_own_at w hgd s x 52 ho base 3 i0 (.int .i64 0) 1 8 Tryz.underlying52 hi hz0 hz1 hz2 rfl (by decide) v l.length (l.map (Value.int .i64)) hs hown ⟨b,off,none⟩ k.length cap (k.map (Value.int .i64)) hx (by simp) ?_ ?_ (by unfold maxLen;omega) (by omega) hbase ?_
    · intro j u hj
      obtain ⟨hjl,hj⟩:=List.getElem?_eq_some_iff.1 hj
      simp only [List.length_map] at hjl
      rw [add_flatI,h4 j hjl]
      simpa using hj
    · intro u hu
      obtain ⟨p,_,rfl⟩:=List.mem_map.1 hu
      rfl
    · intro v' w' ho' hg _ hl'
      exact h v' w' (by simpa [OwnI] using ho') hg (hbel w' hg) hl'
end Go.Proofs.YtaidhenkijjcfaaGreat
