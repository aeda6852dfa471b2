/- Appending to rows of those who vote within a region that draws. -/
import Derived.Test.YtaidhenkijjcfaaGreatZrLgSpec
import Derived.Test.YtaidhenkijjcfaaGreatZrAcImpl2
set_option maxRecDepth 20000
set_option maxHeartbeats 1000000
namespace Go.Proofs.YtaidhenkijjcfaaGreat
open Go.RowKit
set_option linter.unusedVariables false
theorem implLedgerOk_any (e:Int) (v:Value) (l:List Ac) (w:World) (hr:RdA w v l) (hl:l.length<=4000000) (hall:∀ a ∈ l,a.1.size<=maxLen/\a.2.2.2.2.length<=4000000) :
    Calls Tryz.prog 129 #[lgV e v] w fun en w'=>en=.returned (.bool (lgB e l))/\Below w.heap.size w w':=by
  obtain ⟨a1,cv1,rfl⟩:=hr.shape
  simp only [lgV] at *
  have hb3:Below w.heap.size w (w.alloc (.cells #[.int .i64 e,.slice a1 l.length cv1] 66)):=(Below.refl _ w).alloc (Nat.le_refl _) _
  have HE:=hide (implAcctsOk_any _ l _ (hr.below hb3 (Nat.le_refl _)) hl hall)
  have Hb3:=hide hb3
  have Hx:Hid (lgB e l=(inB e 0 900 && acsB l)):=hide rfl
  clear hb3 hr hall
  generalize lgB e l=X at Hx
  generalize acsB l=A at Hx HE
  cases h0:inB e 0 900
  · rw [h0,Bool.false_and] at Hx
    go_enter Tryz.func129,Tryz.ntmps129
    go_wp2_with (go_at_call 140;refine (implWithin_any _ _ _ _).mono ?_;rintro en w1 ⟨rfl,rfl⟩)
    go_ret
    exact ⟨ret_bool Hx.out.symm,Hb3.out⟩
  · rw [h0,Bool.true_and] at Hx
    go_enter Tryz.func129,Tryz.ntmps129
    go_wp2_with (first
      | (go_at_call 140;refine (implWithin_any _ _ _ _).mono ?_;rintro en w1 ⟨rfl,rfl⟩)
      | (go_at_call 149;refine HE.out.mono ?_;rintro en w2 ⟨rfl,hb2⟩))
    go_ret
    exact ⟨ret_bool Hx.out.symm,Hb3.out.trans (hb2.mono Hb3.out.size)⟩
theorem Blk.drewV {W:World} {B:Nat} {t:TypeId} {cs:List Value} (h:Blk W B t cs):Blk W.drew B t cs:=h
theorem Blk.newV (W:World) (t:TypeId) (cs:List Value) (n:Nat) (h:n=W.heap.size):Blk (W.alloc (.cells cs.toArray t)) n t cs:=by subst h;exact Blk.new W t cs
theorem OwnV.drew {base:Nat} {w:World} {v:Value} {l:List Vl} (h:OwnV base w v l):OwnV base w.drew v l:=h.below (Below.refl _ w).drew (Nat.le_refl _)
theorem step_appV {ops:Array Oper} {o:Oper} {a:Act} {w:World} {K:Act->World->Prop} {Q:Exit->Act->World->Prop} {E:Prop} (hgd:o.guard=none) (s x:Operand)
    (ho:o.op=.call { callee:=.builtin .append,args:=#[s,x],argTypes:=#[33,33] })
    (base:Nat) (v:Value) (B:Nat) (l:List Vl) (p:Vl) (hs:a.eval s=v) (hx:a.eval x=.slice (some ⟨B,0,none⟩) 1 1) (hown:OwnV base w v l) (hblk:Blk w B 100 (vlC p))
    (hlen:l.length<=100000000) (hbase:base<=w.heap.size)
    (h:∀ v' w',OwnV base w' v' (l ++ [p])->Below base w w'->K (a.put o.dst v') w'):if Region.wanted o (yielded ops a.tmps)=true then Oper.wp Tryz.prog o a w K Q else E:=by
  have hw:Region.wanted o (yielded ops a.tmps)=true:=by simp [Region.wanted,hgd]
  rw [if_pos hw]
  obtain ⟨i0,hi,hz0,hz1,hz2⟩:=info_parts Tryz.infoVl
  have hbel:∀ w',w.grownBy w' v.ownBlock->Below base w w':=fun w' hg=>(Below.refl _ _).grown hg hbase (fun k hk=>(hown.ge k hk))
  refine wp_append_own w s x 33 ho base 100 i0 (.agg #[.string { data:=#[] },.int .i64 0]) 2 24 Tryz.underlying33 hi hz0 hz1 hz2 rfl (by decide) v l.length (l.map vlC).flatten hs hown ⟨B,0,none⟩ 1 1 (vlC p) hx rfl ?_ ?_ (by unfold maxLen;omega) (by omega) hbase ?_
  · intro j u hj
    rw [add_flatV,Nat.zero_add,hblk.cell j]
    exact hj
  · intro u hu
    simp only [vlC,List.mem_cons,List.not_mem_nil,or_false] at hu
    rcases hu with rfl | rfl <;> rfl
  · intro v' w' ho' hg _
    exact h v' w' (by unfold OwnV;rw [List.length_append,List.map_append,List.flatten_append];simpa using ho') (hbel w' hg)
end Go.Proofs.YtaidhenkijjcfaaGreat
