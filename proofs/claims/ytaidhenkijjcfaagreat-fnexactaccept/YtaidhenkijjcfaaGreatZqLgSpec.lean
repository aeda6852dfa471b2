/- The model's ledgers that are right, and copies of them. -/
import Derived.Test.YtaidhenkijjcfaaGreatZqVsSumI
import Derived.Lib.AppendZerosOnto
import Derived.Deep.Cut
import Derived.Test.YtaidhenkijjcfaaGreatZqClVal
set_option maxRecDepth 20000
set_option maxHeartbeats 2000000
namespace Go.Proofs.YtaidhenkijjcfaaGreat
open Go.RowKit
set_option linter.unusedVariables false
theorem wpList_grow_nil (w:World) {ops:Array Oper} {rest:List Oper} {o:Oper} {a:Act} {Q:Exit->Act->World->Prop} (hg:o.guard=none) (s x:Operand)
    (hop:o.op=.call { callee:=.builtin .append,args:=#[s,x],argTypes:=#[33,3] }) (n G:Nat) (W1:World) (hs:a.eval s=.slice none 0 0) (hx:a.eval x=.int .i64 (n:Int))
    (hrun:∀ ty,(Builtin.append_ #[33,3] ty #[.slice none 0 0,.int .i64 (n:Int)]).run Tryz.prog w=.ok (.slice (some ⟨w.heap.size,0,none⟩) n G) W1)
    (hK:wpList Tryz.prog ops Q rest (a.put o.dst (.slice (some ⟨w.heap.size,0,none⟩) n G)) W1):wpList Tryz.prog ops Q (o :: rest) a w:=by
  refine wpList_plain hg fun K hK'=>?_
  unfold Oper.wp
  simp [execOp,hop,resolve,invoke,builtin,hs,hx,hrun,Result.andThen]
  exact hK' _ _ hK
theorem growVal_any (n:Nat) (hn:n<=4000000) (w:World) :
    Calls Tryz.prog 103 #[.slice none 0 0,.int .i64 (n:Int)] w fun e w'=>∃ v',e=.returned v'/\OwnV w.heap.size w' v' []/\Below w.heap.size w w':=by
  by_cases h0:n=0
  · subst h0
    go_enter Tryz.func103,Tryz.ntmps103
    go_wp2
    go_ret
    exact ⟨_,rfl,World.ownsRow_nil w _ _ _,Below.refl _ _⟩
  · obtain ⟨i0,hi0,hz0,hz1,hz2⟩:=info_parts Tryz.infoVl
    obtain ⟨G,hG⟩:∃ G,G=grownCap w n 0 100:=⟨_,rfl⟩
    obtain ⟨ROW,hROW⟩:∃ ROW:Array Value,ROW=([]:List Value).toArray ++ Builtin.zeroCells (Value.cells (.agg #[.string { data:=#[] },.int .i64 0])) n ++ Builtin.zeroCells (Value.cells (.agg #[.string { data:=#[] },.int .i64 0])) (G - n):=⟨_,rfl⟩
    obtain ⟨W1,hW1⟩:∃ W1,W1=w.drew.alloc (.cells ROW 100):=⟨_,rfl⟩
    have hrz:∀ ty,(Builtin.append_ #[33,3] ty #[.slice none 0 0,.int .i64 (n:Int)]).run Tryz.prog w=.ok (.slice (some ⟨w.heap.size,0,none⟩) n G) W1:=fun ty=>by
      have h:=Lib.run_append_grow_zeros (P:=Tryz.prog) w 33 3 ty 100 i0 _ .i64 .i64 Tryz.underlying33 Tryz.underlying3 hi0 hz0 none 0 0 [] (run_firstCells_none w.drew i0.size 0 0 0) n (by omega) (by omega) (by omega) (by omega) (by rw [hz2];omega) (by rw [hz2];exact growslice_fits (by omega) (by omega))
      rw [Nat.zero_add,<- hG,<- hROW,<- hW1] at h
      exact h
    have hGn:n<=G:=by rw [hG];exact grownCap_ge w _ _ _
    have hGm:G<=maxLen:=by rw [hG];exact grownCap_le_maxLen w n 0 100 (by unfold maxLen;omega)
    have hG63:G<=9223372036854775807:=by unfold maxLen at hGm;omega
    have hRs:ROW.size=G * 2:=by
      rw [hROW]
      simp only [Array.size_append,List.size_toArray,size_zeroCells]
      simp [Value.cells]
      omega
    have Ho:=hide (show OwnV w.heap.size W1 (.slice (some ⟨w.heap.size,0,none⟩) 0 G) [] from by
      rw [hW1]
      exact ⟨by simp,.inr ⟨w.heap.size,G,ROW,rfl,Nat.le_refl _,heap_alloc_new w.drew _,Nat.zero_le _,hGm,hRs,by simp⟩⟩)
    have Hb:=hide (show Below w.heap.size w W1 from by rw [hW1];exact (Below.refl _ w).drew.alloc (Nat.le_refl _) _)
    have hn0:(0:Int) < (n:Int):=by omega
    clear hW1 hROW hRs hG hi0 hz0 hz1 hz2
    go_enter Tryz.func103,Tryz.ntmps103
    go_wp2_with (at_builtin;refine wpList_grow_nil w rfl _ _ rfl n G W1 rfl rfl hrz ?_)
    go_ret
    exact ⟨_,rfl,Ho.out,Hb.out⟩
theorem concatVal_any (v:Value) (l:List Vl) (g:Nat) (w:World) (hr:RdV w v l) (hl:l.length<=4000000) (hc:w.cell? ⟨g,0,none⟩=some v) (hg:g < w.heap.size) :
    Calls Tryz.prog 41 #[.slice (some ⟨g,0,none⟩) 1 1] w fun e w'=>∃ v',e=.returned v'/\OwnV w.heap.size w' v' l/\Below w.heap.size w w':=by
  obtain ⟨a,c,rfl⟩:=hr.shape
  have HG:=hide (growVal_any l.length hl w)
  have Hr:=hide hr
  have hnn:¬ ((l.length:Int) < 0):=by omega
  have Hc:=hide hc
  clear hr
  go_enter Tryz.func41,Tryz.ntmps41
  go_wp2
  refine wp_loop_rounds 2 ?_
  rw [rounds_succ]
  go_wp2
  rw [rounds_succ]
  go_wp2_with fail
  refine HG.out.mono ?_
  rintro e w1 ⟨v1,rfl,o1,b1⟩
  obtain ⟨a1,c1,rfl⟩:=o1.rd.shape
  simp only [List.length_nil] at o1
  have hc1:=(b1.cell (p:=⟨g,0,none⟩) hg).trans Hc.out
  have Hr1:=hide (Hr.out.below b1 (Nat.le_refl _))
  have O1:=hide o1
  have hz1:=b1.size
  have B1:=hide b1
  clear hc o1 b1 HG Hr
  go_wp2
  refine wp_loop_rounds 2 ?_
  rw [rounds_succ]
  go_wp2_with (at_builtin;refine app_ownV _ rfl _ _ rfl w.heap.size (.slice a1 0 c1) _ [] l rfl rfl O1.out Hr1.out (by simp;omega) hz1 ?_;intro v2 w2 o2 g2 b2)
  have O2:=hide (show OwnV w.heap.size w2 v2 l from o2)
  have B2:=hide (B1.out.trans b2)
  clear o2 g2 b2
  rw [rounds_succ]
  go_wp2
  go_ret
  exact ⟨_,rfl,O2.out,B2.out⟩
def lgB (e:Int) (l:List Ac):Bool:=inB e 0 900 && acsB l
end Go.Proofs.YtaidhenkijjcfaaGreat
