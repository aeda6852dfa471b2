/- A node is put behind others, or behind none. -/
import Derived.Test.YthidkbhiikdokaaGreatZwPfTo
import Derived.Test.YthidkbhiikdokaaGreatZwVtTo
namespace Go.Proofs.YthidkbhiikdokaaGreat
open Go.RowKit
set_option linter.unusedVariables false
structure FewNd (p:Nd):Prop where
  na:p.la.length<=4000000
  fa:∀ a ∈ p.la,a.2.2.2.2.length<=4000000
  ns:p.st.length<=4000000
  nt:p.tt.length<=4000000
  ft:∀ b ∈ p.tt,FewK b
  nw:p.hw.length<=4000000
  nx:p.tw.length<=4000000
  nh:p.th.length<=4000000
  nv:p.vo.length<=4000000
  ng:p.go.length<=4000000
  nd:p.dn.length<=4000000
  np:p.pl.length<=4000000
  nq:p.ps.length<=4000000
  fq:∀ q ∈ p.ps,FewPf q
theorem noC_one {w:World} {p:Nd} {u:Nv} (h:RdNd w p u):(noC p u).all (·.oneCell')=true:=by
  obtain ⟨ada,cpa,eqa⟩:=h.ka.shape
  obtain ⟨ads,cps,eqs⟩:=h.ks.shape
  obtain ⟨adt,cpt,eqt⟩:=h.kt.shape
  obtain ⟨adw,cpw,eqw⟩:=h.kw.shape
  obtain ⟨adx,cpx,eqx⟩:=h.kx.shape
  obtain ⟨adh,cph,eqh⟩:=h.kh.shape
  obtain ⟨adv,cpv,eqv⟩:=h.kv.shape
  obtain ⟨adg,cpg,eqg⟩:=h.kg.shape
  obtain ⟨add,cpd,eqd⟩:=h.kd.shape
  obtain ⟨adp,cpp,eqp⟩:=h.kp.shape
  obtain ⟨adq,cpq,eqq⟩:=h.kq.shape
  simp [noC,Value.oneCell',eqa,eqs,eqt,eqw,eqx,eqh,eqv,eqg,eqd,eqp,eqq]
theorem add_flatN (b off i:Nat):(⟨b,off,none⟩:Addr).add i=⟨b,off+i,none⟩:=by
  by_cases hz:i=0
  · subst hz;simp [Addr.add]
  · simp [Addr.add,hz]
section
variable {α:Type}
theorem OwnRow.growV {T:TypeId} {sz base:Nat} {C:α->List Value} {O:Nat->Nat->World->α->Prop} {w1 w w':World} {v v':Value} {Z:List α} {q:α} (h:OwnRow T sz C O base w1.heap.size w1 v Z) (hO:∀ a b q (w w':World),Kept a b w w'->O a b w q->O a b w' q)
    (hb1:Below w1.heap.size w1 w) (hq:O w1.heap.size w.heap.size w q) (hbase:base<=w1.heap.size)
    (ho':w'.ownsRow base T sz v' (Z.length+1) ((Z.map C).flatten ++ C q)) (hgr:w.grownBy w' v.ownBlock) (hl:v'.ownBlock=v.ownBlock\/v'.ownBlock=some w.heap.size):OwnRow T sz C O base w'.heap.size w' v' (Z ++ [q]):=by
  have hg:=fun g (e:v.ownBlock=some g)=>World.ownsRow.lt h.1 g e
  have hz:=hb1.size
  have hz2:=hgr.size
  refine ⟨by rw [List.length_append,List.map_append,List.flatten_append];simpa using ho',fun k e=>(World.ownsRow.lt ho' k e).2,?_⟩
  have p1:Parts O base w1.heap.size v.ownBlock w Z:=h.2.2.turn (fun a b q h1 h2 _ h3=>hO a b q _ _ (Kept.of_belowT hb1 h2) h3)
  have p2:Parts O base w1.heap.size v.ownBlock w' Z:=p1.turn (fun a b q h1 h2 h3 h4=>hO a b q _ _ (Kept.of_grown hgr (fun k e=>by have:=h3 k e;omega)) h4)
  have q2:O w1.heap.size w.heap.size w' q:=hO _ _ _ _ _ (Kept.of_grown hgr (fun k e=>by have:=(hg k e).2;omega)) hq
  have p3:Parts O base w.heap.size v'.ownBlock w' (Z ++ [q]):=by
    rcases hl with x | x
    · rw [x]
      exact p2.snoc q (Nat.le_refl _) hbase hz (fun k e=>by have:=(hg k e).2;omega) q2
    · rw [x]
      exact (p2.no (no':=some w.heap.size) (fun k e=>by cases e;omega)).snoc q (Nat.le_refl _) hbase hz (fun k e=>by cases e;omega) q2
  exact p3.wide (Nat.le_refl _) hz2
end
theorem Tryz.infoApN:(Tryz.prog.info? 65).map (fun i=>(i.zero,i.size,i.bytes))=some (some (.agg #[.string { data:=#[] },.int .i64 0,.int .i64 0,.slice none 0 0,.slice none 0 0,.slice none 0 0,.int .i64 0,.int .i64 0,.int .i64 0,.int .i64 0,.slice none 0 0,.int .i64 0,.slice none 0 0,.slice none 0 0,.int .i64 0,.slice none 0 0,.slice none 0 0,.slice none 0 0,.slice none 0 0,.slice none 0 0]),20,344):=by kernel_rfl
theorem nil_ownNx (base hi:Nat) (w:World):OwnNx base hi w (.slice none 0 0) []:=⟨[],rfl,⟨rfl,.inl ⟨rfl,rfl⟩⟩,(fun k e=>by cases e),Parts.nil _ _ _ _ _⟩
theorem run_appNs (w1 w:World) (ty:TypeId) (base:Nat) (v:Value) (G:Nat) (l:List Nd) (p:Nd) (u:Nv) (hown:OwnNx base w1.heap.size w1 v l) (hb1:Below w1.heap.size w1 w) (hblk:Blk w G 65 (noC p u))
    (hob:OwnNd w1.heap.size w.heap.size w p u) (hlen:l.length<=4000000) (hbase:base<=w1.heap.size) :
    ∃ v' w',Sem.run Tryz.prog (Builtin.append_ #[31,31] ty #[v,.slice (some ⟨G,0,none⟩) 1 1]) w=.ok v' w'/\OwnNx base w'.heap.size w' v' (l ++ [p])/\Below base w w'/\w.grownBy w' v.ownBlock:=by
  obtain ⟨Z,hZ,h⟩:=hown
  have hone:∀ x ∈ noC p u,x.oneCell'=true:=List.all_eq_true.1 (noC_one hob.rd)
  obtain ⟨i0,hi,hz0,hz1,hz2⟩:=info_parts Tryz.infoApN
  have hl:Z.length=l.length:=by rw [<- hZ];simp
  obtain ⟨v',w',hr,h2,h3,h4,h5⟩:=run_append_own_at (P:=Tryz.prog) w base 31 ty 65 i0 _ 20 344 Tryz.underlying31 hi hz0 hz1 hz2 rfl (by decide) v Z.length _ (row_below h.1 hb1 (Nat.le_refl _)) ⟨G,0,none⟩ 1 1 (noC p u) rfl (fun j x hj=>by rw [add_flatN,Nat.zero_add,hblk.cell j];exact hj) (fun x hx=>hone x hx) (by unfold maxLen;omega) (by omega) (by have:=hb1.size;omega)
  have q:=OwnRow.growV (q:=(p,u)) h (fun a b q w w' hk hq=>hq.kept hk) hb1 hob hbase h2 h3 h5
  exact ⟨v',w',hr,⟨Z ++ [(p,u)],by simp [hZ],q⟩,(Below.refl _ _).grown h3 (by have:=hb1.size;omega) (fun k hk=>(World.ownsRow.lt h.1 k hk).1),h3⟩
theorem step_appNs {ops:Array Oper} {o:Oper} {a:Act} {w:World} {K:Act->World->Prop} {Q:Exit->Act->World->Prop} {E:Prop} (w1:World) (hgd:o.guard=none) (s x:Operand)
    (ho:o.op=.call { callee:=.builtin .append,args:=#[s,x],argTypes:=#[31,31] })
    (base:Nat) (v:Value) (G:Nat) (l:List Nd) (p:Nd) (u:Nv) (hs:a.eval s=v) (hx:a.eval x=.slice (some ⟨G,0,none⟩) 1 1) (hown:OwnNx base w1.heap.size w1 v l) (hb1:Below w1.heap.size w1 w) (hblk:Blk w G 65 (noC p u))
    (hob:OwnNd w1.heap.size w.heap.size w p u) (hlen:l.length<=4000000) (hbase:base<=w1.heap.size)
    (h:∀ v' w',OwnNx base w'.heap.size w' v' (l ++ [p])->Below base w w'->w.grownBy w' v.ownBlock->K (a.put o.dst v') w'):if Region.wanted o (yielded ops a.tmps)=true then Oper.wp Tryz.prog o a w K Q else E:=by
  have hw:Region.wanted o (yielded ops a.tmps)=true:=by simp [Region.wanted,hgd]
  rw [if_pos hw]
  obtain ⟨v',w',hr,h2,h3,h4⟩:=run_appNs w1 w o.type base v G l p u hown hb1 hblk hob hlen hbase
  unfold Oper.wp execOp
  simp only [ho,resolve,invoke,builtin,Sem.run_bind,Sem.run_pure,Result.andThen_ok,List.map_toArray,List.map_cons,List.map_nil,hs,hx,hr]
  exact h v' w' h2 h3 h4
end Go.Proofs.YthidkbhiikdokaaGreat
