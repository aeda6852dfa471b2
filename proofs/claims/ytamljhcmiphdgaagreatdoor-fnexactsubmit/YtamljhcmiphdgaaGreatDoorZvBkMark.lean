/- Blocks marked. -/
import Derived.Test.YtamljhcmiphdgaaGreatDoorZvTxMarkC
set_option maxRecDepth 20000
set_option maxHeartbeats 2000000
namespace Go.Proofs.YtamljhcmiphdgaaGreatDoor
open Go.RowKit
set_option linter.unusedVariables false
theorem jk_ (b off i:Nat):(⟨b,off,none⟩:Addr).add i=⟨b,off+i,none⟩:=by
 by_cases hz:i=0
 ·subst hz;simp [Addr.add]
 ·simp [Addr.add,hz]
theorem cK_ (w:World) (base:Nat) (h:base<=w.heap.size):OwnI base (w.alloc (.cells #[] 3)) (.slice (some ⟨w.heap.size,0,none⟩) 0 0) [] :=
 World.ownsRow_lit w #[] 0 h (by unfold maxLen;omega) (by simp)
theorem bU_ {ops:Array Oper} {rest:List Oper} {o:Oper} {a:Act} {Q:Exit->Act->World->Prop} (w:World) (hgd:o.guard=none) (s x:Operand)
  (ho:o.op=.call { callee:=.builtin .append,args:=#[s,x],argTypes:=#[30,30] })
  (base:Nat) (v vx:Value) (l k:List Int) (hs:a.eval s=v) (hx:a.eval x=vx) (hown:OwnI base w v l) (hrd:RdI w vx k)
  (hlen:l.length+k.length<=100000000) (hbase:base<=w.heap.size)
  (h:∀ v' w',OwnI base w' v' (l ++ k)->w.grownBy w' v.ownBlock->Below base w w'->(v'.ownBlock=v.ownBlock\/v'.ownBlock=some w.heap.size)->wpList Tryz.prog ops Q rest (a.put o.dst v') w'):wpList Tryz.prog ops Q (o :: rest) a w:=by
 obtain ⟨i0,hi,hz0,hz1,hz2⟩:=info_parts Tryz.infoI
 have hbel:∀ w',w.grownBy w' v.ownBlock->Below base w w':=fun w' hg=>(br_ _ _).grown hg hbase (fun k hk=>(hown.ge k hk))
 rcases hrd with ⟨ax,cap,rfl,rfl,hnil⟩ | ⟨b,off,cap,h0,rfl,h1,h2,h3,h4⟩
 ·cases ax with
  | none =>
   have hc:cap=0:=hnil rfl
   subst hc
   refine wpList_append_own_none hgd s x 30 ho base 3 i0 1 Tryz.underlying30 hi v l.length (l.map (Value.int .i64)) hs hown hx ?_
   exact h v w (by simpa [OwnI] using hown) (World.grownBy.refl _ _) (br_ _ _) (.inl rfl)
  | some ad =>
   refine wpList_append_own_at w hgd s x 30 ho base 3 i0 (.int .i64 0) 1 8 Tryz.underlying30 hi hz0 hz1 hz2 rfl (by decide) v l.length (l.map (Value.int .i64)) hs hown ad 0 cap [] hx rfl (by intro j u hj;simp at hj) (by intro u hu;simp at hu) (by unfold maxLen;simp at hlen;omega) (by simp at hlen;omega) hbase ?_
   intro v' w' ho' hg _ hl'
   exact h v' w' (by simpa [OwnI] using ho') hg (hbel w' hg) hl'
 ·refine wpList_append_own_at w hgd s x 30 ho base 3 i0 (.int .i64 0) 1 8 Tryz.underlying30 hi hz0 hz1 hz2 rfl (by decide) v l.length (l.map (Value.int .i64)) hs hown ⟨b,off,none⟩ k.length cap (k.map (Value.int .i64)) hx (by simp) ?_ ?_ (by unfold maxLen;omega) (by omega) hbase ?_
  ·intro j u hj
   obtain ⟨hjl,hj⟩:=List.getElem?_eq_some_iff.1 hj
   simp only [List.length_map] at hjl
   rw [jk_,h4 j hjl]
   simpa using hj
  ·intro u hu
   obtain ⟨p,_,rfl⟩:=List.mem_map.1 hu
   rfl
  ·intro v' w' ho' hg _ hl'
   exact h v' w' (by simpa [OwnI] using ho') hg (hbel w' hg) hl'
theorem I_ (b off i:Nat):(⟨b,off,none⟩:Addr).add i=⟨b,off+i,none⟩:=by
 simp [Addr.add]
theorem T_ (w:World) (base:Nat) (h:base<=w.heap.size):OwnT base (w.alloc (.cells #[] 59)) (.slice (some ⟨w.heap.size,0,none⟩) 0 0) [] :=
 World.ownsRow_lit w #[] 0 h (by unfold maxLen;omega) (by simp)
theorem em_ {w:World} {b off:Nat} {k:List Tx5} (h4:∀ i (h:i < k.length),TxAt w b (off+i * 5) k[i]) :
  ∀ j u,(k.map txC).flatten[j]?=some u->w.cell? ((⟨b,off,none⟩:Addr).add j)=some u:=by
 intro j u hj
 have hjl:j < (k.map txC).flatten.length:=(List.getElem?_eq_some_iff.1 hj).1
 rw [s_ 5 _ (aE_ k),List.length_map] at hjl
 have h1:j / 5 < k.length:=by omega
 have h2:j % 5 < 5:=Nat.mod_lt _ (by omega)
 have e:=i_ 5 (k.map txC) (j / 5) (j % 5) (by simpa using h1) (aE_ k) h2
 rw [show j / 5 * 5+j % 5=j from by omega,hj,List.getElem_map] at e
 obtain ⟨c0,c1,c2,c3,c4⟩:=h4 (j / 5) h1
 rw [I_,show off+j=off+j / 5 * 5+j % 5 from by omega]
 generalize j % 5=m at e h2
 match m,h2 with
 | 0,_=>rw [Nat.add_zero,c0];simpa [txC] using e.symm
 | 1,_=>rw [c1];simpa [txC] using e.symm
 | 2,_=>rw [c2];simpa [txC] using e.symm
 | 3,_=>rw [c3];simpa [txC] using e.symm
 | 4,_=>rw [c4];simpa [txC] using e.symm
theorem Z_ {ops:Array Oper} {rest:List Oper} {o:Oper} {a:Act} {Q:Exit->Act->World->Prop} (w:World) (hgd:o.guard=none) (s x:Operand)
  (ho:o.op=.call { callee:=.builtin .append,args:=#[s,x],argTypes:=#[52,52] })
  (base:Nat) (v vx:Value) (l k:List Tx5) (hs:a.eval s=v) (hx:a.eval x=vx) (hown:OwnT base w v l) (hrd:RdT w vx k)
  (hlen:l.length+k.length<=100000000) (hbase:base<=w.heap.size)
  (h:∀ v' w',OwnT base w' v' (l ++ k)->Below base w w'->wpList Tryz.prog ops Q rest (a.put o.dst v') w'):wpList Tryz.prog ops Q (o :: rest) a w:=by
 obtain ⟨i0,hi,hz0,hz1,hz2⟩:=info_parts Tryz.infoTx
 have hbel:∀ w',w.grownBy w' v.ownBlock->Below base w w':=fun w' hg=>(br_ _ _).grown hg hbase (fun k hk=>(World.ownsRow.lt hown k hk).1)
 rcases hrd with ⟨ax,cap,rfl,rfl,hnil⟩ | ⟨b,off,cap,h0,rfl,h1,h2,h3,h4⟩
 ·cases ax with
  | none =>
   have hc:cap=0:=hnil rfl
   subst hc
   refine wpList_append_own_none hgd s x 52 ho base 59 i0 5 Tryz.underlying52 hi v l.length (l.map txC).flatten hs hown hx ?_
   exact h v w (by simpa [OwnT] using hown) (br_ _ _)
  | some ad =>
   refine wpList_append_own w hgd s x 52 ho base 59 i0 (.agg #[.int .i64 0,.string { data:=#[] },.string { data:=#[] },.int .i64 0,.int .i64 0]) 5 56 Tryz.underlying52 hi hz0 hz1 hz2 rfl (by decide) v l.length (l.map txC).flatten hs hown ad 0 cap [] hx rfl (by intro j u hj;simp at hj) (by intro u hu;simp at hu) (by unfold maxLen;simp at hlen;omega) (by simp at hlen;omega) hbase ?_
   intro v' w' ho' hg _
   exact h v' w' (by simpa [OwnT] using ho') (hbel w' hg)
 ·refine wpList_append_own w hgd s x 52 ho base 59 i0 (.agg #[.int .i64 0,.string { data:=#[] },.string { data:=#[] },.int .i64 0,.int .i64 0]) 5 56 Tryz.underlying52 hi hz0 hz1 hz2 rfl (by decide) v l.length (l.map txC).flatten hs hown ⟨b,off,none⟩ k.length cap (k.map txC).flatten hx (by rw [s_ 5 _ (aE_ k),List.length_map]) (em_ h4) ?_ (by unfold maxLen;omega) (by omega) hbase ?_
  ·intro u hu
   obtain ⟨c,hc,hu⟩:=List.mem_flatten.1 hu
   obtain ⟨p,_,rfl⟩:=List.mem_map.1 hc
   simp only [txC,List.mem_cons,List.not_mem_nil,or_false] at hu
   rcases hu with rfl | rfl | rfl | rfl | rfl <;> rfl
  ·intro v' w' ho' hg _
   exact h v' w' (by simpa [OwnT] using ho') (hbel w' hg)
theorem bm_ {ops:Array Oper} {o:Oper} {a:Act} {w:World} {K:Act->World->Prop} {Q:Exit->Act->World->Prop} {E:Prop} (hgd:o.guard=none) (s x:Operand)
  (ho:o.op=.call { callee:=.builtin .append,args:=#[s,x],argTypes:=#[52,52] })
  (base:Nat) (v:Value) (B:Nat) (l:List Tx5) (t:Tx5) (hs:a.eval s=v) (hx:a.eval x=.slice (some ⟨B,0,none⟩) 1 1) (hown:OwnT base w v l) (hblk:Blk w B 59 (txC t))
  (hlen:l.length<=100000000) (hbase:base<=w.heap.size)
  (h:∀ v' w',OwnT base w' v' (l ++ [t])->w.grownBy w' v.ownBlock->(v'.ownBlock=v.ownBlock\/v'.ownBlock=some w.heap.size)->K (a.put o.dst v') w'):if Region.wanted o (yielded ops a.tmps)=true then Oper.wp Tryz.prog o a w K Q else E:=by
 have hw:Region.wanted o (yielded ops a.tmps)=true:=by simp [Region.wanted,hgd]
 rw [if_pos hw]
 obtain ⟨i0,hi,hz0,hz1,hz2⟩:=info_parts Tryz.infoTx
 obtain ⟨v',w',hr,h2,h3,h4,h5⟩:=run_append_own_at (P:=Tryz.prog) w base 52 o.type 59 i0 _ 5 56 Tryz.underlying52 hi hz0 hz1 hz2 rfl (by decide) v l.length (l.map txC).flatten hown ⟨B,0,none⟩ 1 1 (txC t) rfl (fun j u hj=>by rw [I_,Nat.zero_add,hblk.cell j];exact hj) (fun u hu=>by
  simp only [txC,List.mem_cons,List.not_mem_nil,or_false] at hu
  rcases hu with rfl | rfl | rfl | rfl | rfl <;> rfl) (by unfold maxLen;omega) (by omega) hbase
 unfold Oper.wp execOp
 simp only [ho,resolve,invoke,builtin,Sem.run_bind,Sem.run_pure,Result.andThen_ok,List.map_toArray,List.map_cons,List.map_nil,hs,hx,hr]
 exact h v' w' (by unfold OwnT;rw [List.length_append,List.map_append,List.flatten_append];simpa using h2) h3 h5
theorem aB_ (v:Value) (l:List Tx5) (w:World) (hr:RdT w v l) (hl:l.length<=4000000) :
  Calls Tryz.prog 106 #[v] w fun e w'=>∃ v',e=.returned v'/\OwnT w.heap.size w' v' l/\Below w.heap.size w w':=by
 obtain ⟨a,c,rfl⟩:=hr.shape
 have h1:Below w.heap.size w (w.alloc (.cells #[] 59)):=(br_ _ w).alloc (nr_ _) _
 have Hr:=a_ (hr.below h1 (nr_ _))
 clear hr
 go_enter Tryz.func106,Tryz.ntmps106
 go_wp2_with (at_builtin;refine Z_ _ rfl _ _ rfl w.heap.size _ _ [] l rfl rfl (T_ w w.heap.size (nr_ _)) Hr.out (by simp;omega) (by simp) ?_;intro v' w' ho hb)
 go_ret
 exact ⟨v',rfl,ho,h1.trans hb⟩
def mkV (k n:Nat):List Vl:=(List.range n).map (fun i=>(mtx (k+2 * i),((k+2 * i+1:Nat):Int)))
theorem dG_ (k n:Nat):(mkV k n).length=n:=by simp [mkV]
theorem jc_ (k n j:Nat) (h:j < (mkV k n).length):(mkV k n)[j]=(mtx (k+2 * j),((k+2 * j+1:Nat):Int)):=by simp [mkV]
theorem jB_ {α β:Type} (M l:List α) (f:α->β) (j:Nat) (hM:M.length=l.length) (hj:j < M.length):((M.take j ++ l.drop j).map f).set j (f M[j])=(M.take (j+1) ++ l.drop (j+1)).map f:=by
 have e1:((M.take j).map f).length=j:=by simp;omega
 rw [List.map_append,List.set_append_right _ _ (by omega),e1,Nat.sub_self,List.drop_eq_getElem_cons (show j < l.length by omega),List.map_cons,sz_,List.take_succ_eq_append_getElem hj,List.map_append,List.map_append,List.append_assoc]
 rfl
theorem bJ_ (v:Value) (l:List Vl) (k base:Nat) (w:World) (ho:OwnV base w v l) (hl:l.length<=10000000) (hk:k<=100000000) (hk0:0 < k) :
  Calls Tryz.prog 51 #[v,.int .i64 (k:Int)] w fun e w'=>e=.returned (.int .i64 ((k+2 * l.length:Nat):Int))/\OwnV base w' v (mkV k l.length)/\w.grownBy w' v.ownBlock:=by
 have hML:=dG_ k l.length
 have hMA:=jc_ k l.length
 generalize hMd:mkV k l.length=M at hML hMA
 clear hMd
 rcases ho.2 with ⟨rfl,hn⟩ | ⟨g,cap,cur,rfl,_,_,_,hcm,_,_⟩
 ·have e:l=[]:=List.length_eq_zero_iff.1 hn
  subst e
  have e2:M=[]:=List.length_eq_zero_iff.1 hML
  subst e2
  have Ho:=a_ ho
  clear ho
  go_enter Tryz.func51,Tryz.ntmps51
  go_wp2
  refine wp_loop_rounds 1 ?_
  rw [rounds_succ]
  go_wp2
  go_ret
  exact ⟨rfl,Ho.out,World.grownBy.refl _ _⟩
 ·have Ho:=a_ ho
  have HML:=a_ hML
  have HMA:=a_ hMA
  have hMl:l.length<=M.length:=by omega
  have hMg:M.length<=l.length:=by omega
  clear ho hML hMA
  go_enter Tryz.func51,Tryz.ntmps51
  go_wp2
  go_loopw [1,5] (fun kv iv wr=>∃ j:Nat,j<=l.length/\iv=.int .i64 (j:Int)/\kv=.int .i64 ((k+2 * j:Nat):Int)/\wr.ownsRow base 152 2 (.slice (some ⟨g,0,none⟩) l.length cap) l.length ((M.take j ++ l.drop j).map vlC).flatten/\w.grownBy wr (some g))
   (fun _ iv _=>l.length - (intOf iv).toNat)
  case atStart=>exact ⟨0,Nat.zero_le _,rfl,rfl,by simpa [OwnV] using Ho.out,World.grownBy.refl _ _⟩
  case round =>
   obtain ⟨j,hj,rfl,rfl,hown,hgr⟩:=hrel
   by_cases hlt:j < l.length
   ·have hjM:j < M.length:=by omega
    obtain ⟨K,hK⟩:∃ K:Nat,k+2 * j=K:=⟨_,rfl⟩
    have hK0:0 < K:=by omega
    have hK2:K<=150000000:=by omega
    have eM:vlC M[j]=[.string (mtx K),.int .i64 ((K+1:Nat):Int)]:=by rw [HMA.out j hjM,hK];rfl
    have hsz:=bd_ (M.take j ++ l.drop j)
    have hlen:((M.take j ++ l.drop j).map vlC).length=l.length:=by simp;omega
    have Hm:=a_ (fun w=>n_ K w hK0 (by omega))
    obtain ⟨u0,hu0⟩:∃ u,((M.take j ++ l.drop j).map vlC).flatten[j * 2]?=some u:=⟨_,List.getElem?_eq_getElem (by rw [s_ 2 _ hsz];omega)⟩
    obtain ⟨u1,hu1⟩:∃ u,((M.take j ++ l.drop j).map vlC).flatten[j * 2+1]?=some u:=⟨_,List.getElem?_eq_getElem (by rw [s_ 2 _ hsz];omega)⟩
    have hli:(j:Int) < (l.length:Int):=by omega
    rw [hK]
    have HK:=a_ hK
    have Hput:=a_ (aQ_ ((M.take j ++ l.drop j).map vlC) j (.string (mtx K)) (.int .i64 ((K+1:Nat):Int)) (by rw [hlen];exact hlt) hsz)
    have Heq:=a_ (jB_ M l vlC j HML.out hjM)
    rw [eM] at Heq
    clear hK
    have Hown:=a_ hown
    have Hgr:=a_ hgr
    clear hown hgr
    go_wp2_with fail
    refine (Hm.out _).mono ?_
    rintro e w1 ⟨rfl,hb1⟩
    have hown:=j_ Hown.out hb1 (nr_ _)
    have hgr:=H_ Hgr.out (cn_ (some g) hb1)
    have d0:=hown.cellAt (j * 2) (by omega)
    have d1:=hown.cellAt (j * 2+1) (by omega)
    have f0:=hown.frozenAt (j * 2)
    have f1:=hown.frozenAt (j * 2+1)
    rw [hu0] at d0
    rw [hu1] at d1
    have hst:=hown.stored (j * 2) (.string (mtx K))
    have hst2:=hst.1.stored (j * 2+1) (.int .i64 ((K+1:Nat):Int))
    rw [Hput.out,Heq.out] at hst2
    have Hst:=a_ hst2.1
    have Hgr2:=a_ (H_ (H_ hgr hst.2) hst2.2)
    clear hst hst2 hown hgr hu0 hu1 eM Hown Hgr hb1 Hput Heq
    generalize mtx K=mK at *
    go_wp2
    go_roundw
    case rel=>exact ⟨j+1,by omega,by go_num,by rw [show k+2 * (j+1)=K+2 from by have:=HK.out;omega];go_num,Hst.out,Hgr2.out⟩
    case measure=>simp [intOf];omega
   ·have e:M.take j ++ l.drop j=M:=by rw [List.take_of_length_le (by omega),List.drop_of_length_le (by omega),List.append_nil]
    rw [e] at hown
    have ho':OwnV base wr (.slice (some ⟨g,0,none⟩) l.length cap) M:=by
     unfold OwnV
     rw [HML.out]
     exact hown
    have e2:j=l.length:=by omega
    have Ho':=a_ ho'
    have Hgr:=a_ hgr
    clear ho' hgr hown e
    subst e2
    go_wp2
    go_ret
    exact ⟨rfl,Ho'.out,Hgr.out⟩
theorem bV_ (v:Value) (k n:Nat) (w:World) (hr:RdV w v (mkV k n)) (hl:n<=10000000) (hk:k<=100000000) (hk0:0 < k) :
  Calls Tryz.prog 61 #[v,.int .i64 (k:Int)] w fun e w'=>e=.returned (.int .i64 ((k+2 * n:Nat):Int))/\Below w.heap.size w w':=by
 have hML:=dG_ k n
 have hMA:=jc_ k n
 generalize hMd:mkV k n=M at hML hMA hr
 clear hMd
 rcases hr with ⟨a,cap,rfl,rfl,-⟩ | ⟨b,off,cap,h0,rfl,h1,h2,h3,h4⟩
 ·simp at hML
  subst hML
  clear hMA
  go_enter Tryz.func61,Tryz.ntmps61
  go_wp2
  refine wp_loop_rounds 1 ?_
  rw [rounds_succ]
  go_wp2
  go_ret
  exact ⟨rfl,br_ _ _⟩
 ·have HMA:=a_ hMA
  have hMl:n<=M.length:=by omega
  have hMg:M.length<=n:=by omega
  have H4:=a_ h4
  clear hML hMA h4
  go_enter Tryz.func61,Tryz.ntmps61
  go_wp2
  go_loopw [1,5] (fun kv iv wr=>∃ j:Nat,j<=n/\iv=.int .i64 (j:Int)/\kv=.int .i64 ((k+2 * j:Nat):Int)/\Below w.heap.size w wr) (fun _ iv _=>n - (intOf iv).toNat)
  case atStart=>exact ⟨0,Nat.zero_le _,rfl,rfl,br_ _ _⟩
  case round =>
   obtain ⟨j,hj,rfl,rfl,hb⟩:=hrel
   by_cases hlt:j < n
   ·have hjM:j < M.length:=by omega
    have hc0:wr.cell? ⟨b,off+j * 2,none⟩=some (.string M[j].1):=(hb.cell (p:=⟨b,off+j * 2,none⟩) h3).trans (H4.out j hjM).1
    have hc1:wr.cell? ⟨b,off+j * 2+1,none⟩=some (.int .i64 M[j].2):=(hb.cell (p:=⟨b,off+j * 2+1,none⟩) h3).trans (H4.out j hjM).2
    obtain ⟨K,hK⟩:∃ K:Nat,k+2 * j=K:=⟨_,rfl⟩
    have hK2:K<=150000000:=by omega
    have hK0:0 < K:=by omega
    rw [HMA.out j hjM,hK] at hc0 hc1
    simp only at hc0 hc1
    rw [hK]
    have HK:=a_ hK
    have hli:(j:Int) < (M.length:Int):=by omega
    have Hm:=a_ (fun w=>n_ K w hK0 (by omega))
    have hsz:=hb.size
    have hbw:b < wr.heap.size:=by omega
    have Hb:=a_ hb
    clear hK hb
    generalize mtx K=mK at *
    go_wp2_with fail
    go_region_with (go_at_call 117;refine (Hm.out _).mono ?_;rintro e w2 ⟨rfl,hb2⟩;have d0:=(hb2.cell (p:=⟨b,off+j * 2,none⟩) (by exact hbw)).trans (by exact hc0);have d1:=(hb2.cell (p:=⟨b,off+j * 2+1,none⟩) (by exact hbw)).trans (by exact hc1))
    all_goals
     rename Below _ _ _=>hb2
     go_wp2
     go_roundw
     case rel=>exact ⟨j+1,by omega,by go_num,by rw [show k+2 * (j+1)=K+2 from by have:=HK.out;omega];go_num,Hb.out.drew.trans (hb2.mono hsz)⟩
     case measure=>simp [intOf];omega
   ·have e:j=n:=by omega
    have He:=a_ e
    clear e
    go_wp2
    go_ret
    exact ⟨h_ (by rw [<- He.out]),hb⟩
def mkI (k n:Nat):List Int:=(List.range n).map (fun j=>((k+j:Nat):Int))
theorem bi_ (k n:Nat):(mkI k n).length=n:=by simp [mkI]
theorem ix_ (k n j:Nat) (h:j < (mkI k n).length):(mkI k n)[j]=((k+j:Nat):Int):=by simp [mkI]
theorem aH_ (v:Value) (l:List Int) (k base:Nat) (w:World) (ho:OwnI base w v l) (hl:l.length<=10000000) (hk:k<=100000000) (hk0:0 < k) :
  Calls Tryz.prog 57 #[v,.int .i64 (k:Int)] w fun e w'=>e=.returned (.int .i64 ((k+l.length:Nat):Int))/\OwnI base w' v (mkI k l.length)/\w.grownBy w' v.ownBlock:=by
 have hML:=bi_ k l.length
 have hMA:=ix_ k l.length
 generalize hMd:mkI k l.length=M at hML hMA
 clear hMd
 rcases ho.2 with ⟨rfl,hn⟩ | ⟨g,cap,cur,rfl,_,_,_,hcm,_,_⟩
 ·have e:l=[]:=List.length_eq_zero_iff.1 hn
  subst e
  have e2:M=[]:=List.length_eq_zero_iff.1 hML
  subst e2
  have Ho:=a_ ho
  clear ho
  go_enter Tryz.func57,Tryz.ntmps57
  go_wp2
  refine wp_loop_rounds 1 ?_
  rw [rounds_succ]
  go_wp2
  go_ret
  exact ⟨rfl,Ho.out,World.grownBy.refl _ _⟩
 ·have Ho:=a_ ho
  have HML:=a_ hML
  have HMA:=a_ hMA
  have hMl:l.length<=M.length:=by omega
  have hMg:M.length<=l.length:=by omega
  clear ho hML hMA
  go_enter Tryz.func57,Tryz.ntmps57
  go_wp2
  go_loopw [1,5] (fun kv iv wr=>∃ j:Nat,j<=l.length/\iv=.int .i64 (j:Int)/\kv=.int .i64 ((k+j:Nat):Int)/\wr.ownsRow base 3 1 (.slice (some ⟨g,0,none⟩) l.length cap) l.length ((M.take j ++ l.drop j).map (Value.int .i64))/\w.grownBy wr (some g))
   (fun _ iv _=>l.length - (intOf iv).toNat)
  case atStart=>exact ⟨0,Nat.zero_le _,rfl,rfl,by simpa [OwnI] using Ho.out,World.grownBy.refl _ _⟩
  case round =>
   obtain ⟨j,hj,rfl,rfl,hown,hgr⟩:=hrel
   by_cases hlt:j < l.length
   ·have hjM:j < M.length:=by omega
    obtain ⟨K,hK⟩:∃ K:Nat,k+j=K:=⟨_,rfl⟩
    have hK2:K<=200000000:=by omega
    have hK0:0 < K:=by omega
    have eM:M[j]=(K:Int):=by rw [HMA.out j hjM,hK]
    rw [hK]
    have HK:=a_ hK
    clear hK
    have Hown:=a_ hown
    have Hgr:=a_ hgr
    clear hown hgr
    have hown2:=Hown.out
    have hf:=hown2.frozenAt j
    have hd:=hown2.cellAt j (by omega)
    obtain ⟨u,hu⟩:∃ u,((M.take j ++ l.drop j).map (Value.int .i64))[j]?=some u:=⟨_,List.getElem?_eq_getElem (by simp;omega)⟩
    rw [hu] at hd
    have hst:=hown2.stored j (.int .i64 M[j])
    rw [ch_ M l (Value.int .i64) j HML.out hjM,eM] at hst
    have Hst:=a_ hst
    clear hst hown2 hu eM
    go_wp2
    go_roundw
    case rel=>exact ⟨j+1,by omega,by go_num,by rw [show k+(j+1)=K+1 from by have:=HK.out;omega];go_num,Hst.out.1,H_ Hgr.out Hst.out.2⟩
    case measure=>simp [intOf];omega
   ·have e:M.take j ++ l.drop j=M:=by rw [List.take_of_length_le (by omega),List.drop_of_length_le (by omega),List.append_nil]
    rw [e] at hown
    have ho':OwnI base wr (.slice (some ⟨g,0,none⟩) l.length cap) M:=by
     unfold OwnI
     rw [HML.out]
     exact hown
    have e2:j=l.length:=by omega
    have Ho':=a_ ho'
    have Hgr:=a_ hgr
    clear ho' hgr hown e
    subst e2
    go_wp2
    go_ret
    exact ⟨rfl,Ho'.out,Hgr.out⟩
theorem hr_ (r b:Int) (v:Value) (l:List ByteArray) (k base:Nat) (w:World) (ho:OwnS base w v l) (hl:l.length<=10000000) (hk:k<=100000000) (hk0:0 < k) :
  Calls Tryz.prog 53 #[qcV r b v,.int .i64 (k:Int)] w fun e w'=>e=.returned (.int .i64 ((k+l.length:Nat):Int))/\OwnS base w' v (mkS k l.length)/\Oth (fun g=>v.ownBlock=some g) w w':=by
 obtain ⟨a,c,rfl⟩:=ho.rd.shape
 simp only [qcV]
 obtain ⟨w1,hw1⟩:∃ x,w.alloc (.cells #[.int .i64 r,.int .i64 b,.slice a l.length c] 48)=x:=⟨_,rfl⟩
 have b1:Below w.heap.size w w1:=by rw [<- hw1];exact (br_ _ w).alloc (nr_ _) _
 have k1:Blk w1 w.heap.size 48 [.int .i64 r,.int .i64 b,.slice a l.length c]:=by rw [<- hw1];exact Blk.new w _ _
 have HM:=a_ (S_ (.slice a l.length c) l k base w1 (ho.below b1 (nr_ _)) hl hk hk0)
 have x2:=k1.cell 2
 simp only [gz_,gs_] at x2
 have HB:=a_ b1
 clear ho k1 b1
 go_enter Tryz.func53,Tryz.ntmps53
 go_wp2_with fail
 refine HM.out.mono ?_
 rintro e w2 ⟨rfl,ho2,hg2⟩
 clear x2 hw1
 go_wp2
 go_ret
 exact ⟨rfl,ho2,(Oth.of_below HB.out).trans (Oth.of_grown hg2 (fun g h=>h))⟩
theorem hH_ (r:Int) (v u:Value) (l:List ByteArray) (n:List Int) (k b1 b2:Nat) (w:World) (ho:OwnS b1 w v l) (hi:OwnI b2 w u n) (hl:l.length<=10000000) (hn:n.length<=10000000) (hk:k<=80000000) (hk0:0 < k) :
  Calls Tryz.prog 54 #[tcV r v u,.int .i64 (k:Int)] w fun e w'=>e=.returned (.int .i64 ((k+l.length+n.length:Nat):Int))/\OwnS b1 w' v (mkS k l.length)/\OwnI b2 w' u (mkI (k+l.length) n.length)/\Oth (fun g=>v.ownBlock=some g\/u.ownBlock=some g) w w':=by
 have Hap:=a_ (r_ (w:=w) ho hi (by decide))
 obtain ⟨a,c,rfl⟩:=ho.rd.shape
 obtain ⟨a2,c2,rfl⟩:=hi.rd.shape
 simp only [tcV]
 obtain ⟨w1,hw1⟩:∃ x,w.alloc (.cells #[.int .i64 r,.slice a l.length c,.slice a2 n.length c2] 49)=x:=⟨_,rfl⟩
 have p1:Below w.heap.size w w1:=by rw [<- hw1];exact (br_ _ w).alloc (nr_ _) _
 have k1:Blk w1 w.heap.size 49 [.int .i64 r,.slice a l.length c,.slice a2 n.length c2]:=by rw [<- hw1];exact Blk.new w _ _
 have HM:=a_ (S_ (.slice a l.length c) l k b1 w1 (ho.below p1 (nr_ _)) hl (by omega) hk0)
 have hlt:Hid (∀ g,(Value.slice a l.length c).ownBlock=some g->g < w.heap.size):=a_ (fun g h=>(World.ownsRow.lt ho g h).2)
 have x1:=k1.cell 1
 simp only [gz_,gs_] at x1
 have HB:=a_ p1
 have K1:=a_ k1
 have Hi:=a_ (show OwnI b2 w1 (.slice a2 n.length c2) n from g_ (S:=fun _=>False) hi (Oth.of_below p1) (fun _ _ h=>h))
 obtain ⟨K,hK⟩:∃ K:Nat,k+l.length=K:=⟨_,rfl⟩
 have hKb:K<=90000000:=by omega
 have hK0:0 < K:=by omega
 rw [hK] at HM ⊢
 clear ho hi k1 p1
 go_enter Tryz.func54,Tryz.ntmps54
 go_wp2_with fail
 refine HM.out.mono ?_
 rintro e w2 ⟨rfl,ho2,hg2⟩
 have O2:=Oth.of_grown (S:=fun g=>(Value.slice a l.length c).ownBlock=some g) hg2 (fun g h=>h)
 have hi2:OwnI b2 w2 (.slice a2 n.length c2) n:=g_ Hi.out O2 (fun g h h'=>Hap.out g h h')
 have x2:w2.cell? ⟨w.heap.size,2,none⟩=some (.slice a2 n.length c2):=by
  have h:=K1.out.cell 2
  simp only [gz_,gs_] at h
  unfold World.cell? at h ⊢
  rw [O2.block w.heap.size K1.out.lt (fun h'=>by have:=hlt.out _ h';omega)]
  exact h
 have HI:=a_ (aH_ (.slice a2 n.length c2) n K b2 w2 hi2 hn (by omega) hK0)
 have Ho2:=a_ ho2
 have HO2:=a_ O2
 clear ho2 hg2 O2 hi2 x1 hw1
 go_wp2_with fail
 refine HI.out.mono ?_
 rintro e w3 ⟨rfl,ho3,hg3⟩
 have O3:=Oth.of_grown (S:=fun g=>(Value.slice a2 n.length c2).ownBlock=some g) hg3 (fun g h=>h)
 have Hs3:Hid (OwnS b1 w3 (.slice a l.length c) (mkS k l.length)):=a_ (g_ Ho2.out O3 (fun g h h'=>Hap.out g h' h))
 have HO:=a_ ((Oth.of_below (S:=fun g=>(Value.slice a l.length c).ownBlock=some g\/(Value.slice a2 n.length c2).ownBlock=some g) HB.out).trans ((HO2.out.mono (fun _ h=>.inl h)).trans (O3.mono (fun _ h=>.inr h))))
 clear hg3 O3 x2
 go_wp2
 go_ret
 exact ⟨rfl,Hs3.out,ho3,HO.out⟩
end Go.Proofs.YtamljhcmiphdgaaGreatDoor
