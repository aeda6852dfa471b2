/- The laws' marks on those who vote, and marks found again. -/
import Derived.Test.YtaidhenkijjcfaaGreatZoVsOk
import Derived.Deep.RegionWith
set_option maxRecDepth 20000
set_option maxHeartbeats 1000000
namespace Go.Proofs.YtaidhenkijjcfaaGreat
open Go.RowKit
set_option linter.unusedVariables false
theorem add_flatT (b off i:Nat):(⟨b,off,none⟩:Addr).add i=⟨b,off+i,none⟩:=by
  simp [Addr.add]
theorem own_nilT (w:World) (base:Nat) (h:base<=w.heap.size):OwnT base (w.alloc (.cells #[] 177)) (.slice (some ⟨w.heap.size,0,none⟩) 0 0) [] :=
  World.ownsRow_lit w #[] 0 h (by unfold maxLen;omega) (by simp)
theorem rdT_cells {w:World} {b off:Nat} {k:List Tx5} (h4:∀ i (h:i < k.length),TxAt w b (off+i * 5) k[i]) :
    ∀ j u,(k.map txC).flatten[j]?=some u->w.cell? ((⟨b,off,none⟩:Addr).add j)=some u:=by
  intro j u hj
  have hjl:j < (k.map txC).flatten.length:=(List.getElem?_eq_some_iff.1 hj).1
  rw [flat_len 5 _ (txM_sz k),List.length_map] at hjl
  have h1:j / 5 < k.length:=by omega
  have h2:j % 5 < 5:=Nat.mod_lt _ (by omega)
  have e:=flat_get 5 (k.map txC) (j / 5) (j % 5) (by simpa using h1) (txM_sz k) h2
  rw [show j / 5 * 5+j % 5=j from by omega,hj,List.getElem_map] at e
  obtain ⟨c0,c1,c2,c3,c4⟩:=h4 (j / 5) h1
  rw [add_flatT,show off+j=off+j / 5 * 5+j % 5 from by omega]
  generalize j % 5=m at e h2
  match m,h2 with
  | 0,_=>rw [Nat.add_zero,c0];simpa [txC] using e.symm
  | 1,_=>rw [c1];simpa [txC] using e.symm
  | 2,_=>rw [c2];simpa [txC] using e.symm
  | 3,_=>rw [c3];simpa [txC] using e.symm
  | 4,_=>rw [c4];simpa [txC] using e.symm
theorem app_ownTs {ops:Array Oper} {rest:List Oper} {o:Oper} {a:Act} {Q:Exit->Act->World->Prop} (w:World) (hgd:o.guard=none) (s x:Operand)
    (ho:o.op=.call { callee:=.builtin .append,args:=#[s,x],argTypes:=#[70,70] })
    (base:Nat) (v vx:Value) (l k:List Tx5) (hs:a.eval s=v) (hx:a.eval x=vx) (hown:OwnT base w v l) (hrd:RdT w vx k)
    (hlen:l.length+k.length<=100000000) (hbase:base<=w.heap.size)
    (h:∀ v' w',OwnT base w' v' (l ++ k)->Below base w w'->wpList Tryz.prog ops Q rest (a.put o.dst v') w'):wpList Tryz.prog ops Q (o :: rest) a w:=by
  obtain ⟨i0,hi,hz0,hz1,hz2⟩:=info_parts Tryz.infoTx
  have hbel:∀ w',w.grownBy w' v.ownBlock->Below base w w':=fun w' hg=>(Below.refl _ _).grown hg hbase (fun k hk=>(World.ownsRow.lt hown k hk).1)
  rcases hrd with ⟨ax,cap,rfl,rfl,hnil⟩ | ⟨b,off,cap,h0,rfl,h1,h2,h3,h4⟩
  · cases ax with
    | none =>
      have hc:cap=0:=hnil rfl
      subst hc
      refine wpList_append_own_none hgd s x 70 ho base 177 i0 5 Tryz.underlying70 hi v l.length (l.map txC).flatten hs hown hx ?_
      exact h v w (by simpa [OwnT] using hown) (Below.refl _ _)
    | some ad =>
      refine wpList_append_own w hgd s x 70 ho base 177 i0 (.agg #[.int .i64 0,.string { data:=#[] },.string { data:=#[] },.int .i64 0,.int .i64 0]) 5 56 Tryz.underlying70 hi hz0 hz1 hz2 rfl (by decide) v l.length (l.map txC).flatten hs hown ad 0 cap [] hx rfl (by intro j u hj;simp at hj) (by intro u hu;simp at hu) (by unfold maxLen;simp at hlen;omega) (by simp at hlen;omega) hbase ?_
      intro v' w' ho' hg _
      exact h v' w' (by simpa [OwnT] using ho') (hbel w' hg)
  · refine wpList_append_own w hgd s x 70 ho base 177 i0 (.agg #[.int .i64 0,.string { data:=#[] },.string { data:=#[] },.int .i64 0,.int .i64 0]) 5 56 Tryz.underlying70 hi hz0 hz1 hz2 rfl (by decide) v l.length (l.map txC).flatten hs hown ⟨b,off,none⟩ k.length cap (k.map txC).flatten hx (by rw [flat_len 5 _ (txM_sz k),List.length_map]) (rdT_cells h4) ?_ (by unfold maxLen;omega) (by omega) hbase ?_
    · intro u hu
      obtain ⟨c,hc,hu⟩:=List.mem_flatten.1 hu
      obtain ⟨p,_,rfl⟩:=List.mem_map.1 hc
      simp only [txC,List.mem_cons,List.not_mem_nil,or_false] at hu
      rcases hu with rfl | rfl | rfl | rfl | rfl <;> rfl
    · intro v' w' ho' hg _
      exact h v' w' (by simpa [OwnT] using ho') (hbel w' hg)
theorem copiedTxs_any (v:Value) (l:List Tx5) (w:World) (hr:RdT w v l) (hl:l.length<=4000000) :
    Calls Tryz.prog 163 #[v] w fun e w'=>∃ v',e=.returned v'/\OwnT w.heap.size w' v' l/\Below w.heap.size w w':=by
  obtain ⟨a,c,rfl⟩:=hr.shape
  have h1:Below w.heap.size w (w.alloc (.cells #[] 177)):=(Below.refl _ w).alloc (Nat.le_refl _) _
  have Hr:=hide (hr.below h1 (Nat.le_refl _))
  clear hr
  go_enter Tryz.func163,Tryz.ntmps163
  go_wp2_with (at_builtin;refine app_ownTs _ rfl _ _ rfl w.heap.size _ _ [] l rfl rfl (own_nilT w w.heap.size (Nat.le_refl _)) Hr.out (by simp;omega) (by simp) ?_;intro v' w' ho hb)
  go_ret
  exact ⟨v',rfl,ho,h1.trans hb⟩
def mkV (k n:Nat):List Vl:=(List.range n).map (fun i=>(mtx (k+2 * i),((k+2 * i+1:Nat):Int)))
theorem mkV_len (k n:Nat):(mkV k n).length=n:=by simp [mkV]
theorem mkV_at (k n j:Nat) (h:j < (mkV k n).length):(mkV k n)[j]=(mtx (k+2 * j),((k+2 * j+1:Nat):Int)):=by simp [mkV]
theorem gen_setV {α β:Type} (M l:List α) (f:α->β) (j:Nat) (hM:M.length=l.length) (hj:j < M.length):((M.take j ++ l.drop j).map f).set j (f M[j])=(M.take (j+1) ++ l.drop (j+1)).map f:=by
  have e1:((M.take j).map f).length=j:=by simp;omega
  rw [List.map_append,List.set_append_right _ _ (by omega),e1,Nat.sub_self,List.drop_eq_getElem_cons (show j < l.length by omega),List.map_cons,List.set_cons_zero,List.take_succ_eq_append_getElem hj,List.map_append,List.map_append,List.append_assoc]
  rfl
theorem markValS_any (v:Value) (l:List Vl) (k base:Nat) (w:World) (ho:OwnV base w v l) (hl:l.length<=10000000) (hk:k<=100000000) (hk0:0 < k) :
    Calls Tryz.prog 47 #[v,.int .i64 (k:Int)] w fun e w'=>e=.returned (.int .i64 ((k+2 * l.length:Nat):Int))/\OwnV base w' v (mkV k l.length)/\w.grownBy w' v.ownBlock:=by
  have hML:=mkV_len k l.length
  have hMA:=mkV_at k l.length
  generalize hMd:mkV k l.length=M at hML hMA
  clear hMd
  rcases ho.2 with ⟨rfl,hn⟩ | ⟨g,cap,cur,rfl,_,_,_,hcm,_,_⟩
  · have e:l=[]:=List.length_eq_zero_iff.1 hn
    subst e
    have e2:M=[]:=List.length_eq_zero_iff.1 hML
    subst e2
    have Ho:=hide ho
    clear ho
    go_enter Tryz.func47,Tryz.ntmps47
    go_wp2
    refine wp_loop_rounds 1 ?_
    rw [rounds_succ]
    go_wp2
    go_ret
    exact ⟨rfl,Ho.out,World.grownBy.refl _ _⟩
  · have Ho:=hide ho
    have HML:=hide hML
    have HMA:=hide hMA
    have hMl:l.length<=M.length:=by omega
    have hMg:M.length<=l.length:=by omega
    clear ho hML hMA
    go_enter Tryz.func47,Tryz.ntmps47
    go_wp2
    go_loopw [1,5] (fun kv iv wr=>∃ j:Nat,j<=l.length/\iv=.int .i64 (j:Int)/\kv=.int .i64 ((k+2 * j:Nat):Int)/\wr.ownsRow base 100 2 (.slice (some ⟨g,0,none⟩) l.length cap) l.length ((M.take j ++ l.drop j).map vlC).flatten/\w.grownBy wr (some g))
      (fun _ iv _=>l.length - (intOf iv).toNat)
    case atStart=>exact ⟨0,Nat.zero_le _,rfl,rfl,by simpa [OwnV] using Ho.out,World.grownBy.refl _ _⟩
    case round =>
      obtain ⟨j,hj,rfl,rfl,hown,hgr⟩:=hrel
      by_cases hlt:j < l.length
      · have hjM:j < M.length:=by omega
        obtain ⟨K,hK⟩:∃ K:Nat,k+2 * j=K:=⟨_,rfl⟩
        have hK0:0 < K:=by omega
        have hK2:K<=150000000:=by omega
        have eM:vlC M[j]=[.string (mtx K),.int .i64 ((K+1:Nat):Int)]:=by rw [HMA.out j hjM,hK];rfl
        have hsz:=vlM_sz (M.take j ++ l.drop j)
        have hlen:((M.take j ++ l.drop j).map vlC).length=l.length:=by simp;omega
        have Hm:=hide (fun w=>markText_any K w hK0 (by omega))
        obtain ⟨u0,hu0⟩:∃ u,((M.take j ++ l.drop j).map vlC).flatten[j * 2]?=some u:=⟨_,List.getElem?_eq_getElem (by rw [flat_len 2 _ hsz];omega)⟩
        obtain ⟨u1,hu1⟩:∃ u,((M.take j ++ l.drop j).map vlC).flatten[j * 2+1]?=some u:=⟨_,List.getElem?_eq_getElem (by rw [flat_len 2 _ hsz];omega)⟩
        have hli:(j:Int) < (l.length:Int):=by omega
        rw [hK]
        have HK:=hide hK
        have Hput:=hide (flat_put2 ((M.take j ++ l.drop j).map vlC) j (.string (mtx K)) (.int .i64 ((K+1:Nat):Int)) (by rw [hlen];exact hlt) hsz)
        have Heq:=hide (gen_setV M l vlC j HML.out hjM)
        rw [eM] at Heq
        clear hK
        have Hown:=hide hown
        have Hgr:=hide hgr
        clear hown hgr
        go_wp2_with fail
        refine (Hm.out _).mono ?_
        rintro e w1 ⟨rfl,hb1⟩
        have hown:=row_below Hown.out hb1 (Nat.le_refl _)
        have hgr:=grownS_trans Hgr.out (grown_below (some g) hb1)
        have d0:=hown.cellAt (j * 2) (by omega)
        have d1:=hown.cellAt (j * 2+1) (by omega)
        have f0:=hown.frozenAt (j * 2)
        have f1:=hown.frozenAt (j * 2+1)
        rw [hu0] at d0
        rw [hu1] at d1
        have hst:=hown.stored (j * 2) (.string (mtx K))
        have hst2:=hst.1.stored (j * 2+1) (.int .i64 ((K+1:Nat):Int))
        rw [Hput.out,Heq.out] at hst2
        have Hst:=hide hst2.1
        have Hgr2:=hide (grownS_trans (grownS_trans hgr hst.2) hst2.2)
        clear hst hst2 hown hgr hu0 hu1 eM Hown Hgr hb1 Hput Heq
        generalize mtx K=mK at *
        go_wp2
        go_roundw
        case rel=>exact ⟨j+1,by omega,by go_num,by rw [show k+2 * (j+1)=K+2 from by have:=HK.out;omega];go_num,Hst.out,Hgr2.out⟩
        case measure=>simp [intOf];omega
      · have e:M.take j ++ l.drop j=M:=by rw [List.take_of_length_le (by omega),List.drop_of_length_le (by omega),List.append_nil]
        rw [e] at hown
        have ho':OwnV base wr (.slice (some ⟨g,0,none⟩) l.length cap) M:=by
          unfold OwnV
          rw [HML.out]
          exact hown
        have e2:j=l.length:=by omega
        have Ho':=hide ho'
        have Hgr:=hide hgr
        clear ho' hgr hown e
        subst e2
        go_wp2
        go_ret
        exact ⟨rfl,Ho'.out,Hgr.out⟩
theorem heldValS_any (v:Value) (k n:Nat) (w:World) (hr:RdV w v (mkV k n)) (hl:n<=10000000) (hk:k<=100000000) (hk0:0 < k) :
    Calls Tryz.prog 50 #[v,.int .i64 (k:Int)] w fun e w'=>e=.returned (.int .i64 ((k+2 * n:Nat):Int))/\Below w.heap.size w w':=by
  have hML:=mkV_len k n
  have hMA:=mkV_at k n
  generalize hMd:mkV k n=M at hML hMA hr
  clear hMd
  rcases hr with ⟨a,cap,rfl,rfl,-⟩ | ⟨b,off,cap,h0,rfl,h1,h2,h3,h4⟩
  · simp at hML
    subst hML
    clear hMA
    go_enter Tryz.func50,Tryz.ntmps50
    go_wp2
    refine wp_loop_rounds 1 ?_
    rw [rounds_succ]
    go_wp2
    go_ret
    exact ⟨rfl,Below.refl _ _⟩
  · have HMA:=hide hMA
    have hMl:n<=M.length:=by omega
    have hMg:M.length<=n:=by omega
    have H4:=hide h4
    clear hML hMA h4
    go_enter Tryz.func50,Tryz.ntmps50
    go_wp2
    go_loopw [1,5] (fun kv iv wr=>∃ j:Nat,j<=n/\iv=.int .i64 (j:Int)/\kv=.int .i64 ((k+2 * j:Nat):Int)/\Below w.heap.size w wr) (fun _ iv _=>n - (intOf iv).toNat)
    case atStart=>exact ⟨0,Nat.zero_le _,rfl,rfl,Below.refl _ _⟩
    case round =>
      obtain ⟨j,hj,rfl,rfl,hb⟩:=hrel
      by_cases hlt:j < n
      · have hjM:j < M.length:=by omega
        have hc0:wr.cell? ⟨b,off+j * 2,none⟩=some (.string M[j].1):=(hb.cell (p:=⟨b,off+j * 2,none⟩) h3).trans (H4.out j hjM).1
        have hc1:wr.cell? ⟨b,off+j * 2+1,none⟩=some (.int .i64 M[j].2):=(hb.cell (p:=⟨b,off+j * 2+1,none⟩) h3).trans (H4.out j hjM).2
        obtain ⟨K,hK⟩:∃ K:Nat,k+2 * j=K:=⟨_,rfl⟩
        have hK2:K<=150000000:=by omega
        have hK0:0 < K:=by omega
        rw [HMA.out j hjM,hK] at hc0 hc1
        simp only at hc0 hc1
        rw [hK]
        have HK:=hide hK
        have hli:(j:Int) < (M.length:Int):=by omega
        have Hm:=hide (fun w=>markText_any K w hK0 (by omega))
        have hsz:=hb.size
        have hbw:b < wr.heap.size:=by omega
        have Hb:=hide hb
        clear hK hb
        generalize mtx K=mK at *
        go_wp2_with fail
        go_region_with (go_at_call 107;refine (Hm.out _).mono ?_;rintro e w2 ⟨rfl,hb2⟩;have d0:=(hb2.cell (p:=⟨b,off+j * 2,none⟩) (by exact hbw)).trans (by exact hc0);have d1:=(hb2.cell (p:=⟨b,off+j * 2+1,none⟩) (by exact hbw)).trans (by exact hc1))
        all_goals
          rename Below _ _ _=>hb2
          go_wp2
          go_roundw
          case rel=>exact ⟨j+1,by omega,by go_num,by rw [show k+2 * (j+1)=K+2 from by have:=HK.out;omega];go_num,Hb.out.drew.trans (hb2.mono hsz)⟩
          case measure=>simp [intOf];omega
      · have e:j=n:=by omega
        have He:=hide e
        clear e
        go_wp2
        go_ret
        exact ⟨ret_int (by rw [<- He.out]),hb⟩
end Go.Proofs.YtaidhenkijjcfaaGreat
