/- Appending to texts of the call's own. -/
import Derived.Test.YtaidhenkijjcfaaGreatZoBkTo
import Derived.Test.YtaidhenkijjcfaaGreatZoTxMarkC
import Derived.Test.YtaidhenkijjcfaaGreatZoVsMark
set_option maxRecDepth 20000
set_option maxHeartbeats 2000000
namespace Go.Proofs.YtaidhenkijjcfaaGreat
open Go.RowKit
set_option linter.unusedVariables false
def mkI (k n:Nat):List Int:=(List.range n).map (fun j=>((k+j:Nat):Int))
theorem mkI_len (k n:Nat):(mkI k n).length=n:=by simp [mkI]
theorem mkI_at (k n j:Nat) (h:j < (mkI k n).length):(mkI k n)[j]=((k+j:Nat):Int):=by simp [mkI]
theorem markIntS_any (v:Value) (l:List Int) (k base:Nat) (w:World) (ho:OwnI base w v l) (hl:l.length<=10000000) (hk:k<=100000000) (hk0:0 < k) :
    Calls Tryz.prog 75 #[v,.int .i64 (k:Int)] w fun e w'=>e=.returned (.int .i64 ((k+l.length:Nat):Int))/\OwnI base w' v (mkI k l.length)/\w.grownBy w' v.ownBlock:=by
  have hML:=mkI_len k l.length
  have hMA:=mkI_at k l.length
  generalize hMd:mkI k l.length=M at hML hMA
  clear hMd
  rcases ho.2 with ⟨rfl,hn⟩ | ⟨g,cap,cur,rfl,_,_,_,hcm,_,_⟩
  · have e:l=[]:=List.length_eq_zero_iff.1 hn
    subst e
    have e2:M=[]:=List.length_eq_zero_iff.1 hML
    subst e2
    have Ho:=hide ho
    clear ho
    go_enter Tryz.func75,Tryz.ntmps75
    go_wp2
    refine wp_loop_rounds 1 ?_
    rw [rounds_succ]
    go_wp2
    go_ret
    exact ⟨rfl,Ho.out,World.grownBy.refl _ _⟩
  · have Ho:=hide ho
    have HML:=hide hML
    have HMA:=hide hMA
    have hMl:l.length<=M.length:=by omega
    have hMg:M.length<=l.length:=by omega
    clear ho hML hMA
    go_enter Tryz.func75,Tryz.ntmps75
    go_wp2
    go_loopw [1,5] (fun kv iv wr=>∃ j:Nat,j<=l.length/\iv=.int .i64 (j:Int)/\kv=.int .i64 ((k+j:Nat):Int)/\wr.ownsRow base 3 1 (.slice (some ⟨g,0,none⟩) l.length cap) l.length ((M.take j ++ l.drop j).map (Value.int .i64))/\w.grownBy wr (some g))
      (fun _ iv _=>l.length - (intOf iv).toNat)
    case atStart=>exact ⟨0,Nat.zero_le _,rfl,rfl,by simpa [OwnI] using Ho.out,World.grownBy.refl _ _⟩
    case round =>
      obtain ⟨j,hj,rfl,rfl,hown,hgr⟩:=hrel
      by_cases hlt:j < l.length
      · have hjM:j < M.length:=by omega
        obtain ⟨K,hK⟩:∃ K:Nat,k+j=K:=⟨_,rfl⟩
        have hK2:K<=200000000:=by omega
        have hK0:0 < K:=by omega
        have eM:M[j]=(K:Int):=by rw [HMA.out j hjM,hK]
        rw [hK]
        have HK:=hide hK
        clear hK
        have Hown:=hide hown
        have Hgr:=hide hgr
        clear hown hgr
        have hown2:=Hown.out
        have hf:=hown2.frozenAt j
        have hd:=hown2.cellAt j (by omega)
        obtain ⟨u,hu⟩:∃ u,((M.take j ++ l.drop j).map (Value.int .i64))[j]?=some u:=⟨_,List.getElem?_eq_getElem (by simp;omega)⟩
        rw [hu] at hd
        have hst:=hown2.stored j (.int .i64 M[j])
        rw [gen_set M l (Value.int .i64) j HML.out hjM,eM] at hst
        have Hst:=hide hst
        clear hst hown2 hu eM
        go_wp2
        go_roundw
        case rel=>exact ⟨j+1,by omega,by go_num,by rw [show k+(j+1)=K+1 from by have:=HK.out;omega];go_num,Hst.out.1,grownS_trans Hgr.out Hst.out.2⟩
        case measure=>simp [intOf];omega
      · have e:M.take j ++ l.drop j=M:=by rw [List.take_of_length_le (by omega),List.drop_of_length_le (by omega),List.append_nil]
        rw [e] at hown
        have ho':OwnI base wr (.slice (some ⟨g,0,none⟩) l.length cap) M:=by
          unfold OwnI
          rw [HML.out]
          exact hown
        have e2:j=l.length:=by omega
        have Ho':=hide ho'
        have Hgr:=hide hgr
        clear ho' hgr hown e
        subst e2
        go_wp2
        go_ret
        exact ⟨rfl,Ho'.out,Hgr.out⟩
theorem markQc_any (r b:Int) (v:Value) (l:List ByteArray) (k base:Nat) (w:World) (ho:OwnS base w v l) (hl:l.length<=10000000) (hk:k<=100000000) (hk0:0 < k) :
    Calls Tryz.prog 49 #[qcV r b v,.int .i64 (k:Int)] w fun e w'=>e=.returned (.int .i64 ((k+l.length:Nat):Int))/\OwnS base w' v (mkS k l.length)/\Oth (fun g=>v.ownBlock=some g) w w':=by
  obtain ⟨a,c,rfl⟩:=ho.rd.shape
  simp only [qcV]
  obtain ⟨w1,hw1⟩:∃ x,w.alloc (.cells #[.int .i64 r,.int .i64 b,.slice a l.length c] 40)=x:=⟨_,rfl⟩
  have b1:Below w.heap.size w w1:=by rw [<- hw1];exact (Below.refl _ w).alloc (Nat.le_refl _) _
  have k1:Blk w1 w.heap.size 40 [.int .i64 r,.int .i64 b,.slice a l.length c]:=by rw [<- hw1];exact Blk.new w _ _
  have HM:=hide (markStringS_any (.slice a l.length c) l k base w1 (ho.below b1 (Nat.le_refl _)) hl hk hk0)
  have x2:=k1.cell 2
  simp only [List.getElem?_cons_zero,List.getElem?_cons_succ] at x2
  have HB:=hide b1
  clear ho k1 b1
  go_enter Tryz.func49,Tryz.ntmps49
  go_wp2_with fail
  refine HM.out.mono ?_
  rintro e w2 ⟨rfl,ho2,hg2⟩
  clear x2 hw1
  go_wp2
  go_ret
  exact ⟨rfl,ho2,(Oth.of_below HB.out).trans (Oth.of_grown hg2 (fun g h=>h))⟩
theorem markTc_any (r:Int) (v u:Value) (l:List ByteArray) (n:List Int) (k b1 b2:Nat) (w:World) (ho:OwnS b1 w v l) (hi:OwnI b2 w u n) (hl:l.length<=10000000) (hn:n.length<=10000000) (hk:k<=80000000) (hk0:0 < k) :
    Calls Tryz.prog 72 #[tcV r v u,.int .i64 (k:Int)] w fun e w'=>e=.returned (.int .i64 ((k+l.length+n.length:Nat):Int))/\OwnS b1 w' v (mkS k l.length)/\OwnI b2 w' u (mkI (k+l.length) n.length)/\Oth (fun g=>v.ownBlock=some g\/u.ownBlock=some g) w w':=by
  have Hap:=hide (rows_apart (w:=w) ho hi (by decide))
  obtain ⟨a,c,rfl⟩:=ho.rd.shape
  obtain ⟨a2,c2,rfl⟩:=hi.rd.shape
  simp only [tcV]
  obtain ⟨w1,hw1⟩:∃ x,w.alloc (.cells #[.int .i64 r,.slice a l.length c,.slice a2 n.length c2] 67)=x:=⟨_,rfl⟩
  have p1:Below w.heap.size w w1:=by rw [<- hw1];exact (Below.refl _ w).alloc (Nat.le_refl _) _
  have k1:Blk w1 w.heap.size 67 [.int .i64 r,.slice a l.length c,.slice a2 n.length c2]:=by rw [<- hw1];exact Blk.new w _ _
  have HM:=hide (markStringS_any (.slice a l.length c) l k b1 w1 (ho.below p1 (Nat.le_refl _)) hl (by omega) hk0)
  have hlt:Hid (∀ g,(Value.slice a l.length c).ownBlock=some g->g < w.heap.size):=hide (fun g h=>(World.ownsRow.lt ho g h).2)
  have x1:=k1.cell 1
  simp only [List.getElem?_cons_zero,List.getElem?_cons_succ] at x1
  have HB:=hide p1
  have K1:=hide k1
  have Hi:=hide (show OwnI b2 w1 (.slice a2 n.length c2) n from row_oth (S:=fun _=>False) hi (Oth.of_below p1) (fun _ _ h=>h))
  obtain ⟨K,hK⟩:∃ K:Nat,k+l.length=K:=⟨_,rfl⟩
  have hKb:K<=90000000:=by omega
  have hK0:0 < K:=by omega
  rw [hK] at HM ⊢
  clear ho hi k1 p1
  go_enter Tryz.func72,Tryz.ntmps72
  go_wp2_with fail
  refine HM.out.mono ?_
  rintro e w2 ⟨rfl,ho2,hg2⟩
  have O2:=Oth.of_grown (S:=fun g=>(Value.slice a l.length c).ownBlock=some g) hg2 (fun g h=>h)
  have hi2:OwnI b2 w2 (.slice a2 n.length c2) n:=row_oth Hi.out O2 (fun g h h'=>Hap.out g h h')
  have x2:w2.cell? ⟨w.heap.size,2,none⟩=some (.slice a2 n.length c2):=by
    have h:=K1.out.cell 2
    simp only [List.getElem?_cons_zero,List.getElem?_cons_succ] at h
    unfold World.cell? at h ⊢
    rw [O2.block w.heap.size K1.out.lt (fun h'=>by have:=hlt.out _ h';omega)]
    exact h
  have HI:=hide (markIntS_any (.slice a2 n.length c2) n K b2 w2 hi2 hn (by omega) hK0)
  have Ho2:=hide ho2
  have HO2:=hide O2
  clear ho2 hg2 O2 hi2 x1 hw1
  go_wp2_with fail
  refine HI.out.mono ?_
  rintro e w3 ⟨rfl,ho3,hg3⟩
  have O3:=Oth.of_grown (S:=fun g=>(Value.slice a2 n.length c2).ownBlock=some g) hg3 (fun g h=>h)
  have Hs3:Hid (OwnS b1 w3 (.slice a l.length c) (mkS k l.length)):=hide (row_oth Ho2.out O3 (fun g h h'=>Hap.out g h' h))
  have HO:=hide ((Oth.of_below (S:=fun g=>(Value.slice a l.length c).ownBlock=some g\/(Value.slice a2 n.length c2).ownBlock=some g) HB.out).trans ((HO2.out.mono (fun _ h=>.inl h)).trans (O3.mono (fun _ h=>.inr h))))
  clear hg3 O3 x2
  go_wp2
  go_ret
  exact ⟨rfl,Hs3.out,ho3,HO.out⟩
theorem own_nilS (w:World) (base:Nat) (h:base<=w.heap.size):OwnS base (w.alloc (.cells #[] 9)) (.slice (some ⟨w.heap.size,0,none⟩) 0 0) [] :=
  World.ownsRow_lit w #[] 0 h (by unfold maxLen;omega) (by simp)
theorem app_ownS {ops:Array Oper} {rest:List Oper} {o:Oper} {a:Act} {Q:Exit->Act->World->Prop} (w:World) (hgd:o.guard=none) (s x:Operand)
    (ho:o.op=.call { callee:=.builtin .append,args:=#[s,x],argTypes:=#[26,26] })
    (base:Nat) (v vx:Value) (l k:List ByteArray) (hs:a.eval s=v) (hx:a.eval x=vx) (hown:OwnS base w v l) (hrd:RdS w vx k)
    (hlen:l.length+k.length<=100000000) (hbase:base<=w.heap.size)
    (h:∀ v' w',OwnS base w' v' (l ++ k)->Below base w w'->wpList Tryz.prog ops Q rest (a.put o.dst v') w'):wpList Tryz.prog ops Q (o :: rest) a w:=by
  obtain ⟨i0,hi,hz0,hz1,hz2⟩:=info_parts Tryz.infoStr
  have hbel:∀ w',w.grownBy w' v.ownBlock->Below base w w':=fun w' hg=>(Below.refl _ _).grown hg hbase (fun k hk=>(World.ownsRow.lt hown k hk).1)
  rcases hrd with ⟨ax,cap,rfl,rfl,hnil⟩ | ⟨b,off,cap,h0,rfl,h1,h2,h3,h4⟩
  · cases ax with
    | none =>
      have hc:cap=0:=hnil rfl
      subst hc
      refine wpList_append_own_none hgd s x 26 ho base 9 i0 1 Tryz.underlying26 hi v l.length (l.map Value.string) hs hown hx ?_
      exact h v w (by simpa [OwnS] using hown) (Below.refl _ _)
    | some ad =>
      refine wpList_append_own w hgd s x 26 ho base 9 i0 (.string ByteArray.empty) 1 16 Tryz.underlying26 hi hz0 hz1 hz2 rfl (by decide) v l.length (l.map Value.string) hs hown ad 0 cap [] hx rfl (by intro j u hj;simp at hj) (by intro u hu;simp at hu) (by unfold maxLen;simp at hlen;omega) (by simp at hlen;omega) hbase ?_
      intro v' w' ho' hg _
      exact h v' w' (by simpa [OwnS] using ho') (hbel w' hg)
  · refine wpList_append_own w hgd s x 26 ho base 9 i0 (.string ByteArray.empty) 1 16 Tryz.underlying26 hi hz0 hz1 hz2 rfl (by decide) v l.length (l.map Value.string) hs hown ⟨b,off,none⟩ k.length cap (k.map Value.string) hx (by simp) ?_ ?_ (by unfold maxLen;omega) (by omega) hbase ?_
    · intro j u hj
      have hj':j < k.length:=by have:=(List.getElem?_eq_some_iff.1 hj).1;simpa using this
      have ea:(⟨b,off,none⟩:Addr).add j=⟨b,off+j,none⟩:=by
        by_cases hz:j=0
        · subst hz;simp [Addr.add]
        · simp [Addr.add,hz]
      rw [ea,h4 j hj']
      simp [hj'] at hj
      rw [<- hj]
    · intro u hu
      obtain ⟨c,_,rfl⟩:=List.mem_map.1 hu
      rfl
    · intro v' w' ho' hg _
      exact h v' w' (by simpa [OwnS] using ho') (hbel w' hg)
end Go.Proofs.YtaidhenkijjcfaaGreat
