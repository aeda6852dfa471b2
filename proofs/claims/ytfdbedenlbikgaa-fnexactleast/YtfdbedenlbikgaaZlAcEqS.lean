/- Accounts held against each other; their size. -/
import Derived.Test.YtfdbedenlbikgaaZlVtOne
set_option maxRecDepth 20000
set_option maxHeartbeats 2000000
namespace Go.Proofs.Ytfdbedenlbikgaa
open Go.RowKit
set_option linter.unusedVariables false
theorem flat_put3 {α:Type} (L:List (List α)) (i:Nat) (a b c:α) (hi:i < L.length) (h:∀ x ∈ L,x.length=3):((L.flatten.set (i * 3) a).set (i * 3+1) b).set (i * 3+2) c=(L.set i [a,b,c]).flatten:=by
  have e0:=flat_set 3 a L i 0 hi h (by omega)
  rw [Nat.add_zero] at e0
  have hL:∀ x ∈ L.set i (L[i].set 0 a),x.length=3:=fun x hx=>by
    rcases List.mem_or_eq_of_mem_set hx with h' | rfl
    · exact h x h'
    · simpa using h L[i] (List.getElem_mem hi)
  have hL2:∀ x ∈ (L.set i (L[i].set 0 a)).set i (((L.set i (L[i].set 0 a))[i]'(by simpa using hi)).set 1 b),x.length=3:=fun x hx=>by
    rcases List.mem_or_eq_of_mem_set hx with h' | rfl
    · exact hL x h'
    · simpa using h L[i] (List.getElem_mem hi)
  rw [e0,flat_set 3 b _ i 1 (by simpa using hi) hL (by omega),flat_set 3 c _ i 2 (by simpa using hi) hL2 (by omega)]
  have hl:=h L[i] (List.getElem_mem hi)
  congr 1
  rw [List.set_set,List.set_set]
  congr 1
  simp only [List.getElem_set_self]
  match hx:L[i],hl with
  | [x,y,z],_=>rfl
theorem trC_sz (p:Tr):(trC p).length=3:=rfl
theorem trP_sz (l:List Tr) (k:Nat):∀ x ∈ part trC [Value.int .i64 0,Value.int .i64 0,Value.string { data:=#[] }] l k,x.length=3:=part_sz 3 _ _ _ _ trC_sz rfl
theorem Try.infoTVote:(Try.prog.info? 109).map (fun i=>(i.zero,i.size,i.bytes))=some (some (.agg #[.int .i64 0,.int .i64 0,.string { data:=#[] }]),3,32):=by kernel_rfl
theorem toVoteS_any (v:Value) (l:List Tr) (w:World) (hr:RdR w v l) (hl:l.length<=4000000) :
    Calls Try.prog 63 #[v] w fun e w'=>∃ v',e=.returned v'/\OwnR 109 w.heap.size w' v' l/\Below w.heap.size w w':=by
  obtain ⟨i0,hi,hz0,hz1,hz2⟩:=info_parts Try.infoTVote
  rcases hr with ⟨a,cap,rfl,rfl,-⟩ | ⟨b,off,cap,h0,rfl,h1,h2,h3,h4⟩
  · go_enter Try.func63,Try.ntmps63
    go_wp2_with (refine wpList_make_full _ rfl _ _ 58 rfl w.heap.size 109 i0 (.agg #[.int .i64 0,.int .i64 0,.string { data:=#[] }]) 3 Try.underlying58 hi hz0 hz1 .i64 .i64 _ _ 0 rfl rfl rfl rfl (by omega) (by unfold maxLen;omega) (Nat.le_refl _) ?_;intro w1 hown hgrow)
    have hb1:Below w.heap.size w w1:=(Below.refl _ _).grown hgrow (Nat.le_refl _) (by intro k hk;cases hk)
    refine wp_loop_rounds 1 ?_
    rw [rounds_succ]
    go_wp2
    go_ret
    have ho':OwnR 109 w.heap.size w1 (.slice (some ⟨w.heap.size,0,none⟩) 0 0) []:=by
      have e:=made_flat (Value.agg #[.int .i64 0,.int .i64 0,.string { data:=#[] }]).cells 3 0 rfl (by omega)
      rw [e] at hown
      exact hown
    exact ⟨_,rfl,ho',hb1⟩
  · go_enter Try.func63,Try.ntmps63
    go_wp2_with (refine wpList_make_full _ rfl _ _ 58 rfl w.heap.size 109 i0 (.agg #[.int .i64 0,.int .i64 0,.string { data:=#[] }]) 3 Try.underlying58 hi hz0 hz1 .i64 .i64 _ _ l.length rfl rfl rfl rfl (by rw [hz2];omega) (by unfold maxLen;omega) (Nat.le_refl _) ?_;intro w1 hown hgrow)
    have hb1:Below w.heap.size w w1:=(Below.refl _ _).grown hgrow (Nat.le_refl _) (by intro k hk;cases hk)
    go_loopw [4] (fun i wr=>∃ k:Nat,k<=l.length/\i=.int .i64 k/\wr.ownsRow w.heap.size 109 3 (.slice (some ⟨w.heap.size,0,none⟩) l.length l.length) l.length (part trC [Value.int .i64 0,Value.int .i64 0,Value.string { data:=#[] }] l k).flatten/\Below w.heap.size w wr)
      (fun i _=>l.length - (intOf i).toNat)
    case atStart =>
      refine ⟨0,Nat.zero_le _,rfl,?_,hb1⟩
      rw [part_zero]
      have e:=made_flat (Value.agg #[.int .i64 0,.int .i64 0,.string { data:=#[] }]).cells 3 l.length rfl (by omega)
      rw [e] at hown
      exact hown
    case round =>
      obtain ⟨k,hk,rfl,ho,hb⟩:=hrel
      clear hown hgrow hb1
      by_cases hlt:k < l.length
      · obtain ⟨d1,d2,d3⟩:=h4 k hlt
        have hc1:wr.cell? ⟨b,off+k * 3,none⟩=some (.int .i64 l[k].1):=(hb.cell (p:=⟨b,off+k * 3,none⟩) h3).trans d1
        have hc2:wr.cell? ⟨b,off+k * 3+1,none⟩=some (.int .i64 l[k].2.1):=(hb.cell (p:=⟨b,off+k * 3+1,none⟩) h3).trans d2
        have hc3:wr.cell? ⟨b,off+k * 3+2,none⟩=some (.string l[k].2.2):=(hb.cell (p:=⟨b,off+k * 3+2,none⟩) h3).trans d3
        have hli:(k:Int) < (l.length:Int):=by omega
        have Hput:=hide (flat_put3 (part trC [Value.int .i64 0,Value.int .i64 0,Value.string { data:=#[] }] l k) k (.int .i64 l[k].1) (.int .i64 l[k].2.1) (.string l[k].2.2) (by rw [part_len _ _ _ _ hk];exact hlt) (trP_sz l k))
        have Hnext:=hide (part_next trC [Value.int .i64 0,Value.int .i64 0,Value.string { data:=#[] }] l k hlt)
        have Hz0:=hide (flat_get 3 (part trC [Value.int .i64 0,Value.int .i64 0,Value.string { data:=#[] }] l k) k 0 (by rw [part_len _ _ _ _ hk];exact hlt) (trP_sz l k) (by omega))
        have Hz1:=hide (flat_get 3 (part trC [Value.int .i64 0,Value.int .i64 0,Value.string { data:=#[] }] l k) k 1 (by rw [part_len _ _ _ _ hk];exact hlt) (trP_sz l k) (by omega))
        have Hz2:=hide (flat_get 3 (part trC [Value.int .i64 0,Value.int .i64 0,Value.string { data:=#[] }] l k) k 2 (by rw [part_len _ _ _ _ hk];exact hlt) (trP_sz l k) (by omega))
        rw [part_at _ _ _ _ hlt] at Hz0 Hz1 Hz2
        have Hvl:Hid (trC l[k]=[.int .i64 l[k].1,.int .i64 l[k].2.1,.string l[k].2.2]):=hide rfl
        have hlb:w.heap.size < wr.heap.size:=((World.ownsRow.lt ho w.heap.size rfl)).2
        clear d1 d2 d3 h4
        generalize l[k].1=x at hc1 Hput Hvl
        generalize l[k].2.1=y at hc2 Hput Hvl
        generalize l[k].2.2=z at hc3 Hput Hvl
        go_wp2_with (go_at_call 68;refine (toVote_any _ _ _ _).mono ?_;rintro e w2 ⟨rfl,hb2⟩;have ho2:=row_below ho hb2 (Nat.le_refl _);have q0:=ho2.cellAt (k * 3) (by omega);have q1:=ho2.cellAt (k * 3+1) (by omega);have q2:=ho2.cellAt (k * 3+2) (by omega);have f0:=ho2.frozenAt (k * 3);have f1:=ho2.frozenAt (k * 3+1);have f2:=ho2.frozenAt (k * 3+2);rw [<- Nat.add_zero (k * 3),Hz0.out] at q0;rw [Hz1.out] at q1;rw [Hz2.out] at q2;rw [Nat.add_zero] at q0;simp only [List.getElem?_cons_zero,List.getElem?_cons_succ] at q0 q1 q2)
        go_roundw
        case rel =>
          refine ⟨k+1,by omega,by go_num,?_,(((hb.trans (hb2.mono hb.size)).setCell (p:=⟨w.heap.size,k * 3,none⟩) (Nat.le_refl _) _).setCell (p:=⟨w.heap.size,k * 3+1,none⟩) (Nat.le_refl _) _).setCell (p:=⟨w.heap.size,k * 3+2,none⟩) (Nat.le_refl _) _⟩
          have s1:=(ho2.stored (k * 3) (.int .i64 x)).1
          have s2:=(s1.stored (k * 3+1) (.int .i64 y)).1
          have s3:=(s2.stored (k * 3+2) (.string z)).1
          rw [Hput.out,<- Hvl.out,Hnext.out] at s3
          exact s3
        case measure=>simp [intOf];omega
      · have e:k=l.length:=by omega
        subst e
        rw [part_all] at ho
        go_wp2
        go_ret
        exact ⟨_,rfl,ho,hb⟩
theorem Try.infoTGone:(Try.prog.info? 110).map (fun i=>(i.zero,i.size,i.bytes))=some (some (.agg #[.int .i64 0,.int .i64 0,.string { data:=#[] }]),3,32):=by kernel_rfl
theorem toGoneS_any (v:Value) (l:List Tr) (w:World) (hr:RdR w v l) (hl:l.length<=4000000) :
    Calls Try.prog 64 #[v] w fun e w'=>∃ v',e=.returned v'/\OwnR 110 w.heap.size w' v' l/\Below w.heap.size w w':=by
  obtain ⟨i0,hi,hz0,hz1,hz2⟩:=info_parts Try.infoTGone
  rcases hr with ⟨a,cap,rfl,rfl,-⟩ | ⟨b,off,cap,h0,rfl,h1,h2,h3,h4⟩
  · go_enter Try.func64,Try.ntmps64
    go_wp2_with (refine wpList_make_full _ rfl _ _ 59 rfl w.heap.size 110 i0 (.agg #[.int .i64 0,.int .i64 0,.string { data:=#[] }]) 3 Try.underlying59 hi hz0 hz1 .i64 .i64 _ _ 0 rfl rfl rfl rfl (by omega) (by unfold maxLen;omega) (Nat.le_refl _) ?_;intro w1 hown hgrow)
    have hb1:Below w.heap.size w w1:=(Below.refl _ _).grown hgrow (Nat.le_refl _) (by intro k hk;cases hk)
    refine wp_loop_rounds 1 ?_
    rw [rounds_succ]
    go_wp2
    go_ret
    have ho':OwnR 110 w.heap.size w1 (.slice (some ⟨w.heap.size,0,none⟩) 0 0) []:=by
      have e:=made_flat (Value.agg #[.int .i64 0,.int .i64 0,.string { data:=#[] }]).cells 3 0 rfl (by omega)
      rw [e] at hown
      exact hown
    exact ⟨_,rfl,ho',hb1⟩
  · go_enter Try.func64,Try.ntmps64
    go_wp2_with (refine wpList_make_full _ rfl _ _ 59 rfl w.heap.size 110 i0 (.agg #[.int .i64 0,.int .i64 0,.string { data:=#[] }]) 3 Try.underlying59 hi hz0 hz1 .i64 .i64 _ _ l.length rfl rfl rfl rfl (by rw [hz2];omega) (by unfold maxLen;omega) (Nat.le_refl _) ?_;intro w1 hown hgrow)
    have hb1:Below w.heap.size w w1:=(Below.refl _ _).grown hgrow (Nat.le_refl _) (by intro k hk;cases hk)
    go_loopw [4] (fun i wr=>∃ k:Nat,k<=l.length/\i=.int .i64 k/\wr.ownsRow w.heap.size 110 3 (.slice (some ⟨w.heap.size,0,none⟩) l.length l.length) l.length (part trC [Value.int .i64 0,Value.int .i64 0,Value.string { data:=#[] }] l k).flatten/\Below w.heap.size w wr)
      (fun i _=>l.length - (intOf i).toNat)
    case atStart =>
      refine ⟨0,Nat.zero_le _,rfl,?_,hb1⟩
      rw [part_zero]
      have e:=made_flat (Value.agg #[.int .i64 0,.int .i64 0,.string { data:=#[] }]).cells 3 l.length rfl (by omega)
      rw [e] at hown
      exact hown
    case round =>
      obtain ⟨k,hk,rfl,ho,hb⟩:=hrel
      clear hown hgrow hb1
      by_cases hlt:k < l.length
      · obtain ⟨d1,d2,d3⟩:=h4 k hlt
        have hc1:wr.cell? ⟨b,off+k * 3,none⟩=some (.int .i64 l[k].1):=(hb.cell (p:=⟨b,off+k * 3,none⟩) h3).trans d1
        have hc2:wr.cell? ⟨b,off+k * 3+1,none⟩=some (.int .i64 l[k].2.1):=(hb.cell (p:=⟨b,off+k * 3+1,none⟩) h3).trans d2
        have hc3:wr.cell? ⟨b,off+k * 3+2,none⟩=some (.string l[k].2.2):=(hb.cell (p:=⟨b,off+k * 3+2,none⟩) h3).trans d3
        have hli:(k:Int) < (l.length:Int):=by omega
        have Hput:=hide (flat_put3 (part trC [Value.int .i64 0,Value.int .i64 0,Value.string { data:=#[] }] l k) k (.int .i64 l[k].1) (.int .i64 l[k].2.1) (.string l[k].2.2) (by rw [part_len _ _ _ _ hk];exact hlt) (trP_sz l k))
        have Hnext:=hide (part_next trC [Value.int .i64 0,Value.int .i64 0,Value.string { data:=#[] }] l k hlt)
        have Hz0:=hide (flat_get 3 (part trC [Value.int .i64 0,Value.int .i64 0,Value.string { data:=#[] }] l k) k 0 (by rw [part_len _ _ _ _ hk];exact hlt) (trP_sz l k) (by omega))
        have Hz1:=hide (flat_get 3 (part trC [Value.int .i64 0,Value.int .i64 0,Value.string { data:=#[] }] l k) k 1 (by rw [part_len _ _ _ _ hk];exact hlt) (trP_sz l k) (by omega))
        have Hz2:=hide (flat_get 3 (part trC [Value.int .i64 0,Value.int .i64 0,Value.string { data:=#[] }] l k) k 2 (by rw [part_len _ _ _ _ hk];exact hlt) (trP_sz l k) (by omega))
        rw [part_at _ _ _ _ hlt] at Hz0 Hz1 Hz2
        have Hvl:Hid (trC l[k]=[.int .i64 l[k].1,.int .i64 l[k].2.1,.string l[k].2.2]):=hide rfl
        have hlb:w.heap.size < wr.heap.size:=((World.ownsRow.lt ho w.heap.size rfl)).2
        clear d1 d2 d3 h4
        generalize l[k].1=x at hc1 Hput Hvl
        generalize l[k].2.1=y at hc2 Hput Hvl
        generalize l[k].2.2=z at hc3 Hput Hvl
        go_wp2_with (go_at_call 69;refine (toGone_any _ _ _ _).mono ?_;rintro e w2 ⟨rfl,hb2⟩;have ho2:=row_below ho hb2 (Nat.le_refl _);have q0:=ho2.cellAt (k * 3) (by omega);have q1:=ho2.cellAt (k * 3+1) (by omega);have q2:=ho2.cellAt (k * 3+2) (by omega);have f0:=ho2.frozenAt (k * 3);have f1:=ho2.frozenAt (k * 3+1);have f2:=ho2.frozenAt (k * 3+2);rw [<- Nat.add_zero (k * 3),Hz0.out] at q0;rw [Hz1.out] at q1;rw [Hz2.out] at q2;rw [Nat.add_zero] at q0;simp only [List.getElem?_cons_zero,List.getElem?_cons_succ] at q0 q1 q2)
        go_roundw
        case rel =>
          refine ⟨k+1,by omega,by go_num,?_,(((hb.trans (hb2.mono hb.size)).setCell (p:=⟨w.heap.size,k * 3,none⟩) (Nat.le_refl _) _).setCell (p:=⟨w.heap.size,k * 3+1,none⟩) (Nat.le_refl _) _).setCell (p:=⟨w.heap.size,k * 3+2,none⟩) (Nat.le_refl _) _⟩
          have s1:=(ho2.stored (k * 3) (.int .i64 x)).1
          have s2:=(s1.stored (k * 3+1) (.int .i64 y)).1
          have s3:=(s2.stored (k * 3+2) (.string z)).1
          rw [Hput.out,<- Hvl.out,Hnext.out] at s3
          exact s3
        case measure=>simp [intOf];omega
      · have e:k=l.length:=by omega
        subst e
        rw [part_all] at ho
        go_wp2
        go_ret
        exact ⟨_,rfl,ho,hb⟩
open Classical in
theorem eqAcctS_any (v1 v2:Value) (l1 l2:List Ac) (w:World) (hr1:RdA w v1 l1) (hr2:RdA w v2 l2) (hl1:l1.length<=4000000) (hl2:l2.length<=4000000) (ha1:∀ a ∈ l1,a.2.2.2.2.length<=4000000) (ha2:∀ a ∈ l2,a.2.2.2.2.length<=4000000) :
    Calls Try.prog 43 #[v1,v2] w fun e w'=>e=.returned (.bool (decide (l1=l2)))/\Below w.heap.size w w':=by
  by_cases hne:l1.length=l2.length
  · rcases hr1 with ⟨a,cap,rfl,rfl,-⟩ | ⟨b,off,cap,h0,rfl,h1,h2,h3,h4⟩
    · have e2:l2=[]:=List.length_eq_zero_iff.1 (by simpa using hne.symm)
      subst e2
      obtain ⟨a2,cap2,rfl⟩:=hr2.shape
      clear hr2
      go_enter Try.func43,Try.ntmps43
      go_wp2
      refine wp_loop_rounds 1 ?_
      rw [rounds_succ]
      go_wp2
      go_ret
      exact ⟨rfl,Below.refl _ _⟩
    · rcases hr2 with ⟨a2,cap2,rfl,rfl,-⟩ | ⟨b2,off2,cap2,g0,rfl,g1,g2,g3,g4⟩
      · exact absurd (List.length_eq_zero_iff.1 (by simpa using hne)) h0
      · have Hne:=hide hne
        have hlen:((l1.length:Int) != (l2.length:Int))=false:=by rw [hne];simp
        have hle:l1.length<=l2.length:=by omega
        have hge:l2.length<=l1.length:=by omega
        have H4:=hide h4
        have G4:=hide g4
        have A1:=hide ha1
        have A2:=hide ha2
        clear hne h4 g4 ha1 ha2
        go_enter Try.func43,Try.ntmps43
        go_wp2
        go_loopw [5] (fun i wr=>∃ k:Nat,k<=l1.length/\i=.int .i64 k/\l1.take k=l2.take k/\Below w.heap.size w wr) (fun i _=>l1.length - (intOf i).toNat)
        case atStart=>exact ⟨0,Nat.zero_le _,rfl,rfl,Below.refl _ _⟩
        case round =>
          obtain ⟨k,hk,rfl,ht,hs⟩:=hrel
          have Ht:=hide ht
          clear ht
          by_cases hlt:k < l1.length
          · have hlt2:k < l2.length:=by omega
            obtain ⟨la,ca,ra⟩:=H4.out k hlt
            obtain ⟨lb,cb',rb⟩:=G4.out k hlt2
            obtain ⟨c0,c1,c2,c3,c4⟩:=ca.below hs.drew h3
            obtain ⟨d0,d1,d2,d3,d4⟩:=cb'.below hs.drew g3
            have hli:(k:Int) < (l1.length:Int):=by omega
            have hli2:(k:Int) < (l2.length:Int):=by omega
            have HE:=hide (eqAcct_any l1[k] l2[k] la lb wr.drew (ra.below hs.drew (Nat.le_refl _)) (rb.below hs.drew (Nat.le_refl _)) (A1.out _ (List.getElem_mem _)) (A2.out _ (List.getElem_mem _)))
            have Hnx:Hid (l1[k]=l2[k]->l1.take (k+1)=l2.take (k+1)):=hide (fun he=>take_eq_snoc hlt hlt2 Ht.out he)
            have Hno:Hid (l1[k] ≠ l2[k]->decide (l1=l2)=false):=hide (fun he=>by rw [decide_eq_false];intro e;subst e;exact he rfl)
            have sa:=ra.shape
            have sb:=rb.shape
            clear ra rb ca cb'
            generalize hp:l1[k]=p at c0 c1 c2 c3 HE Hnx Hno sa
            generalize hq:l2[k]=q at d0 d1 d2 d3 HE Hnx Hno sb
            clear hp hq
            have hS1:wr.drew.cell? ⟨b,off+k * 5,none⟩=some (.string p.1)/\wr.drew.cell? ⟨b,off+k * 5+1,none⟩=some (.int .i64 p.2.1)/\wr.drew.cell? ⟨b,off+k * 5+2,none⟩=some (.int .i64 p.2.2.1)/\wr.drew.cell? ⟨b,off+k * 5+3,none⟩=some (.int .i64 p.2.2.2.1)/\wr.drew.cell? ⟨b,off+k * 5+4,none⟩=some la/\wr.drew.cell? ⟨b2,off2+k * 5,none⟩=some (.string q.1)/\wr.drew.cell? ⟨b2,off2+k * 5+1,none⟩=some (.int .i64 q.2.1)/\wr.drew.cell? ⟨b2,off2+k * 5+2,none⟩=some (.int .i64 q.2.2.1)/\wr.drew.cell? ⟨b2,off2+k * 5+3,none⟩=some (.int .i64 q.2.2.2.1)/\wr.drew.cell? ⟨b2,off2+k * 5+4,none⟩=some lb:=⟨c0,c1,c2,c3,c4,d0,d1,d2,d3,d4⟩
            obtain ⟨xa,ya,rfl⟩:=sa
            obtain ⟨xb,yb,rfl⟩:=sb
            unfold acV at HE
            clear c0 c1 c2 c3 c4 d0 d1 d2 d3 d4
            by_cases he:p=q
            · rw [decide_eq_true he] at HE
              have Hnx:=hide (Hnx.out he)
              clear he Hno
              go_wp2
              go_region_held_law (fun w'=>w'.cell? ⟨b,off+k * 5,none⟩=some (.string p.1)/\w'.cell? ⟨b,off+k * 5+1,none⟩=some (.int .i64 p.2.1)/\w'.cell? ⟨b,off+k * 5+2,none⟩=some (.int .i64 p.2.2.1)/\w'.cell? ⟨b,off+k * 5+3,none⟩=some (.int .i64 p.2.2.2.1)/\w'.cell? ⟨b,off+k * 5+4,none⟩=some (.slice xa p.2.2.2.2.length ya)/\w'.cell? ⟨b2,off2+k * 5,none⟩=some (.string q.1)/\w'.cell? ⟨b2,off2+k * 5+1,none⟩=some (.int .i64 q.2.1)/\w'.cell? ⟨b2,off2+k * 5+2,none⟩=some (.int .i64 q.2.2.1)/\w'.cell? ⟨b2,off2+k * 5+3,none⟩=some (.int .i64 q.2.2.2.1)/\w'.cell? ⟨b2,off2+k * 5+4,none⟩=some (.slice xb q.2.2.2.2.length yb)) (first | exact hS1 | exact hS2) ((go_at_call 70;refine HE.out.mono ?_;rintro e w2 ⟨rfl,hb2⟩;have hz:=hs.size;have hS2:w2.cell? ⟨b,off+k * 5,none⟩=some (.string p.1)/\w2.cell? ⟨b,off+k * 5+1,none⟩=some (.int .i64 p.2.1)/\w2.cell? ⟨b,off+k * 5+2,none⟩=some (.int .i64 p.2.2.1)/\w2.cell? ⟨b,off+k * 5+3,none⟩=some (.int .i64 p.2.2.2.1)/\w2.cell? ⟨b,off+k * 5+4,none⟩=some (.slice xa p.2.2.2.2.length ya)/\w2.cell? ⟨b2,off2+k * 5,none⟩=some (.string q.1)/\w2.cell? ⟨b2,off2+k * 5+1,none⟩=some (.int .i64 q.2.1)/\w2.cell? ⟨b2,off2+k * 5+2,none⟩=some (.int .i64 q.2.2.1)/\w2.cell? ⟨b2,off2+k * 5+3,none⟩=some (.int .i64 q.2.2.2.1)/\w2.cell? ⟨b2,off2+k * 5+4,none⟩=some (.slice xb q.2.2.2.2.length yb):=⟨(hb2.cell (p:=⟨b,off+k * 5,none⟩) (Nat.lt_of_lt_of_le h3 hz)).trans hS1.1,(hb2.cell (p:=⟨b,off+k * 5+1,none⟩) (Nat.lt_of_lt_of_le h3 hz)).trans hS1.2.1,(hb2.cell (p:=⟨b,off+k * 5+2,none⟩) (Nat.lt_of_lt_of_le h3 hz)).trans hS1.2.2.1,(hb2.cell (p:=⟨b,off+k * 5+3,none⟩) (Nat.lt_of_lt_of_le h3 hz)).trans hS1.2.2.2.1,(hb2.cell (p:=⟨b,off+k * 5+4,none⟩) (Nat.lt_of_lt_of_le h3 hz)).trans hS1.2.2.2.2.1,(hb2.cell (p:=⟨b2,off2+k * 5,none⟩) (Nat.lt_of_lt_of_le g3 hz)).trans hS1.2.2.2.2.2.1,(hb2.cell (p:=⟨b2,off2+k * 5+1,none⟩) (Nat.lt_of_lt_of_le g3 hz)).trans hS1.2.2.2.2.2.2.1,(hb2.cell (p:=⟨b2,off2+k * 5+2,none⟩) (Nat.lt_of_lt_of_le g3 hz)).trans hS1.2.2.2.2.2.2.2.1,(hb2.cell (p:=⟨b2,off2+k * 5+3,none⟩) (Nat.lt_of_lt_of_le g3 hz)).trans hS1.2.2.2.2.2.2.2.2.1,(hb2.cell (p:=⟨b2,off2+k * 5+4,none⟩) (Nat.lt_of_lt_of_le g3 hz)).trans hS1.2.2.2.2.2.2.2.2.2⟩))
              go_wp2
              go_roundw
              case rel=>exact ⟨k+1,by omega,by go_num,Hnx.out,hs.drew.trans (hb2.mono hs.size)⟩
              case measure=>simp [intOf];omega
            · rw [decide_eq_false he] at HE
              have Hno:=hide (Hno.out he)
              clear he Hnx
              go_wp2
              go_region_held_law (fun w'=>w'.cell? ⟨b,off+k * 5,none⟩=some (.string p.1)/\w'.cell? ⟨b,off+k * 5+1,none⟩=some (.int .i64 p.2.1)/\w'.cell? ⟨b,off+k * 5+2,none⟩=some (.int .i64 p.2.2.1)/\w'.cell? ⟨b,off+k * 5+3,none⟩=some (.int .i64 p.2.2.2.1)/\w'.cell? ⟨b,off+k * 5+4,none⟩=some (.slice xa p.2.2.2.2.length ya)/\w'.cell? ⟨b2,off2+k * 5,none⟩=some (.string q.1)/\w'.cell? ⟨b2,off2+k * 5+1,none⟩=some (.int .i64 q.2.1)/\w'.cell? ⟨b2,off2+k * 5+2,none⟩=some (.int .i64 q.2.2.1)/\w'.cell? ⟨b2,off2+k * 5+3,none⟩=some (.int .i64 q.2.2.2.1)/\w'.cell? ⟨b2,off2+k * 5+4,none⟩=some (.slice xb q.2.2.2.2.length yb)) (first | exact hS1 | exact hS2) ((go_at_call 70;refine HE.out.mono ?_;rintro e w2 ⟨rfl,hb2⟩;have hz:=hs.size;have hS2:w2.cell? ⟨b,off+k * 5,none⟩=some (.string p.1)/\w2.cell? ⟨b,off+k * 5+1,none⟩=some (.int .i64 p.2.1)/\w2.cell? ⟨b,off+k * 5+2,none⟩=some (.int .i64 p.2.2.1)/\w2.cell? ⟨b,off+k * 5+3,none⟩=some (.int .i64 p.2.2.2.1)/\w2.cell? ⟨b,off+k * 5+4,none⟩=some (.slice xa p.2.2.2.2.length ya)/\w2.cell? ⟨b2,off2+k * 5,none⟩=some (.string q.1)/\w2.cell? ⟨b2,off2+k * 5+1,none⟩=some (.int .i64 q.2.1)/\w2.cell? ⟨b2,off2+k * 5+2,none⟩=some (.int .i64 q.2.2.1)/\w2.cell? ⟨b2,off2+k * 5+3,none⟩=some (.int .i64 q.2.2.2.1)/\w2.cell? ⟨b2,off2+k * 5+4,none⟩=some (.slice xb q.2.2.2.2.length yb):=⟨(hb2.cell (p:=⟨b,off+k * 5,none⟩) (Nat.lt_of_lt_of_le h3 hz)).trans hS1.1,(hb2.cell (p:=⟨b,off+k * 5+1,none⟩) (Nat.lt_of_lt_of_le h3 hz)).trans hS1.2.1,(hb2.cell (p:=⟨b,off+k * 5+2,none⟩) (Nat.lt_of_lt_of_le h3 hz)).trans hS1.2.2.1,(hb2.cell (p:=⟨b,off+k * 5+3,none⟩) (Nat.lt_of_lt_of_le h3 hz)).trans hS1.2.2.2.1,(hb2.cell (p:=⟨b,off+k * 5+4,none⟩) (Nat.lt_of_lt_of_le h3 hz)).trans hS1.2.2.2.2.1,(hb2.cell (p:=⟨b2,off2+k * 5,none⟩) (Nat.lt_of_lt_of_le g3 hz)).trans hS1.2.2.2.2.2.1,(hb2.cell (p:=⟨b2,off2+k * 5+1,none⟩) (Nat.lt_of_lt_of_le g3 hz)).trans hS1.2.2.2.2.2.2.1,(hb2.cell (p:=⟨b2,off2+k * 5+2,none⟩) (Nat.lt_of_lt_of_le g3 hz)).trans hS1.2.2.2.2.2.2.2.1,(hb2.cell (p:=⟨b2,off2+k * 5+3,none⟩) (Nat.lt_of_lt_of_le g3 hz)).trans hS1.2.2.2.2.2.2.2.2.1,(hb2.cell (p:=⟨b2,off2+k * 5+4,none⟩) (Nat.lt_of_lt_of_le g3 hz)).trans hS1.2.2.2.2.2.2.2.2.2⟩))
              go_wp2
              go_ret
              exact ⟨ret_bool Hno.out.symm,hs.drew.trans (hb2.mono hs.size)⟩
          · have hf:Hid (decide (l1=l2)=true):=hide (by
              rw [decide_eq_true]
              have:=Ht.out
              rwa [List.take_of_length_le (by omega),List.take_of_length_le (by omega)] at this)
            go_wp2
            go_ret
            exact ⟨ret_bool hf.out.symm,hs⟩
  · obtain ⟨a,cap,rfl⟩:=hr1.shape
    obtain ⟨a2,cap2,rfl⟩:=hr2.shape
    clear hr1 hr2
    have hlen:((l1.length:Int) != (l2.length:Int))=true:=by rw [bne_iff_ne];omega
    have hf:Hid (decide (l1=l2)=false):=hide (by rw [decide_eq_false];intro e;subst e;exact hne rfl)
    clear hne
    go_enter Try.func43,Try.ntmps43
    go_wp2
    go_ret
    exact ⟨ret_bool hf.out.symm,Below.refl _ _⟩
def wgA (a:Ac):Nat:=a.1.size+a.2.2.2.2.length
def totA (l:List Ac):Nat:=(l.map wgA).sum
theorem totA_snoc (l:List Ac) (k:Nat) (h:k < l.length):totA (l.take (k+1))=totA (l.take k)+wgA l[k]:=by
  unfold totA
  rw [List.take_succ_eq_append_getElem h,List.map_append,List.sum_append]
  simp only [List.map_cons,List.map_nil,List.sum_cons,List.sum_nil,Nat.add_zero]
theorem totA_at:∀ (l:List Ac) (a:Ac),a ∈ l->wgA a<=totA l
  | [],a,h=>by simp at h
  | b :: l,a,h=>by
    have e:totA (b :: l)=wgA b+totA l:=by simp [totA]
    rw [e]
    rcases List.mem_cons.1 h with rfl | h
    · omega
    · have:=totA_at l a h;omega
theorem szAc_fit (a:Ac) (r:Nat) (h:wgA a<=r):szAc a (r:Int)=((r - wgA a:Nat):Int):=by
  unfold wgA at h
  unfold szAc wgA
  rw [if_neg (by omega),if_neg (by omega)]
  omega
theorem szAc_not (a:Ac) (r:Nat) (h:¬ wgA a<=r):szAc a (r:Int)=-1:=by
  unfold wgA at h
  unfold szAc
  by_cases h1:(r:Int) - a.1.size < 0
  · rw [if_pos h1]
  · rw [if_neg h1,if_pos (by omega)]
theorem szAcctS_any (v:Value) (l:List Ac) (m:Nat) (w:World) (hr:RdA w v l) (hm:m<=100000000) (hl:l.length<=9223372036854775807) (hs:∀ a ∈ l,a.1.size<=9223372036854775807/\a.2.2.2.2.length<=9223372036854775807) :
    Calls Try.prog 33 #[v,.int .i64 (m:Int)] w fun e w'=>∃ r:Int,e=.returned (.int .i64 r)/\(0<=r->l.length+totA l<=m/\r<=(m:Int))/\Below w.heap.size w w':=by
  by_cases hn:m < l.length
  · obtain ⟨a,cap,rfl⟩:=hr.shape
    clear hr hs
    go_enter Try.func33,Try.ntmps33
    go_wp2
    go_ret
    exact ⟨_,rfl,fun h=>by omega,Below.refl _ _⟩
  · rcases hr with ⟨a,cap,rfl,rfl,-⟩ | ⟨b,off,cap,h0,rfl,h1,h2,h3,h4⟩
    · go_enter Try.func33,Try.ntmps33
      go_wp2
      refine wp_loop_rounds 1 ?_
      rw [rounds_succ]
      go_wp2
      go_ret
      exact ⟨_,rfl,fun _=>⟨by simp [totA],by simp⟩,Below.refl _ _⟩
    · have Hs:=hide hs
      have H4:=hide h4
      clear hs h4
      go_enter Try.func33,Try.ntmps33
      go_wp2
      go_loopw [1,5] (fun mv iv wr=>∃ k r:Nat,k<=l.length/\iv=.int .i64 (k:Int)/\mv=.int .i64 (r:Int)/\l.length+totA (l.take k)+r=m/\Below w.heap.size w wr) (fun _ iv _=>l.length - (intOf iv).toNat)
      case atStart=>exact ⟨0,m - l.length,Nat.zero_le _,rfl,by go_num,by simp [totA];omega,Below.refl _ _⟩
      case round =>
        obtain ⟨k,r,hk,rfl,rfl,hrem,hb⟩:=hrel
        have Hrem:=hide hrem
        have hrm:r<=m:=by omega
        clear hrem
        by_cases hlt:k < l.length
        · obtain ⟨lv,hat,hrl⟩:=H4.out k hlt
          obtain ⟨c0,c1,c2,c3,c4⟩:=hat.below hb h3
          have hsz:=Hs.out l[k] (List.getElem_mem hlt)
          have Hsn:=hide (totA_snoc l k hlt)
          have HZ:=hide (szAcct_any l[k] lv (r:Int) wr (hrl.below hb (Nat.le_refl _)) (by omega) (by omega) hsz.1 hsz.2)
          have hshape:=hrl.shape
          have hli:(k:Int) < (l.length:Int):=by omega
          by_cases hfit:wgA l[k]<=r
          · rw [szAc_fit _ _ hfit] at HZ
            obtain ⟨q,hq⟩:∃ q,r - wgA l[k]=q:=⟨_,rfl⟩
            have Hq:Hid (wgA l[k]+q=r):=hide (by omega)
            rw [hq] at HZ
            clear hfit hsz hrl hat hq
            generalize l[k]=ak at c0 c1 c2 c3 HZ hshape Hsn Hq
            obtain ⟨nm,fr,no,st,ls⟩:=ak
            obtain ⟨av,cv,rfl⟩:=hshape
            simp only [acV] at c0 c1 c2 c3 HZ
            go_wp2_with (go_at_call 48;refine HZ.out.mono ?_;rintro e w2 ⟨rfl,hb2⟩)
            go_roundw
            case rel=>exact ⟨k+1,q,by omega,by go_num,rfl,by rw [Hsn.out];have:=Hrem.out;have:=Hq.out;omega,hb.trans (hb2.mono hb.size)⟩
            case measure=>simp [intOf];omega
          · rw [szAc_not _ _ hfit] at HZ
            clear hfit hsz hrl hat
            generalize l[k]=ak at c0 c1 c2 c3 HZ hshape Hsn
            obtain ⟨nm,fr,no,st,ls⟩:=ak
            obtain ⟨av,cv,rfl⟩:=hshape
            simp only [acV] at c0 c1 c2 c3 HZ
            go_wp2_with (go_at_call 48;refine HZ.out.mono ?_;rintro e w2 ⟨rfl,hb2⟩)
            go_ret
            exact ⟨_,rfl,fun h=>by omega,hb.trans (hb2.mono hb.size)⟩
        · have hf:Hid (l.length+totA l<=m/\(r:Int)<=(m:Int)):=hide (by
            have h:=Hrem.out
            rw [List.take_of_length_le (by omega)] at h
            omega)
          go_wp2
          go_ret
          exact ⟨_,rfl,fun _=>hf.out,hb⟩
end Go.Proofs.Ytfdbedenlbikgaa
