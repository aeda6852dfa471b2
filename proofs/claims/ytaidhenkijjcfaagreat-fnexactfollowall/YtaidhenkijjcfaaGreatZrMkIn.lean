/- Lists of each kind marked in place, told alike. -/
import Derived.Test.YtaidhenkijjcfaaGreatZrVtOne
set_option maxRecDepth 20000
set_option maxHeartbeats 2000000
namespace Go.Proofs.YtaidhenkijjcfaaGreat
open Go.RowKit
set_option linter.unusedVariables false
theorem flat_put3 {α:Type} (L:List (List α)) (i:Nat) (a b c:α) (hi:i < L.length) (h:∀ x ∈ L,x.length=3):((L.flatten.set (i * 3) a).set (i * 3+1) b).set (i * 3+2) c=(L.set i [a,b,c]).flatten:=by
  have e0:=flat_set 3 a L i 0 hi h (by omega)
  rw [Nat.add_zero] at e0
  have hL:∀ x ∈ L.set i (L[i].set 0 a),x.length=3:=fun x hx=>by
    rcases List.mem_or_eq_of_mem_set hx with h' | rfl
    · exact h x h'
    · simpa using h L[i] (List.getElem_mem hi)
  have hL2:∀ x ∈ (L.set i (L[i].set 0 a)).set i (((L.set i (L[i].set 0 a))[i]'(by simpa using hi)).set 1 b),x.length=3:=fun x hx=>by
    rcases List.mem_or_eq_of_mem_set hx with h' | rfl
    · exact hL x h'
    · simpa using h L[i] (List.getElem_mem hi)
  rw [e0,flat_set 3 b _ i 1 (by simpa using hi) hL (by omega),flat_set 3 c _ i 2 (by simpa using hi) hL2 (by omega)]
  have hl:=h L[i] (List.getElem_mem hi)
  congr 1
  rw [List.set_set,List.set_set]
  congr 1
  simp only [List.getElem_set_self]
  match hx:L[i],hl with
  | [x,y,z],_=>rfl
theorem trC_sz (p:Tr):(trC p).length=3:=rfl
theorem trP_sz (l:List Tr) (k:Nat):∀ x ∈ part trC [Value.int .i64 0,Value.int .i64 0,Value.string { data:=#[] }] l k,x.length=3:=part_sz 3 _ _ _ _ trC_sz rfl
theorem Tryz.infoTVote:(Tryz.prog.info? 173).map (fun i=>(i.zero,i.size,i.bytes))=some (some (.agg #[.int .i64 0,.int .i64 0,.string { data:=#[] }]),3,32):=by kernel_rfl
theorem toVoteS_any (v:Value) (l:List Tr) (w:World) (hr:RdR w v l) (hl:l.length<=4000000) :
    Calls Tryz.prog 59 #[v] w fun e w'=>∃ v',e=.returned v'/\OwnR 173 w.heap.size w' v' l/\Below w.heap.size w w':=by
  obtain ⟨i0,hi,hz0,hz1,hz2⟩:=info_parts Tryz.infoTVote
  rcases hr with ⟨a,cap,rfl,rfl,-⟩ | ⟨b,off,cap,h0,rfl,h1,h2,h3,h4⟩
  · go_enter Tryz.func59,Tryz.ntmps59
    go_wp2_with (refine wpList_make_full _ rfl _ _ 68 rfl w.heap.size 173 i0 (.agg #[.int .i64 0,.int .i64 0,.string { data:=#[] }]) 3 Tryz.underlying68 hi hz0 hz1 .i64 .i64 _ _ 0 rfl rfl rfl rfl (by omega) (by unfold maxLen;omega) (Nat.le_refl _) ?_;intro w1 hown hgrow)
    have hb1:Below w.heap.size w w1:=(Below.refl _ _).grown hgrow (Nat.le_refl _) (by intro k hk;cases hk)
    refine wp_loop_rounds 1 ?_
    rw [rounds_succ]
    go_wp2
    go_ret
    have ho':OwnR 173 w.heap.size w1 (.slice (some ⟨w.heap.size,0,none⟩) 0 0) []:=by
      have e:=made_flat (Value.agg #[.int .i64 0,.int .i64 0,.string { data:=#[] }]).cells 3 0 rfl (by omega)
      rw [e] at hown
      exact hown
    exact ⟨_,rfl,ho',hb1⟩
  · go_enter Tryz.func59,Tryz.ntmps59
    go_wp2_with (refine wpList_make_full _ rfl _ _ 68 rfl w.heap.size 173 i0 (.agg #[.int .i64 0,.int .i64 0,.string { data:=#[] }]) 3 Tryz.underlying68 hi hz0 hz1 .i64 .i64 _ _ l.length rfl rfl rfl rfl (by rw [hz2];omega) (by unfold maxLen;omega) (Nat.le_refl _) ?_;intro w1 hown hgrow)
    have hb1:Below w.heap.size w w1:=(Below.refl _ _).grown hgrow (Nat.le_refl _) (by intro k hk;cases hk)
    go_loopw [4] (fun i wr=>∃ k:Nat,k<=l.length/\i=.int .i64 k/\wr.ownsRow w.heap.size 173 3 (.slice (some ⟨w.heap.size,0,none⟩) l.length l.length) l.length (part trC [Value.int .i64 0,Value.int .i64 0,Value.string { data:=#[] }] l k).flatten/\Below w.heap.size w wr)
      (fun i _=>l.length - (intOf i).toNat)
    case atStart =>
      refine ⟨0,Nat.zero_le _,rfl,?_,hb1⟩
      rw [part_zero]
      have e:=made_flat (Value.agg #[.int .i64 0,.int .i64 0,.string { data:=#[] }]).cells 3 l.length rfl (by omega)
      rw [e] at hown
      exact hown
    case round =>
      obtain ⟨k,hk,rfl,ho,hb⟩:=hrel
      clear hown hgrow hb1
      by_cases hlt:k < l.length
      · obtain ⟨d1,d2,d3⟩:=h4 k hlt
        have hc1:wr.cell? ⟨b,off+k * 3,none⟩=some (.int .i64 l[k].1):=(hb.cell (p:=⟨b,off+k * 3,none⟩) h3).trans d1
        have hc2:wr.cell? ⟨b,off+k * 3+1,none⟩=some (.int .i64 l[k].2.1):=(hb.cell (p:=⟨b,off+k * 3+1,none⟩) h3).trans d2
        have hc3:wr.cell? ⟨b,off+k * 3+2,none⟩=some (.string l[k].2.2):=(hb.cell (p:=⟨b,off+k * 3+2,none⟩) h3).trans d3
        have hli:(k:Int) < (l.length:Int):=by omega
        have Hput:=hide (flat_put3 (part trC [Value.int .i64 0,Value.int .i64 0,Value.string { data:=#[] }] l k) k (.int .i64 l[k].1) (.int .i64 l[k].2.1) (.string l[k].2.2) (by rw [part_len _ _ _ _ hk];exact hlt) (trP_sz l k))
        have Hnext:=hide (part_next trC [Value.int .i64 0,Value.int .i64 0,Value.string { data:=#[] }] l k hlt)
        have Hz0:=hide (flat_get 3 (part trC [Value.int .i64 0,Value.int .i64 0,Value.string { data:=#[] }] l k) k 0 (by rw [part_len _ _ _ _ hk];exact hlt) (trP_sz l k) (by omega))
        have Hz1:=hide (flat_get 3 (part trC [Value.int .i64 0,Value.int .i64 0,Value.string { data:=#[] }] l k) k 1 (by rw [part_len _ _ _ _ hk];exact hlt) (trP_sz l k) (by omega))
        have Hz2:=hide (flat_get 3 (part trC [Value.int .i64 0,Value.int .i64 0,Value.string { data:=#[] }] l k) k 2 (by rw [part_len _ _ _ _ hk];exact hlt) (trP_sz l k) (by omega))
        rw [part_at _ _ _ _ hlt] at Hz0 Hz1 Hz2
        have Hvl:Hid (trC l[k]=[.int .i64 l[k].1,.int .i64 l[k].2.1,.string l[k].2.2]):=hide rfl
        have hlb:w.heap.size < wr.heap.size:=((World.ownsRow.lt ho w.heap.size rfl)).2
        clear d1 d2 d3 h4
        generalize l[k].1=x at hc1 Hput Hvl
        generalize l[k].2.1=y at hc2 Hput Hvl
        generalize l[k].2.2=z at hc3 Hput Hvl
        go_wp2_with (go_at_call 114;refine (toVote_any _ _ _ _).mono ?_;rintro e w2 ⟨rfl,hb2⟩;have ho2:=row_below ho hb2 (Nat.le_refl _);have q0:=ho2.cellAt (k * 3) (by omega);have q1:=ho2.cellAt (k * 3+1) (by omega);have q2:=ho2.cellAt (k * 3+2) (by omega);have f0:=ho2.frozenAt (k * 3);have f1:=ho2.frozenAt (k * 3+1);have f2:=ho2.frozenAt (k * 3+2);rw [<- Nat.add_zero (k * 3),Hz0.out] at q0;rw [Hz1.out] at q1;rw [Hz2.out] at q2;rw [Nat.add_zero] at q0;simp only [List.getElem?_cons_zero,List.getElem?_cons_succ] at q0 q1 q2)
        go_roundw
        case rel =>
          refine ⟨k+1,by omega,by go_num,?_,(((hb.trans (hb2.mono hb.size)).setCell (p:=⟨w.heap.size,k * 3,none⟩) (Nat.le_refl _) _).setCell (p:=⟨w.heap.size,k * 3+1,none⟩) (Nat.le_refl _) _).setCell (p:=⟨w.heap.size,k * 3+2,none⟩) (Nat.le_refl _) _⟩
          have s1:=(ho2.stored (k * 3) (.int .i64 x)).1
          have s2:=(s1.stored (k * 3+1) (.int .i64 y)).1
          have s3:=(s2.stored (k * 3+2) (.string z)).1
          rw [Hput.out,<- Hvl.out,Hnext.out] at s3
          exact s3
        case measure=>simp [intOf];omega
      · have e:k=l.length:=by omega
        subst e
        rw [part_all] at ho
        go_wp2
        go_ret
        exact ⟨_,rfl,ho,hb⟩
theorem Tryz.infoTGone:(Tryz.prog.info? 175).map (fun i=>(i.zero,i.size,i.bytes))=some (some (.agg #[.int .i64 0,.int .i64 0,.string { data:=#[] }]),3,32):=by kernel_rfl
theorem toGoneS_any (v:Value) (l:List Tr) (w:World) (hr:RdR w v l) (hl:l.length<=4000000) :
    Calls Tryz.prog 60 #[v] w fun e w'=>∃ v',e=.returned v'/\OwnR 175 w.heap.size w' v' l/\Below w.heap.size w w':=by
  obtain ⟨i0,hi,hz0,hz1,hz2⟩:=info_parts Tryz.infoTGone
  rcases hr with ⟨a,cap,rfl,rfl,-⟩ | ⟨b,off,cap,h0,rfl,h1,h2,h3,h4⟩
  · go_enter Tryz.func60,Tryz.ntmps60
    go_wp2_with (refine wpList_make_full _ rfl _ _ 69 rfl w.heap.size 175 i0 (.agg #[.int .i64 0,.int .i64 0,.string { data:=#[] }]) 3 Tryz.underlying69 hi hz0 hz1 .i64 .i64 _ _ 0 rfl rfl rfl rfl (by omega) (by unfold maxLen;omega) (Nat.le_refl _) ?_;intro w1 hown hgrow)
    have hb1:Below w.heap.size w w1:=(Below.refl _ _).grown hgrow (Nat.le_refl _) (by intro k hk;cases hk)
    refine wp_loop_rounds 1 ?_
    rw [rounds_succ]
    go_wp2
    go_ret
    have ho':OwnR 175 w.heap.size w1 (.slice (some ⟨w.heap.size,0,none⟩) 0 0) []:=by
      have e:=made_flat (Value.agg #[.int .i64 0,.int .i64 0,.string { data:=#[] }]).cells 3 0 rfl (by omega)
      rw [e] at hown
      exact hown
    exact ⟨_,rfl,ho',hb1⟩
  · go_enter Tryz.func60,Tryz.ntmps60
    go_wp2_with (refine wpList_make_full _ rfl _ _ 69 rfl w.heap.size 175 i0 (.agg #[.int .i64 0,.int .i64 0,.string { data:=#[] }]) 3 Tryz.underlying69 hi hz0 hz1 .i64 .i64 _ _ l.length rfl rfl rfl rfl (by rw [hz2];omega) (by unfold maxLen;omega) (Nat.le_refl _) ?_;intro w1 hown hgrow)
    have hb1:Below w.heap.size w w1:=(Below.refl _ _).grown hgrow (Nat.le_refl _) (by intro k hk;cases hk)
    go_loopw [4] (fun i wr=>∃ k:Nat,k<=l.length/\i=.int .i64 k/\wr.ownsRow w.heap.size 175 3 (.slice (some ⟨w.heap.size,0,none⟩) l.length l.length) l.length (part trC [Value.int .i64 0,Value.int .i64 0,Value.string { data:=#[] }] l k).flatten/\Below w.heap.size w wr)
      (fun i _=>l.length - (intOf i).toNat)
    case atStart =>
      refine ⟨0,Nat.zero_le _,rfl,?_,hb1⟩
      rw [part_zero]
      have e:=made_flat (Value.agg #[.int .i64 0,.int .i64 0,.string { data:=#[] }]).cells 3 l.length rfl (by omega)
      rw [e] at hown
      exact hown
    case round =>
      obtain ⟨k,hk,rfl,ho,hb⟩:=hrel
      clear hown hgrow hb1
      by_cases hlt:k < l.length
      · obtain ⟨d1,d2,d3⟩:=h4 k hlt
        have hc1:wr.cell? ⟨b,off+k * 3,none⟩=some (.int .i64 l[k].1):=(hb.cell (p:=⟨b,off+k * 3,none⟩) h3).trans d1
        have hc2:wr.cell? ⟨b,off+k * 3+1,none⟩=some (.int .i64 l[k].2.1):=(hb.cell (p:=⟨b,off+k * 3+1,none⟩) h3).trans d2
        have hc3:wr.cell? ⟨b,off+k * 3+2,none⟩=some (.string l[k].2.2):=(hb.cell (p:=⟨b,off+k * 3+2,none⟩) h3).trans d3
        have hli:(k:Int) < (l.length:Int):=by omega
        have Hput:=hide (flat_put3 (part trC [Value.int .i64 0,Value.int .i64 0,Value.string { data:=#[] }] l k) k (.int .i64 l[k].1) (.int .i64 l[k].2.1) (.string l[k].2.2) (by rw [part_len _ _ _ _ hk];exact hlt) (trP_sz l k))
        have Hnext:=hide (part_next trC [Value.int .i64 0,Value.int .i64 0,Value.string { data:=#[] }] l k hlt)
        have Hz0:=hide (flat_get 3 (part trC [Value.int .i64 0,Value.int .i64 0,Value.string { data:=#[] }] l k) k 0 (by rw [part_len _ _ _ _ hk];exact hlt) (trP_sz l k) (by omega))
        have Hz1:=hide (flat_get 3 (part trC [Value.int .i64 0,Value.int .i64 0,Value.string { data:=#[] }] l k) k 1 (by rw [part_len _ _ _ _ hk];exact hlt) (trP_sz l k) (by omega))
        have Hz2:=hide (flat_get 3 (part trC [Value.int .i64 0,Value.int .i64 0,Value.string { data:=#[] }] l k) k 2 (by rw [part_len _ _ _ _ hk];exact hlt) (trP_sz l k) (by omega))
        rw [part_at _ _ _ _ hlt] at Hz0 Hz1 Hz2
        have Hvl:Hid (trC l[k]=[.int .i64 l[k].1,.int .i64 l[k].2.1,.string l[k].2.2]):=hide rfl
        have hlb:w.heap.size < wr.heap.size:=((World.ownsRow.lt ho w.heap.size rfl)).2
        clear d1 d2 d3 h4
        generalize l[k].1=x at hc1 Hput Hvl
        generalize l[k].2.1=y at hc2 Hput Hvl
        generalize l[k].2.2=z at hc3 Hput Hvl
        go_wp2_with (go_at_call 115;refine (toGone_any _ _ _ _).mono ?_;rintro e w2 ⟨rfl,hb2⟩;have ho2:=row_below ho hb2 (Nat.le_refl _);have q0:=ho2.cellAt (k * 3) (by omega);have q1:=ho2.cellAt (k * 3+1) (by omega);have q2:=ho2.cellAt (k * 3+2) (by omega);have f0:=ho2.frozenAt (k * 3);have f1:=ho2.frozenAt (k * 3+1);have f2:=ho2.frozenAt (k * 3+2);rw [<- Nat.add_zero (k * 3),Hz0.out] at q0;rw [Hz1.out] at q1;rw [Hz2.out] at q2;rw [Nat.add_zero] at q0;simp only [List.getElem?_cons_zero,List.getElem?_cons_succ] at q0 q1 q2)
        go_roundw
        case rel =>
          refine ⟨k+1,by omega,by go_num,?_,(((hb.trans (hb2.mono hb.size)).setCell (p:=⟨w.heap.size,k * 3,none⟩) (Nat.le_refl _) _).setCell (p:=⟨w.heap.size,k * 3+1,none⟩) (Nat.le_refl _) _).setCell (p:=⟨w.heap.size,k * 3+2,none⟩) (Nat.le_refl _) _⟩
          have s1:=(ho2.stored (k * 3) (.int .i64 x)).1
          have s2:=(s1.stored (k * 3+1) (.int .i64 y)).1
          have s3:=(s2.stored (k * 3+2) (.string z)).1
          rw [Hput.out,<- Hvl.out,Hnext.out] at s3
          exact s3
        case measure=>simp [intOf];omega
      · have e:k=l.length:=by omega
        subst e
        rw [part_all] at ho
        go_wp2
        go_ret
        exact ⟨_,rfl,ho,hb⟩
end Go.Proofs.YtaidhenkijjcfaaGreat
namespace Go.Proofs.YtaidhenkijjcfaaGreat
open Go.RowKit Go.Sort
set_option linter.unusedVariables false
theorem row_step3 {base g n cap:Nat} {w:World} {T:TypeId} {Y:List Value} (h:w.ownsRow base T 3 (.slice (some ⟨g,0,none⟩) n cap) n Y) (hY:Y.length=3 * n) (i:Nat) (hi:i < 3 * n) :
    (∃ y,w.cell? ⟨g,i,none⟩=some y)/\w.frozen? ⟨g,i,none⟩=false/\∀ u,(w.setCell ⟨g,i,none⟩ u).ownsRow base T 3 (.slice (some ⟨g,0,none⟩) n cap) n (Y.set i u) :=
  ⟨⟨Y[i]'(by omega),by rw [h.cellAt i (by omega)];exact List.getElem?_eq_getElem (by omega)⟩,h.frozenAt i,fun u=>(h.stored i u).1⟩
def mkR (k n:Nat):List Tr:=(List.range n).map (fun j=>(((k+3 * j:Nat):Int),((k+3 * j+1:Nat):Int),mtx (k+3 * j+2)))
theorem mkR_len (k n:Nat):(mkR k n).length=n:=by simp [mkR]
theorem mkR_at (k n j:Nat) (h:j < (mkR k n).length):(mkR k n)[j]=(((k+3 * j:Nat):Int),((k+3 * j+1:Nat):Int),mtx (k+3 * j+2)):=by simp [mkR]
theorem mixR {M l:List Tr} {j:Nat} (hl:M.length=l.length) (hj:j < l.length):((M.take j ++ l.drop j).map trC).set j (trC (M[j]'(by omega)))=(M.take (j+1) ++ l.drop (j+1)).map trC:=by
  rw [List.take_succ_eq_append_getElem (by omega),<- List.map_set]
  congr 1
  rw [List.set_append_right _ _ (by simp;omega),List.length_take,show min j M.length=j from by omega,Nat.sub_self,List.drop_eq_getElem_cons hj,List.set_cons_zero,List.append_assoc]
  rfl
theorem mixR_sz (M l:List Tr) (j:Nat):∀ x ∈ (M.take j ++ l.drop j).map trC,x.length=3:=fun x hx=>by obtain ⟨p,_,rfl⟩:=List.mem_map.1 hx;rfl
theorem markVoteS_any (v:Value) (l:List Tr) (k base:Nat) (w:World) (ho:OwnR 173 base w v l) (hl:l.length<=10000000) (hk:k+3 * l.length<=90000000) (hk0:0 < k) :
    Calls Tryz.prog 73 #[v,.int .i64 (k:Int)] w fun e w'=>e=.returned (.int .i64 ((k+3 * l.length:Nat):Int))/\OwnR 173 base w' v (mkR k l.length)/\Oth (fun g=>v.ownBlock=some g) w w':=by
  have hML:=mkR_len k l.length
  have hMA:=mkR_at k l.length
  generalize hMd:mkR k l.length=M at hML hMA ⊢
  clear hMd
  by_cases hne:l=[]
  · subst hne
    obtain ⟨a,c,rfl⟩:=ho.rd.shape
    have e2:M=[]:=List.length_eq_zero_iff.1 hML
    subst e2
    have Ho:=hide ho
    clear ho
    go_enter Tryz.func73,Tryz.ntmps73
    go_wp2
    refine wp_loop_rounds 1 ?_
    rw [rounds_succ]
    go_wp2
    go_ret
    exact ⟨by simp <;> rfl,Ho.out,Oth.refl _ _⟩
  · obtain ⟨g,cap,rfl⟩:∃ g cap,v=.slice (some ⟨g,0,none⟩) l.length cap:=by
      rcases ho.2 with ⟨rfl,hn⟩ | ⟨g,cap,cur,rfl,-⟩
      · exact absurd (List.length_eq_zero_iff.1 hn) hne
      · exact ⟨g,cap,rfl⟩
    have Hrow:Hid (w.ownsRow base 173 3 (.slice (some ⟨g,0,none⟩) l.length cap) l.length (l.map trC).flatten):=hide ho
    have HML:=hide hML
    have HMA:=hide hMA
    clear ho hML hMA
    have hS:Hid ((fun x=>(Value.slice (some ⟨g,0,none⟩) l.length cap).ownBlock=some x) g):=hide rfl
    go_enter Tryz.func73,Tryz.ntmps73
    go_wp2
    go_loopw [1,5] (fun kv iv wr=>∃ j:Nat,j<=l.length/\iv=.int .i64 (j:Int)/\kv=.int .i64 ((k+3 * j:Nat):Int)/\wr.ownsRow base 173 3 (.slice (some ⟨g,0,none⟩) l.length cap) l.length ((M.take j ++ l.drop j).map trC).flatten/\Oth (fun x=>(Value.slice (some ⟨g,0,none⟩) l.length cap).ownBlock=some x) w wr)
      (fun _ iv _=>l.length - (intOf iv).toNat)
    case atStart=>exact ⟨0,Nat.zero_le _,rfl,rfl,by simpa using Hrow.out,Oth.refl _ _⟩
    case round =>
      obtain ⟨j,hj,rfl,rfl,hown,hbt⟩:=hrel
      clear Hrow
      have HLl:Hid ((M.take j ++ l.drop j).length=l.length):=hide (by have:=HML.out;simp;omega)
      have hYl:((M.take j ++ l.drop j).map trC).flatten.length=3 * l.length:=by
        rw [flat_len 3 _ (mixR_sz M l j),List.length_map,HLl.out];omega
      by_cases hlt:j < l.length
      · have hli:(j:Int) < (l.length:Int):=by omega
        have Hnx:Hid (k+3 * (j+1)=k+3 * j+3):=hide (by omega)
        have hK1:k+3 * j+3<=90000000:=by omega
        have hK0:0 < k+3 * j:=by omega
        have HEnd:Hid (((((M.take j ++ l.drop j).map trC).flatten.set (j * 3) (.int .i64 ((k+3 * j:Nat):Int))).set (j * 3+1) (.int .i64 ((k+3 * j+1:Nat):Int))).set (j * 3+2) (.string (mtx (k+3 * j+2)))=((M.take (j+1) ++ l.drop (j+1)).map trC).flatten):=hide (by
          rw [flat_put3 _ j _ _ _ (by rw [List.length_map,HLl.out];exact hlt) (mixR_sz M l j),<- mixR HML.out hlt,HMA.out j (by have:=HML.out;omega)]
          rfl)
        generalize ((M.take j ++ l.drop j).map trC).flatten=Y at hown hYl HEnd
        generalize k+3 * j=K at Hnx hK1 hK0 HEnd ⊢
        have Hm1:=hide (fun w=>markText_any (K+1+1) w (by omega) (by omega))
        obtain ⟨⟨y0,q0⟩,f0,s0⟩:=row_step3 hown hYl (j * 3) (by omega)
        obtain ⟨⟨y1,q1⟩,f1,-⟩:=row_step3 hown hYl (j * 3+1) (by omega)
        have S0:=hide (fun u0 u1=>((row_step3 (s0 u0) (by simp [hYl]) (j * 3+1) (by omega)).2.2) u1)
        have Hbt:=hide hbt
        clear hown hbt s0
        go_wp2_with fail
        refine (Hm1.out _).mono ?_
        rintro e w1 ⟨rfl,hb1⟩
        have r1:=row_below (S0.out (.int .i64 (K:Int)) (.int .i64 ((K+1:Nat):Int))) hb1 (Nat.le_refl _)
        have Hbt1:=hide (((Hbt.out.set hS.out (j * 3) (.int .i64 (K:Int))).set hS.out (j * 3+1) (.int .i64 ((K+1:Nat):Int))).trans (Oth.of_below hb1))
        clear hb1 q0 f0 q1 f1
        obtain ⟨⟨y2,q2⟩,f2,s2⟩:=row_step3 r1 (by simp [hYl]) (j * 3+2) (by omega)
        have S3:=hide (s2 (.string (mtx (K+1+1))))
        rw [show K+1+1=K+2 from rfl] at S3 ⊢
        rw [HEnd.out] at S3
        clear r1 s2 HEnd S0
        go_wp2
        have e3:(K:Int)+1+1+1=((K+3:Nat):Int):=by omega
        go_roundw
        case rel =>
          refine ⟨j+1,by omega,by go_num,by rw [Hnx.out];go_num,?_,Hbt1.out.set hS.out _ _⟩
          exact S3.out
        case measure=>simp [intOf];omega
      · have ej:j=l.length:=by omega
        have e9:M.take j ++ l.drop j=M:=by rw [List.take_of_length_le (by have:=HML.out;omega),List.drop_of_length_le (by omega),List.append_nil]
        rw [e9] at hown
        subst ej
        have Hbt:=hide hbt
        have Ho':Hid (OwnR 173 base wr (.slice (some ⟨g,0,none⟩) l.length cap) M):=hide (by unfold OwnR;rw [HML.out];exact hown)
        clear hown hbt e9 hYl HLl
        go_wp2
        go_ret
        exact ⟨rfl,Ho'.out,Hbt.out⟩
theorem markGoneS_any (v:Value) (l:List Tr) (k base:Nat) (w:World) (ho:OwnR 175 base w v l) (hl:l.length<=10000000) (hk:k+3 * l.length<=90000000) (hk0:0 < k) :
    Calls Tryz.prog 74 #[v,.int .i64 (k:Int)] w fun e w'=>e=.returned (.int .i64 ((k+3 * l.length:Nat):Int))/\OwnR 175 base w' v (mkR k l.length)/\Oth (fun g=>v.ownBlock=some g) w w':=by
  have hML:=mkR_len k l.length
  have hMA:=mkR_at k l.length
  generalize hMd:mkR k l.length=M at hML hMA ⊢
  clear hMd
  by_cases hne:l=[]
  · subst hne
    obtain ⟨a,c,rfl⟩:=ho.rd.shape
    have e2:M=[]:=List.length_eq_zero_iff.1 hML
    subst e2
    have Ho:=hide ho
    clear ho
    go_enter Tryz.func74,Tryz.ntmps74
    go_wp2
    refine wp_loop_rounds 1 ?_
    rw [rounds_succ]
    go_wp2
    go_ret
    exact ⟨by simp <;> rfl,Ho.out,Oth.refl _ _⟩
  · obtain ⟨g,cap,rfl⟩:∃ g cap,v=.slice (some ⟨g,0,none⟩) l.length cap:=by
      rcases ho.2 with ⟨rfl,hn⟩ | ⟨g,cap,cur,rfl,-⟩
      · exact absurd (List.length_eq_zero_iff.1 hn) hne
      · exact ⟨g,cap,rfl⟩
    have Hrow:Hid (w.ownsRow base 175 3 (.slice (some ⟨g,0,none⟩) l.length cap) l.length (l.map trC).flatten):=hide ho
    have HML:=hide hML
    have HMA:=hide hMA
    clear ho hML hMA
    have hS:Hid ((fun x=>(Value.slice (some ⟨g,0,none⟩) l.length cap).ownBlock=some x) g):=hide rfl
    go_enter Tryz.func74,Tryz.ntmps74
    go_wp2
    go_loopw [1,5] (fun kv iv wr=>∃ j:Nat,j<=l.length/\iv=.int .i64 (j:Int)/\kv=.int .i64 ((k+3 * j:Nat):Int)/\wr.ownsRow base 175 3 (.slice (some ⟨g,0,none⟩) l.length cap) l.length ((M.take j ++ l.drop j).map trC).flatten/\Oth (fun x=>(Value.slice (some ⟨g,0,none⟩) l.length cap).ownBlock=some x) w wr)
      (fun _ iv _=>l.length - (intOf iv).toNat)
    case atStart=>exact ⟨0,Nat.zero_le _,rfl,rfl,by simpa using Hrow.out,Oth.refl _ _⟩
    case round =>
      obtain ⟨j,hj,rfl,rfl,hown,hbt⟩:=hrel
      clear Hrow
      have HLl:Hid ((M.take j ++ l.drop j).length=l.length):=hide (by have:=HML.out;simp;omega)
      have hYl:((M.take j ++ l.drop j).map trC).flatten.length=3 * l.length:=by
        rw [flat_len 3 _ (mixR_sz M l j),List.length_map,HLl.out];omega
      by_cases hlt:j < l.length
      · have hli:(j:Int) < (l.length:Int):=by omega
        have Hnx:Hid (k+3 * (j+1)=k+3 * j+3):=hide (by omega)
        have hK1:k+3 * j+3<=90000000:=by omega
        have hK0:0 < k+3 * j:=by omega
        have HEnd:Hid (((((M.take j ++ l.drop j).map trC).flatten.set (j * 3) (.int .i64 ((k+3 * j:Nat):Int))).set (j * 3+1) (.int .i64 ((k+3 * j+1:Nat):Int))).set (j * 3+2) (.string (mtx (k+3 * j+2)))=((M.take (j+1) ++ l.drop (j+1)).map trC).flatten):=hide (by
          rw [flat_put3 _ j _ _ _ (by rw [List.length_map,HLl.out];exact hlt) (mixR_sz M l j),<- mixR HML.out hlt,HMA.out j (by have:=HML.out;omega)]
          rfl)
        generalize ((M.take j ++ l.drop j).map trC).flatten=Y at hown hYl HEnd
        generalize k+3 * j=K at Hnx hK1 hK0 HEnd ⊢
        have Hm1:=hide (fun w=>markText_any (K+1+1) w (by omega) (by omega))
        obtain ⟨⟨y0,q0⟩,f0,s0⟩:=row_step3 hown hYl (j * 3) (by omega)
        obtain ⟨⟨y1,q1⟩,f1,-⟩:=row_step3 hown hYl (j * 3+1) (by omega)
        have S0:=hide (fun u0 u1=>((row_step3 (s0 u0) (by simp [hYl]) (j * 3+1) (by omega)).2.2) u1)
        have Hbt:=hide hbt
        clear hown hbt s0
        go_wp2_with fail
        refine (Hm1.out _).mono ?_
        rintro e w1 ⟨rfl,hb1⟩
        have r1:=row_below (S0.out (.int .i64 (K:Int)) (.int .i64 ((K+1:Nat):Int))) hb1 (Nat.le_refl _)
        have Hbt1:=hide (((Hbt.out.set hS.out (j * 3) (.int .i64 (K:Int))).set hS.out (j * 3+1) (.int .i64 ((K+1:Nat):Int))).trans (Oth.of_below hb1))
        clear hb1 q0 f0 q1 f1
        obtain ⟨⟨y2,q2⟩,f2,s2⟩:=row_step3 r1 (by simp [hYl]) (j * 3+2) (by omega)
        have S3:=hide (s2 (.string (mtx (K+1+1))))
        rw [show K+1+1=K+2 from rfl] at S3 ⊢
        rw [HEnd.out] at S3
        clear r1 s2 HEnd S0
        go_wp2
        have e3:(K:Int)+1+1+1=((K+3:Nat):Int):=by omega
        go_roundw
        case rel =>
          refine ⟨j+1,by omega,by go_num,by rw [Hnx.out];go_num,?_,Hbt1.out.set hS.out _ _⟩
          exact S3.out
        case measure=>simp [intOf];omega
      · have ej:j=l.length:=by omega
        have e9:M.take j ++ l.drop j=M:=by rw [List.take_of_length_le (by have:=HML.out;omega),List.drop_of_length_le (by omega),List.append_nil]
        rw [e9] at hown
        subst ej
        have Hbt:=hide hbt
        have Ho':Hid (OwnR 175 base wr (.slice (some ⟨g,0,none⟩) l.length cap) M):=hide (by unfold OwnR;rw [HML.out];exact hown)
        clear hown hbt e9 hYl HLl
        go_wp2
        go_ret
        exact ⟨rfl,Ho'.out,Hbt.out⟩
end Go.Proofs.YtaidhenkijjcfaaGreat
namespace Go.Proofs.YtaidhenkijjcfaaGreat
open Go.RowKit
set_option linter.unusedVariables false
def InS (lo hi:Nat) (w:World) (v:Value) (l:List ByteArray):Prop:=OwnS lo w v l/\Top hi v
theorem InS.of {base:Nat} {w:World} {v:Value} {l:List ByteArray} (h:OwnS base w v l):InS base w.heap.size w v l:=⟨h,top_row h⟩
theorem InS.rd {lo hi:Nat} {w:World} {v:Value} {l:List ByteArray} (h:InS lo hi w v l):RdS w v l:=h.1.rd
theorem InS.kept {lo hi:Nat} {w w':World} {v:Value} {l:List ByteArray} (h:InS lo hi w v l) (hk:Kept lo hi w w'):InS lo hi w' v l:=⟨row_kept h.1 hk (Nat.le_refl _) h.2,h.2⟩
theorem InS.wide {lo hi lo' hi':Nat} {w:World} {v:Value} {l:List ByteArray} (h:InS lo hi w v l) (h1:lo'<=lo) (h2:hi<=hi'):InS lo' hi' w v l:=⟨row_mono h.1 h1,h.2.mono h2⟩
def InI (lo hi:Nat) (w:World) (v:Value) (l:List Int):Prop:=OwnI lo w v l/\Top hi v
theorem InI.of {base:Nat} {w:World} {v:Value} {l:List Int} (h:OwnI base w v l):InI base w.heap.size w v l:=⟨h,top_row h⟩
theorem InI.rd {lo hi:Nat} {w:World} {v:Value} {l:List Int} (h:InI lo hi w v l):RdI w v l:=h.1.rd
theorem InI.kept {lo hi:Nat} {w w':World} {v:Value} {l:List Int} (h:InI lo hi w v l) (hk:Kept lo hi w w'):InI lo hi w' v l:=⟨row_kept h.1 hk (Nat.le_refl _) h.2,h.2⟩
theorem InI.wide {lo hi lo' hi':Nat} {w:World} {v:Value} {l:List Int} (h:InI lo hi w v l) (h1:lo'<=lo) (h2:hi<=hi'):InI lo' hi' w v l:=⟨row_mono h.1 h1,h.2.mono h2⟩
def InV (lo hi:Nat) (w:World) (v:Value) (l:List Vl):Prop:=OwnV lo w v l/\Top hi v
theorem InV.of {base:Nat} {w:World} {v:Value} {l:List Vl} (h:OwnV base w v l):InV base w.heap.size w v l:=⟨h,top_row h⟩
theorem InV.rd {lo hi:Nat} {w:World} {v:Value} {l:List Vl} (h:InV lo hi w v l):RdV w v l:=h.1.rd
theorem InV.kept {lo hi:Nat} {w w':World} {v:Value} {l:List Vl} (h:InV lo hi w v l) (hk:Kept lo hi w w'):InV lo hi w' v l:=⟨row_kept h.1 hk (Nat.le_refl _) h.2,h.2⟩
theorem InV.wide {lo hi lo' hi':Nat} {w:World} {v:Value} {l:List Vl} (h:InV lo hi w v l) (h1:lo'<=lo) (h2:hi<=hi'):InV lo' hi' w v l:=⟨row_mono h.1 h1,h.2.mono h2⟩
def InT (lo hi:Nat) (w:World) (v:Value) (l:List Tx5):Prop:=OwnT lo w v l/\Top hi v
theorem InT.of {base:Nat} {w:World} {v:Value} {l:List Tx5} (h:OwnT base w v l):InT base w.heap.size w v l:=⟨h,top_row h⟩
theorem InT.rd {lo hi:Nat} {w:World} {v:Value} {l:List Tx5} (h:InT lo hi w v l):RdT w v l:=h.1.rd
theorem InT.kept {lo hi:Nat} {w w':World} {v:Value} {l:List Tx5} (h:InT lo hi w v l) (hk:Kept lo hi w w'):InT lo hi w' v l:=⟨row_kept h.1 hk (Nat.le_refl _) h.2,h.2⟩
theorem InT.wide {lo hi lo' hi':Nat} {w:World} {v:Value} {l:List Tx5} (h:InT lo hi w v l) (h1:lo'<=lo) (h2:hi<=hi'):InT lo' hi' w v l:=⟨row_mono h.1 h1,h.2.mono h2⟩
def InR (t:TypeId) (lo hi:Nat) (w:World) (v:Value) (l:List Tr):Prop:=OwnR t lo w v l/\Top hi v
theorem InR.of {t:TypeId} {base:Nat} {w:World} {v:Value} {l:List Tr} (h:OwnR t base w v l):InR t base w.heap.size w v l:=⟨h,top_row h⟩
theorem InR.rd {t:TypeId} {lo hi:Nat} {w:World} {v:Value} {l:List Tr} (h:InR t lo hi w v l):RdR w v l:=h.1.rd
theorem InR.kept {t:TypeId} {lo hi:Nat} {w w':World} {v:Value} {l:List Tr} (h:InR t lo hi w v l) (hk:Kept lo hi w w'):InR t lo hi w' v l:=⟨row_kept h.1 hk (Nat.le_refl _) h.2,h.2⟩
theorem InR.wide {t:TypeId} {lo hi lo' hi':Nat} {w:World} {v:Value} {l:List Tr} (h:InR t lo hi w v l) (h1:lo'<=lo) (h2:hi<=hi'):InR t lo' hi' w v l:=⟨row_mono h.1 h1,h.2.mono h2⟩
theorem Kept.set {lo hi g:Nat} (w:World) (j:Nat) (u:Value) (h:g < lo\/hi<=g):Kept lo hi w (w.setCell ⟨g,j,none⟩ u):=Kept.of_grown (grown_set w g j u) (fun k e=>by cases e;exact h)
theorem Kept.setCs {lo hi g:Nat} (w:World) (o:Nat) (us:List Value) (h:g < lo\/hi<=g):Kept lo hi w (w.setCells g o us):=Kept.of_grown (putC_grown g us w o) (fun k e=>by cases e;exact h)
end Go.Proofs.YtaidhenkijjcfaaGreat
namespace Go.Proofs.YtaidhenkijjcfaaGreat
open Go.RowKit Go.Sort
set_option linter.unusedVariables false
def Mkd (k lo hi:Nat) (P:World->Prop) (w:World) (e:Ending) (w':World):Prop:=e=.returned (.int .i64 (k:Int))/\P w'/\Oth (fun x=>lo<=x/\x < hi) w w'
theorem oth_row {base hi sz n:Nat} {T:TypeId} {v:Value} {xs:List Value} {w w':World} (ho:w.ownsRow base T sz v n xs) (ht:Top hi v) (hg:w.grownBy w' v.ownBlock):Oth (fun x=>base<=x/\x < hi) w w' :=
  Oth.of_grown hg (fun k e=>⟨(World.ownsRow.lt ho k e).1,ht k e⟩)
theorem oth_row2 {base hi sz n:Nat} {T:TypeId} {v:Value} {xs:List Value} {w w':World} (ho:w.ownsRow base T sz v n xs) (ht:Top hi v) (hg:Oth (fun g=>v.ownBlock=some g) w w'):Oth (fun x=>base<=x/\x < hi) w w' :=
  hg.mono (fun k e=>⟨(World.ownsRow.lt ho k e).1,ht k e⟩)
theorem oth_btw {lo hi:Nat} {w w':World} (h:Btw lo hi w w'):Oth (fun x=>lo<=x/\x < hi) w w':=⟨h.os,h.tape,h.output,h.size,fun k hk hn=>h.block k hk (by omega)⟩
theorem mkuStr (v:Value) (l:List ByteArray) (k lo hi:Nat) (w:World) (ho:InS lo hi w v l) (hl:l.length<=4000000) (hk:k+l.length<=40000000) (hk0:0 < k) :
    Calls Tryz.prog 108 #[v,.int .i64 (k:Int)] w (Mkd (k+l.length) lo hi (fun w'=>InS lo hi w' v (mkS k l.length)) w):=by
  refine (markStringS_any v l k lo w ho.1 (by omega) (by omega) hk0).mono ?_
  rintro e w' ⟨h1,h2,h3⟩
  exact ⟨h1,⟨h2,ho.2⟩,oth_row ho.1 ho.2 h3⟩
theorem mkuInt (v:Value) (l:List Int) (k lo hi:Nat) (w:World) (ho:InI lo hi w v l) (hl:l.length<=4000000) (hk:k+l.length<=40000000) (hk0:0 < k) :
    Calls Tryz.prog 75 #[v,.int .i64 (k:Int)] w (Mkd (k+l.length) lo hi (fun w'=>InI lo hi w' v (mkI k l.length)) w):=by
  refine (markIntS_any v l k lo w ho.1 (by omega) (by omega) hk0).mono ?_
  rintro e w' ⟨h1,h2,h3⟩
  exact ⟨h1,⟨h2,ho.2⟩,oth_row ho.1 ho.2 h3⟩
theorem mkuVal (v:Value) (l:List Vl) (k lo hi:Nat) (w:World) (ho:InV lo hi w v l) (hl:l.length<=4000000) (hk:k+2 * l.length<=40000000) (hk0:0 < k) :
    Calls Tryz.prog 47 #[v,.int .i64 (k:Int)] w (Mkd (k+2 * l.length) lo hi (fun w'=>InV lo hi w' v (mkV k l.length)) w):=by
  refine (markValS_any v l k lo w ho.1 (by omega) (by omega) hk0).mono ?_
  rintro e w' ⟨h1,h2,h3⟩
  exact ⟨h1,⟨h2,ho.2⟩,oth_row ho.1 ho.2 h3⟩
theorem mkuTx (v:Value) (l:List Tx5) (k lo hi:Nat) (w:World) (ho:InT lo hi w v l) (hl:l.length<=4000000) (hk:k+5 * l.length<=40000000) (hk0:0 < k) :
    Calls Tryz.prog 76 #[v,.int .i64 (k:Int)] w (Mkd (k+5 * l.length) lo hi (fun w'=>InT lo hi w' v (mkT k l.length)) w):=by
  refine (markTxC_any v l k lo w ho.1 (by omega) (by omega) hk0).mono ?_
  rintro e w' ⟨h1,h2,h3⟩
  exact ⟨h1,⟨h2,ho.2⟩,oth_row2 ho.1 ho.2 h3⟩
theorem mkuVote (v:Value) (l:List Tr) (k lo hi:Nat) (w:World) (ho:InR 173 lo hi w v l) (hl:l.length<=4000000) (hk:k+3 * l.length<=40000000) (hk0:0 < k) :
    Calls Tryz.prog 73 #[v,.int .i64 (k:Int)] w (Mkd (k+3 * l.length) lo hi (fun w'=>InR 173 lo hi w' v (mkR k l.length)) w):=by
  refine (markVoteS_any v l k lo w ho.1 (by omega) (by omega) hk0).mono ?_
  rintro e w' ⟨h1,h2,h3⟩
  exact ⟨h1,⟨h2,ho.2⟩,oth_row2 ho.1 ho.2 h3⟩
theorem mkuGone (v:Value) (l:List Tr) (k lo hi:Nat) (w:World) (ho:InR 175 lo hi w v l) (hl:l.length<=4000000) (hk:k+3 * l.length<=40000000) (hk0:0 < k) :
    Calls Tryz.prog 74 #[v,.int .i64 (k:Int)] w (Mkd (k+3 * l.length) lo hi (fun w'=>InR 175 lo hi w' v (mkR k l.length)) w):=by
  refine (markGoneS_any v l k lo w ho.1 (by omega) (by omega) hk0).mono ?_
  rintro e w' ⟨h1,h2,h3⟩
  exact ⟨h1,⟨h2,ho.2⟩,oth_row2 ho.1 ho.2 h3⟩
theorem mkuLedger (x:Int) (v:Value) (l:List Ac) (k lo hi:Nat) (w:World) (ho:OwnX lo hi w v l) (hl:l.length<=4000000) (hlv:∀ a ∈ l,a.2.2.2.2.length<=4000000) (hk:nxs k l<=40000000) (hk0:0 < k) :
    Calls Tryz.prog 29 #[lgV x v,.int .i64 (k:Int)] w (Mkd (nxs k l) lo hi (fun w'=>OwnX lo hi w' v (mkAs k l)) w):=by
  refine (markLedger_any x v l k lo hi w ho (by omega) (fun a ha=>by have:=hlv a ha;omega) (by omega) hk0).mono ?_
  rintro e w' ⟨h1,h2,h3⟩
  exact ⟨h1,h2,oth_btw h3⟩
theorem mkuBlock (v:Value) (l:List Bk) (k lo hi:Nat) (w:World) (ho:OwnKx lo hi w v l) (hl:l.length<=4000000) (hf:∀ b ∈ l,FewK b) (hk:k+totM l<=40000000) (hk0:0 < k) :
    Calls Tryz.prog 48 #[v,.int .i64 (k:Int)] w (Mkd (k+totM l) lo hi (fun w'=>OwnKx lo hi w' v (mkLk k l)) w) :=
  markKx_any v l k lo hi w ho (by omega) (fun b hb=>by have f:=hf b hb;exact ⟨f.q,f.w,f.h,f.t,f.n⟩) (by omega) hk0
theorem mkuQc (r b:Int) (v:Value) (l:List ByteArray) (k lo hi:Nat) (w:World) (ho:InS lo hi w v l) (hl:l.length<=4000000) (hk:k+l.length<=40000000) (hk0:0 < k) :
    Calls Tryz.prog 49 #[qcV r b v,.int .i64 (k:Int)] w (Mkd (k+l.length) lo hi (fun w'=>InS lo hi w' v (mkS k l.length)) w):=by
  refine (markQc_any r b v l k lo w ho.1 (by omega) (by omega) hk0).mono ?_
  rintro e w' ⟨h1,h2,h3⟩
  exact ⟨h1,⟨h2,ho.2⟩,oth_row2 ho.1 ho.2 h3⟩
theorem mkuTc (r:Int) (v u:Value) (l:List ByteArray) (n:List Int) (k lo hi:Nat) (w:World) (ho:InS lo hi w v l) (hi':InI lo hi w u n) (hl:l.length<=4000000) (hn:n.length<=4000000) (hk:k+l.length+n.length<=40000000) (hk0:0 < k) :
    Calls Tryz.prog 72 #[tcV r v u,.int .i64 (k:Int)] w (Mkd (k+l.length+n.length) lo hi (fun w'=>InS lo hi w' v (mkS k l.length)/\InI lo hi w' u (mkI (k+l.length) n.length)) w):=by
  refine (markTc_any r v u l n k lo lo w ho.1 hi'.1 (by omega) (by omega) (by omega) hk0).mono ?_
  rintro e w' ⟨h1,h2,h3,h4⟩
  exact ⟨h1,⟨⟨h2,ho.2⟩,⟨h3,hi'.2⟩⟩,h4.mono (fun k e=>by
    rcases e with e | e
    · exact ⟨(World.ownsRow.lt ho.1 k e).1,ho.2 k e⟩
    · exact ⟨(World.ownsRow.lt hi'.1 k e).1,hi'.2 k e⟩)⟩
end Go.Proofs.YtaidhenkijjcfaaGreat
