/- The model's list of what leaves, with one more. -/
import Derived.Deep.DeepCutAuto
import Derived.Test.YtohachldbpejpaaGreatDoorZoTxApp
set_option maxRecDepth 20000
set_option maxHeartbeats 4000000
namespace Go.Proofs.YtohachldbpejpaaGreatDoor
end Go.Proofs.YtohachldbpejpaaGreatDoor
namespace Go.Proofs.YtohachldbpejpaaGreatDoor
open Go.RowKit Go.Sort
set_option linter.unusedVariables false
def holeT (l:List Tx5) (k:Nat) (x:Tx5):List Tx5:=l.take k ++ x :: l.drop k
theorem own_to {base base':Nat} {w:World} {v:Value} {l:List Tx5} (h:OwnT base w v l) (hB:base'<=base):OwnT base' w v l:=by
  refine ⟨h.1,?_⟩
  rcases h.2 with h2 | ⟨g,cap,cur,rfl,hb,hg,hrest⟩
  · exact .inl h2
  · exact .inr ⟨g,cap,cur,rfl,Nat.le_trans hB hb,hg,hrest⟩
end Go.Proofs.YtohachldbpejpaaGreatDoor
namespace Go.Proofs.YtohachldbpejpaaGreatDoor
open Go.RowKit
set_option linter.unusedVariables false
theorem OwnT.notg {base:Nat} {w w':World} {v:Value} {l:List Tx5} {g:Nat} (h:OwnT base w v l) (hg:w.grownBy w' (some g)) (hb:g < base):OwnT base w' v l:=by
  refine ⟨h.1,?_⟩
  rcases h.2 with h2 | ⟨q,cap,cur,hv,hb2,hh,hrest⟩
  · exact .inl h2
  · exact .inr ⟨q,cap,cur,hv,hb2,(hg.block q (Array.getElem?_eq_some_iff.1 hh).1 (fun e=>by have:=Option.some.inj e;omega)).trans hh,hrest⟩
def DrP (w0 w:World) (g:Nat) (cv:Value) (code:List UInt8) (most:Nat) (e:Ending) (w':World):Prop:=∃ (v:Value) (l:List Tx5),e=.returned v/\OwnT w.heap.size w' v l/\l.length<=most/\(∀ x ∈ l,SmT x)/\Cur w0 w' g cv code/\w.grownBy w' (some g)
theorem app_ownLg {ops:Array Oper} {rest:List Oper} {o:Oper} {a:Act} {Q:Exit->Act->World->Prop} (w:World) (hgd:o.guard=none) (s x:Operand)
    (ho:o.op=.call { callee:=.builtin .append,args:=#[s,x],argTypes:=#[103,103] })
    (base:Nat) (v vx:Value) (l k:List (Int × Int)) (hs:a.eval s=v) (hx:a.eval x=vx) (hown:OwnL base w v l) (hrd:RdL w vx k)
    (hlen:l.length+k.length<=100000000) (hbase:base<=w.heap.size)
    (h:∀ v' w',OwnL base w' v' (l ++ k)->w.grownBy w' v.ownBlock->wpList Tryz.prog ops Q rest (a.put o.dst v') w'):wpList Tryz.prog ops Q (o :: rest) a w:=by
  obtain ⟨i0,hi,hz0,hz1,hz2⟩:=info_parts Tryz.infoLv
  rcases hrd with ⟨ax,cap,rfl,rfl,hnil⟩ | ⟨b,off,cap,h0,rfl,h1,h2,h3,h4⟩
  · cases ax with
    | none =>
      have hc:cap=0:=hnil rfl
      subst hc
      refine wpList_append_own_none hgd s x 103 ho base 107 i0 2 Tryz.underlying103 hi v l.length (l.map lvC).flatten hs hown hx ?_
      exact h v w (by simpa [OwnL] using hown) (World.grownBy.refl _ _)
    | some ad =>
      refine wpList_append_own w hgd s x 103 ho base 107 i0 (.agg #[.int .i64 0,.int .i64 0]) 2 16 Tryz.underlying103 hi hz0 hz1 hz2 rfl (by decide) v l.length (l.map lvC).flatten hs hown ad 0 cap [] hx rfl (by intro j u hj;simp at hj) (by intro u hu;simp at hu) (by unfold maxLen;simp at hlen;omega) (by simp at hlen;omega) hbase ?_
      intro v' w' ho' hg _
      exact h v' w' (by simpa [OwnL] using ho') hg
  · refine wpList_append_own w hgd s x 103 ho base 107 i0 (.agg #[.int .i64 0,.int .i64 0]) 2 16 Tryz.underlying103 hi hz0 hz1 hz2 rfl (by decide) v l.length (l.map lvC).flatten hs hown ⟨b,off,none⟩ k.length cap (k.map lvC).flatten hx (by rw [flat_len 2 _ (lvM_sz k),List.length_map]) (rdL_cells h4) ?_ (by unfold maxLen;omega) (by omega) hbase ?_
    · intro u hu
      obtain ⟨c,hc,hu⟩:=List.mem_flatten.1 hu
      obtain ⟨p,_,rfl⟩:=List.mem_map.1 hc
      simp only [lvC,List.mem_cons,List.not_mem_nil,or_false] at hu
      rcases hu with rfl | rfl <;> rfl
    · intro v' w' ho' hg _
      exact h v' w' (by simpa [OwnL] using ho') hg
theorem rd_one_lv (w:World) (g:Nat) (x y:Int) (hg:g=w.heap.size):RdL (w.alloc (.cells #[.int .i64 x,.int .i64 y] 107)) (.slice (some ⟨g,0,none⟩) 1 1) [(x,y)]:=by
  subst hg
  refine .inr ⟨w.heap.size,0,1,by simp,rfl,by simp,by unfold maxLen;omega,by simp,?_⟩
  intro i hi
  simp only [List.length_cons,List.length_nil] at hi
  have:i=0:=by omega
  subst this
  exact ⟨by rw [World.cell?_alloc_at _ _ _ _ rfl];rfl,by rw [World.cell?_alloc_at _ _ _ _ rfl];rfl⟩
theorem RdL.at {w:World} {a:Option Addr} {cap k:Nat} {l:List (Int × Int)} (h:RdL w (.slice a l.length cap) l) (hk:k < l.length) :
    ∃ b off,a=some ⟨b,off,none⟩/\l.length<=cap/\cap<=maxLen/\b < w.heap.size/\w.cell? ⟨b,off+k * 2,none⟩=some (.int .i64 l[k].1)/\w.cell? ⟨b,off+k * 2+1,none⟩=some (.int .i64 l[k].2):=by
  rcases h with ⟨a',cap',e,rfl,-⟩ | ⟨b,off,cap',h0,e,h1,h2,h3,h4⟩
  · simp at hk
  · simp only [Value.slice.injEq] at e
    obtain ⟨rfl,-,rfl⟩:=e
    exact ⟨b,off,rfl,h1,h2,h3,(h4 k hk).1,(h4 k hk).2⟩
theorem Blk.kept' {W W':World} {row:Option Nat} {B:Nat} {t:TypeId} {cs:List Value} (h:Blk W B t cs) (hg:W.grownBy W' row) (hne:some B ≠ row):Blk W' B t cs:=(hg.block B h.lt hne).trans h
def lvP (n t:Int):List (Int × Int)->List (Int × Int)
  | []=>[(n,t)]
  | x :: r=>if x.2=t then (wrap64 (x.1+n),x.2) :: r else if t < x.2 then (n,t) :: x :: r else x :: lvP n t r
theorem lvP_len (n t:Int):∀ l:List (Int × Int),(lvP n t l).length<=l.length+1
  | []=>by simp [lvP]
  | x :: r=>by
    have:=lvP_len n t r
    rw [lvP]
    split
    · simp
    · split
      · simp
      · simp only [List.length_cons];omega
theorem specL6Leave_any (v:Value) (l:List (Int × Int)) (n t:Int) (w:World) (hr:RdL w v l) (hl:l.length<=4000000) :
    Calls Tryz.prog 202 #[v,.int .i64 n,.int .i64 t] w fun e w'=>∃ v',e=.returned v'/\OwnL w.heap.size w' v' (lvP n t l)/\Below w.heap.size w w':=by
  obtain ⟨av,cv,rfl⟩:=hr.shape
  have Hr:=hide hr
  have ho0:=own_nilL w w.heap.size (Nat.le_refl _)
  have hb0:Below w.heap.size w (w.alloc (.cells #[] 107)):=(Below.refl _ w).alloc (Nat.le_refl _) _
  clear hr
  go_enter Tryz.func202,Tryz.ntmps202
  go_wp2
  go_loopw [7,8,9] (fun bv pv iv wr=>∃ (k:Nat) (pre:List (Int × Int)) (put:Bool),k<=l.length/\iv=.int .i64 (k:Int)/\pv=.bool put/\OwnL w.heap.size wr bv pre/\Below w.heap.size w wr/\pre.length<=k+1/\(put=false->pre.length<=k)/\lvP n t l=pre ++ (if put=true then l.drop k else lvP n t (l.drop k))) (fun _ _ iv _=>l.length - (intOf iv).toNat)
  case atStart=>exact ⟨0,[],false,by omega,rfl,rfl,ho0,hb0,by simp,by simp,by simp⟩
  case round =>
    obtain ⟨k,pre,put,hk,rfl,rfl,ho,hb,hpl,hpf,hpre⟩:=hrel
    clear ho0 hb0
    have hbs:=hb.size
    by_cases hlt:k < l.length
    · obtain ⟨b,off,rfl,hc1,hc2,hbw,e0,e1⟩:=Hr.out.at hlt
      have f0:=(hb.cell (p:=⟨b,off+k * 2,none⟩) hbw).trans e0
      have f1:=(hb.cell (p:=⟨b,off+k * 2+1,none⟩) hbw).trans e1
      have hd:l.drop k=l[k] :: l.drop (k+1):=List.drop_eq_getElem_cons hlt
      rw [hd] at hpre
      generalize l[k]=x at f0 f1 hpre e0 e1
      obtain ⟨xa,xt⟩:=x
      simp only at f0 f1
      have Hpre:=hide hpre
      have Ho:=hide ho
      have Hb:=hide hb
      clear e0 e1 hd hpre ho hb
      cases put
      · rw [if_neg (by simp)] at Hpre
        have hp0:pre.length<=k:=hpf rfl
        clear hpf
        by_cases h1:xt=t
        · have Hnx:Hid (lvP n t l=(pre ++ [(wrap64 (xa+n),xt)]) ++ (if true=true then l.drop (k+1) else lvP n t (l.drop (k+1)))):=hide (by rw [Hpre.out,lvP,if_pos h1,if_pos rfl,List.append_assoc];rfl)
          clear Hpre
          subst h1
          go_wp2_with (at_builtin;refine app_ownLg _ rfl _ _ rfl w.heap.size _ _ pre [(wrap64 (xa+n),xt)] rfl rfl ((Ho.out.alloc _).alloc _) (rd_one_lv _ _ (wrap64 (xa+n)) xt (by simp)) (by simp;omega) (by simp;omega) ?_;intro v1 w1 ho1 hg1)
          have HB:=hide (((Hb.out.alloc hbs (.cells #[.int .i64 (wrap64 (xa+n)),.int .i64 xt] 107)).alloc (by simp;omega) (.cells #[.int .i64 (wrap64 (xa+n)),.int .i64 xt] 107)).grown hg1 (by simp;omega) (fun k hk=>Ho.out.ge k hk))
          go_roundw
          case rel=>exact ⟨k+1,pre ++ [(wrap64 (xa+n),xt)],true,by omega,by go_num,rfl,ho1,HB.out,by simp;omega,by simp,Hnx.out⟩
          case measure=>simp [intOf];omega
        · by_cases h2:t < xt
          · have Hnx:Hid (lvP n t l=(pre ++ [(n,t)] ++ [(xa,xt)]) ++ (if true=true then l.drop (k+1) else lvP n t (l.drop (k+1)))):=hide (by rw [Hpre.out,lvP,if_neg h1,if_pos h2,if_pos rfl,List.append_assoc,List.append_assoc];rfl)
            have hq:(xt == t)=false:=by rw [beq_eq_false_iff_ne];exact h1
            have hbx:=Blk.new wr 107 [.int .i64 xa,.int .i64 xt]
            have hox:=Ho.out.lt
            clear Hpre h1
            go_wp2_with (first
              | (at_builtin;refine app_ownLg _ rfl _ _ rfl w.heap.size _ _ (pre ++ [(n,t)]) [(xa,xt)] rfl rfl (ho1.alloc _) (rd_one_lv _ _ xa xt (by simp)) (by simp;omega) (by simp;omega) ?_;intro v2 w2 ho2 hg2)
              | (at_builtin;refine app_ownLg _ rfl _ _ rfl w.heap.size _ _ pre [(n,t)] rfl rfl ((Ho.out.alloc _).alloc _) (rd_one_lv _ _ n t (by simp)) (by simp;omega) (by simp;omega) ?_;intro v1 w1 ho1 hg1;have hz1:=hg1.size;have hb1:=(hbx.below ((Below.refl (wr.heap.size+1) _).alloc (by simp) (.cells #[.int .i64 n,.int .i64 t] 107)) (by omega)).kept' hg1 (fun e=>by have:=hox _ e.symm;omega);have c0:=hb1.cell 0;have c1:=hb1.cell 1;simp only [List.getElem?_cons_zero,List.getElem?_cons_succ,World.size_alloc] at c0 c1 hz1))
            have HB1:=hide (((Hb.out.alloc hbs (.cells #[.int .i64 xa,.int .i64 xt] 107)).alloc (by simp;omega) (.cells #[.int .i64 n,.int .i64 t] 107)).grown hg1 (by simp;omega) (fun k hk=>Ho.out.ge k hk))
            have HB:=hide ((HB1.out.alloc (by omega) (.cells #[.int .i64 xa,.int .i64 xt] 107)).grown hg2 (by simp;omega) (fun k hk=>ho1.ge k hk))
            go_roundw
            case rel=>exact ⟨k+1,pre ++ [(n,t)] ++ [(xa,xt)],true,by omega,by go_num,rfl,ho2,HB.out,by simp;omega,by simp,Hnx.out⟩
            case measure=>simp [intOf];omega
          · have Hnx:Hid (lvP n t l=(pre ++ [(xa,xt)]) ++ (if false=true then l.drop (k+1) else lvP n t (l.drop (k+1)))):=hide (by rw [Hpre.out,lvP,if_neg h1,if_neg h2,if_neg (by simp),List.append_assoc];rfl)
            have hq:(xt == t)=false:=by rw [beq_eq_false_iff_ne];exact h1
            clear Hpre h1
            go_wp2_with (at_builtin;refine app_ownLg _ rfl _ _ rfl w.heap.size _ _ pre [(xa,xt)] rfl rfl ((Ho.out.alloc _).alloc _) (rd_one_lv _ _ xa xt (by simp)) (by simp;omega) (by simp;omega) ?_;intro v1 w1 ho1 hg1)
            have HB:=hide (((Hb.out.alloc hbs (.cells #[.int .i64 xa,.int .i64 xt] 107)).alloc (by simp;omega) (.cells #[.int .i64 xa,.int .i64 xt] 107)).grown hg1 (by simp;omega) (fun k hk=>Ho.out.ge k hk))
            go_roundw
            case rel=>exact ⟨k+1,pre ++ [(xa,xt)],false,by omega,by go_num,rfl,ho1,HB.out,by simp;omega,fun _=>by simp;omega,Hnx.out⟩
            case measure=>simp [intOf];omega
      · have Hnx:Hid (lvP n t l=(pre ++ [(xa,xt)]) ++ (if true=true then l.drop (k+1) else lvP n t (l.drop (k+1)))):=hide (by rw [Hpre.out,if_pos rfl,if_pos rfl,List.append_assoc];rfl)
        clear Hpre
        go_wp2_with (at_builtin;refine app_ownLg _ rfl _ _ rfl w.heap.size _ _ pre [(xa,xt)] rfl rfl ((Ho.out.alloc _).alloc _) (rd_one_lv _ _ xa xt (by simp)) (by simp;omega) (by simp;omega) ?_;intro v1 w1 ho1 hg1)
        have HB:=hide (((Hb.out.alloc hbs (.cells #[.int .i64 xa,.int .i64 xt] 107)).alloc (by simp;omega) (.cells #[.int .i64 xa,.int .i64 xt] 107)).grown hg1 (by simp;omega) (fun k hk=>Ho.out.ge k hk))
        go_roundw
        case rel=>exact ⟨k+1,pre ++ [(xa,xt)],true,by omega,by go_num,rfl,ho1,HB.out,by simp;omega,by simp,Hnx.out⟩
        case measure=>simp [intOf];omega
    · have hd:l.drop k=[]:=List.drop_eq_nil_of_le (by omega)
      rw [hd] at hpre
      clear hd
      cases put
      · have Hnx:Hid (lvP n t l=pre ++ [(n,t)]):=hide (by rw [hpre,if_neg (by simp)];rfl)
        clear hpre
        have Ho:=hide ho
        have Hb:=hide hb
        clear ho hb
        go_wp2_with (at_builtin;refine app_ownLg _ rfl _ _ rfl w.heap.size _ _ pre [(n,t)] rfl rfl (Ho.out.alloc _) (rd_one_lv _ _ n t (by simp)) (by simp;omega) (by simp;omega) ?_;intro v1 w1 ho1 hg1)
        have HB:=hide ((Hb.out.alloc hbs (.cells #[.int .i64 n,.int .i64 t] 107)).grown hg1 (by simp;omega) (fun k hk=>Ho.out.ge k hk))
        go_ret
        exact ⟨v1,rfl,by rw [Hnx.out];exact ho1,HB.out⟩
      · have Hnx:Hid (lvP n t l=pre):=hide (by rw [hpre,if_pos rfl,List.append_nil])
        clear hpre
        go_wp2
        go_ret
        exact ⟨_,rfl,by rw [Hnx.out];exact ho,hb⟩
end Go.Proofs.YtohachldbpejpaaGreatDoor
