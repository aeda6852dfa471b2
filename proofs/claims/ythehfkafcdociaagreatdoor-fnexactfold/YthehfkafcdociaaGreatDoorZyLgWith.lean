/- The landed code's list of what leaves, with one more. -/
import Derived.Test.YthehfkafcdociaaGreatDoorZyLgAp
import Derived.Test.YthehfkafcdociaaGreatDoorZyLgFacts
set_option maxRecDepth 20000
set_option maxHeartbeats 1000000
namespace Go.Proofs.YthehfkafcdociaaGreatDoor
open Go.RowKit
set_option linter.unusedVariables false
theorem OwnX.old {base hi:Nat} {w:World} {v:Value} {l:List Ac} (h:OwnX base hi w v l) {b:Nat} (hb:b < base) (j:Nat) (u:Value):OwnX base hi (w.setCell ⟨b,j,none⟩ u) v l :=
  h.btw (Btw.of_grown (lo:=0) (hi:=base) (grown_set w b j u) (fun k hk=>⟨Nat.zero_le _,by cases hk;exact hb⟩)) (.inr (Nat.le_refl _))
theorem apA_is (e:Int) (l:List Ac) (t:Tx5):(apA e l t).1=l\/acsB (apA e l t).1=true:=by
  unfold apA
  split
  · exact .inl rfl
  · split
    · exact .inl rfl
    · split
      · exact .inl rfl
      · split
        · exact .inl rfl
        · split
          · exact .inl rfl
          · rename_i h
            exact .inr (lg_acs (by simpa using h))
theorem app_ownLl {ops:Array Oper} {rest:List Oper} {o:Oper} {a:Act} {Q:Exit->Act->World->Prop} (w:World) (hgd:o.guard=none) (s x:Operand)
    (ho:o.op=.call { callee:=.builtin .append,args:=#[s,x],argTypes:=#[120,120] })
    (base:Nat) (v:Value) (B:Nat) (l:List (Int × Int)) (q:Int × Int) (hs:a.eval s=v) (hx:a.eval x=.slice (some ⟨B,0,none⟩) 1 1) (hown:OwnL base w v l) (hblk:Blk w B 124 (lvC q))
    (hlen:l.length<=100000000) (hbase:base<=w.heap.size)
    (h:∀ v' w',OwnL base w' v' (l ++ [q])->w.grownBy w' v.ownBlock->(v'.ownBlock=v.ownBlock\/v'.ownBlock=some w.heap.size)->wpList Tryz.prog ops Q rest (a.put o.dst v') w'):wpList Tryz.prog ops Q (o :: rest) a w:=by
  obtain ⟨i0,hi,hz0,hz1,hz2⟩:=info_parts Tryz.infoLv
  refine wpList_append_own_at w hgd s x 120 ho base 124 i0 (.agg #[.int .i64 0,.int .i64 0]) 2 16 Tryz.underlying120 hi hz0 hz1 hz2 rfl (by decide) v l.length (l.map lvC).flatten hs hown ⟨B,0,none⟩ 1 1 (lvC q) hx rfl ?_ ?_ (by unfold maxLen;omega) (by omega) hbase ?_
  · intro j u hj
    rw [add_flat,Nat.zero_add,hblk.cell j]
    exact hj
  · intro u hu
    simp only [lvC,List.mem_cons,List.not_mem_nil,or_false] at hu
    rcases hu with rfl | rfl <;> rfl
  · intro v' w' ho' hg hn hl
    refine h v' w' ?_ hg hl
    unfold OwnL
    rw [List.length_append,List.map_append,List.flatten_append]
    simpa using ho'
theorem fil_snoc (p:Int × Int->Bool) (l:List (Int × Int)) (k:Nat) (h:k < l.length):(l.take (k+1)).filter p=if p l[k]=true then (l.take k).filter p ++ [l[k]] else (l.take k).filter p:=by
  rw [List.take_succ_eq_append_getElem h,List.filter_append]
  by_cases hh:p l[k]=true
  · rw [if_pos hh,List.filter_cons_of_pos hh,List.filter_nil]
  · rw [if_neg hh,List.filter_cons_of_neg hh,List.filter_nil,List.append_nil]
theorem ahL_snoc (t:Int) (l:List (Int × Int)) (k:Nat) (h:k < l.length):ahL t (l.take (k+1))=if l[k].2 < t then ahL t (l.take k) ++ [l[k]] else ahL t (l.take k):=by
  unfold ahL
  rw [fil_snoc _ _ _ h]
  simp
theorem beL_snoc (t:Int) (l:List (Int × Int)) (k:Nat) (h:k < l.length):beL t (l.take (k+1))=if t < l[k].2 then beL t (l.take k) ++ [l[k]] else beL t (l.take k):=by
  unfold beL
  rw [fil_snoc _ _ _ h]
  simp
theorem amF_snoc (n t:Int) (l:List (Int × Int)) (k:Nat) (h:k < l.length):amF n t (l.take (k+1))=if l[k].2=t then wrap64 (amF n t (l.take k)+l[k].1) else amF n t (l.take k):=by
  unfold amF
  rw [List.take_succ_eq_append_getElem h,List.foldl_append]
  rfl
theorem ahL_len (t:Int) (l:List (Int × Int)):(ahL t l).length<=l.length:=List.length_filter_le _ _
theorem beL_len (t:Int) (l:List (Int × Int)):(beL t l).length<=l.length:=List.length_filter_le _ _
theorem implWithLeave_any (v:Value) (l:List (Int × Int)) (n t:Int) (w:World) (hr:RdL w v l) (hl:l.length<=4000000) :
    Calls Tryz.prog 153 #[v,.agg #[.int .i64 n,.int .i64 t]] w fun en w'=>∃ v',en=.returned v'/\OwnL w.heap.size w' v' (wlP n t l)/\Below w.heap.size w w':=by
  obtain ⟨av,cv,rfl⟩:=hr.shape
  have Hr:=hide hr
  have Hb1:Hid (Below w.heap.size w (w.alloc (.cells #[.int .i64 n,.int .i64 t] 124))):=hide ((Below.refl _ w).alloc (Nat.le_refl _) _)
  have K1:Hid (Blk (w.alloc (.cells #[.int .i64 n,.int .i64 t] 124)) w.heap.size 124 [.int .i64 n,.int .i64 t]):=hide (Blk.new w _ _)
  clear hr
  go_enter Tryz.func153,Tryz.ntmps153
  go_wp2
  go_loopw [5,6,11] (fun ahv bev iv wr=>∃ k:Nat,k<=l.length/\iv=.int .i64 (k:Int)/\OwnL (w.heap.size+1) wr ahv (ahL t (l.take k))/\OwnL (w.heap.size+1) wr bev (beL t (l.take k))/\(∀ j,ahv.ownBlock=some j->bev.ownBlock ≠ some j)/\Blk wr w.heap.size 124 [.int .i64 (amF n t (l.take k)),.int .i64 t]/\Below w.heap.size w wr) (fun _ _ iv _=>l.length - (intOf iv).toNat)
  case atStart=>exact ⟨0,by omega,rfl,own_noneL _ _,own_noneL _ _,fun j hj=>by simp [Value.ownBlock] at hj,K1.out,Hb1.out⟩
  case round =>
    obtain ⟨k,hk,rfl,ha,he,hap,j1,hb⟩:=hrel
    clear K1 Hb1
    have hbs:=hb.size
    have hjl:=j1.lt
    by_cases hlt:k < l.length
    · obtain ⟨b,off,rfl,hc1,hc2,hbw,e0,e1⟩:=Hr.out.at hlt
      have f0:=(hb.cell (p:=⟨b,off+k * 2,none⟩) hbw).trans e0
      have f1:=(hb.cell (p:=⟨b,off+k * 2+1,none⟩) hbw).trans e1
      have HA:=hide (ahL_snoc t l k hlt)
      have HE:=hide (beL_snoc t l k hlt)
      have HM:=hide (amF_snoc n t l k hlt)
      have hal:=ahL_len t (l.take k)
      have hel:=beL_len t (l.take k)
      have htl:(l.take k).length<=k:=by simp;omega
      generalize l[k]=x at f0 f1 e0 e1 HA HE HM
      obtain ⟨xa,xt⟩:=x
      simp only at f0 f1 HA HE HM
      have hli:(k:Int) < (l.length:Int):=by omega
      obtain ⟨w3,hw3⟩:∃ w3,wr.alloc (.cells #[.int .i64 xa,.int .i64 xt] 124)=w3:=⟨_,rfl⟩
      have hb3:Below w.heap.size w w3:=by rw [<- hw3];exact hb.alloc hbs _
      have ha3:OwnL (w.heap.size+1) w3 u5 (ahL t (l.take k)):=by rw [<- hw3];exact ha.alloc _
      have he3:OwnL (w.heap.size+1) w3 u6 (beL t (l.take k)):=by rw [<- hw3];exact he.alloc _
      have m1:Blk w3 w.heap.size 124 [.int .i64 (amF n t (l.take k)),.int .i64 t]:=by rw [<- hw3];exact j1.alloc _
      have m3:Blk w3 wr.heap.size 124 [.int .i64 xa,.int .i64 xt]:=by rw [<- hw3];exact Blk.new wr _ _
      have hs3:w3.heap.size=wr.heap.size+1:=by rw [<- hw3];simp
      have d0:=m1.cell 0
      have d1:=m1.cell 1
      have q0:=m1.frozen 0
      have x0:=m3.cell 0
      have x1:=m3.cell 1
      simp only [List.getElem?_cons_zero,List.getElem?_cons_succ] at d0 d1 x0 x1
      have Ha:=hide ha3
      have He:=hide he3
      have Hb:=hide hb3
      have J1:=hide m1
      have Hap:=hide hap
      have ha_lt:=ha.lt
      have he_lt:=he.lt
      clear e0 e1 ha he hb j1 m1 m3 ha3 he3 hb3 hap
      by_cases h1:xt < t
      · rw [if_pos h1] at HA
        rw [if_neg (by omega)] at HE HM
        go_wp2_with (at_builtin;refine app_ownLl _ rfl _ _ rfl (w.heap.size+1) _ _ (ahL t (l.take k)) (xa,xt) rfl rfl (Ha.out.alloc _) (Blk.new' _ _ (lvC (xa,xt)) _ (by first | rfl | omega)) (by omega) (by first | omega | (simp;omega)) ?_;intro v1 w1 ho1 hg1 hlo1)
        have HB:=hide ((Hb.out.alloc (by omega) (.cells #[.int .i64 xa,.int .i64 xt] 124)).grown hg1 (by simp;omega) (fun k hk=>by have:=Ha.out.ge k hk;omega))
        go_roundw
        case rel =>
          refine ⟨k+1,by omega,by go_num,?_,?_,?_,?_,HB.out⟩
          · rw [HA.out];exact ho1
          · rw [HE.out];exact (He.out.alloc _).kept hg1 (by cases hq:u6.ownBlock with | none=>exact .inl rfl | some j=>exact .inr (fun e=>Hap.out j e.symm hq))
          · intro j hj e
            rcases hlo1 with h | h
            · exact Hap.out j (h ▸ hj) e
            · have:=he_lt j e
              rw [h] at hj
              simp at hj
              omega
          · rw [HM.out];exact (J1.out.alloc _).kept' hg1 (fun e=>by have:=Ha.out.ge _ e.symm;omega)
        case measure=>simp [intOf];omega
      · by_cases h2:t < xt
        · rw [if_neg h1] at HA
          rw [if_pos h2] at HE
          rw [if_neg (by omega)] at HM
          go_wp2_with (at_builtin;refine app_ownLl _ rfl _ _ rfl (w.heap.size+1) _ _ (beL t (l.take k)) (xa,xt) rfl rfl (He.out.alloc _) (Blk.new' _ _ (lvC (xa,xt)) _ (by first | rfl | omega)) (by omega) (by first | omega | (simp;omega)) ?_;intro v1 w1 ho1 hg1 hlo1)
          have HB:=hide ((Hb.out.alloc (by omega) (.cells #[.int .i64 xa,.int .i64 xt] 124)).grown hg1 (by simp;omega) (fun k hk=>by have:=He.out.ge k hk;omega))
          go_roundw
          case rel =>
            refine ⟨k+1,by omega,by go_num,?_,?_,?_,?_,HB.out⟩
            · rw [HA.out];exact (Ha.out.alloc _).kept hg1 (by cases hq:u5.ownBlock with | none=>exact .inl rfl | some j=>exact .inr (fun e=>Hap.out j hq e.symm))
            · rw [HE.out];exact ho1
            · intro j hj e
              rcases hlo1 with h | h
              · exact Hap.out j hj (h ▸ e)
              · have:=ha_lt j hj
                rw [h] at e
                simp at e
                omega
            · rw [HM.out];exact (J1.out.alloc _).kept' hg1 (fun e=>by have:=He.out.ge _ e.symm;omega)
          case measure=>simp [intOf];omega
        · have h3:xt=t:=by omega
          rw [if_neg h1] at HA
          rw [if_neg h2] at HE
          rw [if_pos h3] at HM
          clear h3
          go_wp2
          go_roundw
          case rel =>
            refine ⟨k+1,by omega,by go_num,?_,?_,Hap.out,?_,?_⟩
            · rw [HA.out];exact row_set Ha.out _ _ _ (fun j hj=>by have:=Ha.out.ge j hj;omega)
            · rw [HE.out];exact row_set He.out _ _ _ (fun j hj=>by have:=He.out.ge j hj;omega)
            · rw [HM.out];exact J1.out.set 0 _
            · exact Hb.out.setCell (p:=⟨w.heap.size,0,none⟩) (Nat.le_refl _) _
          case measure=>simp [intOf];omega
    · have ek:k=l.length:=by omega
      subst ek
      rw [List.take_length] at ha he j1
      have d0:=j1.cell 0
      have d1:=j1.cell 1
      simp only [List.getElem?_cons_zero,List.getElem?_cons_succ] at d0 d1
      have hal:=ahL_len t l
      have hel:=beL_len t l
      have Ha:=hide ha
      have He:=hide he
      have Hb:=hide hb
      have Hap:=hide hap
      have he_lt:=he.lt
      have HW:Hid (wlP n t l=(ahL t l ++ [(amF n t l,t)]) ++ beL t l):=hide (by unfold wlP;simp)
      clear ha he hb hap j1
      go_wp2_with (first
        | (at_builtin;refine app_ownLg _ rfl _ _ rfl (w.heap.size+1) _ _ (ahL t l ++ [(amF n t l,t)]) (beL t l) rfl rfl ho1 he1.rd (by simp;omega) (by omega) ?_;intro v2 w2 ho2 hg2)
        | (at_builtin;refine app_ownLl _ rfl _ _ rfl (w.heap.size+1) _ _ (ahL t l) (amF n t l,t) rfl rfl (Ha.out.alloc _) (Blk.new' _ _ (lvC (amF n t l,t)) _ (by first | rfl | omega)) (by omega) (by first | omega | (simp;omega)) ?_;intro v1 w1 ho1 hg1 hlo1;have he1:=(He.out.alloc (.cells #[.int .i64 (amF n t l),.int .i64 t] 124)).kept hg1 (by cases hq:u6.ownBlock with | none=>exact .inl rfl | some j=>exact .inr (fun e=>Hap.out j e.symm hq));have hz1:=hg1.size;simp only [World.size_alloc] at hz1))
      have HB1:=hide ((Hb.out.alloc hbs (.cells #[.int .i64 (amF n t l),.int .i64 t] 124)).grown hg1 (by simp;omega) (fun k hk=>by have:=Ha.out.ge k hk;omega))
      have HB2:=hide (HB1.out.grown hg2 (by omega) (fun k hk=>by have:=ho1.ge k hk;omega))
      go_ret
      exact ⟨v2,rfl,by rw [HW.out];exact ho2.mono (by omega),HB2.out⟩
end Go.Proofs.YthehfkafcdociaaGreatDoor
