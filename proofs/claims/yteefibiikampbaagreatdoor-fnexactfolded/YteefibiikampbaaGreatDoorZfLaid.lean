/- The library's functions by which the book's names are listed in order (maps.Keys, slices.Sorted, slices.Sort), laid at this seat. -/
import Derived.Test.YteefibiikampbaaGreatDoorZfAcMark
import Derived.Shelf.SlGeneric
import Derived.Shelf.SlIter.Nil
import Derived.Shelf.SortM.Plain
import Derived.Shelf.SortM.SortNone
import Derived.Ground.GgzProg
import Derived.Ground.SlgmProg
import Derived.Test.YteefibiikampbaaGreatDoorProg
set_option maxRecDepth 20000
set_option maxHeartbeats 4000000
namespace Go.Proofs.YteefibiikampbaaGreatDoor
open Go.RowKit
set_option linter.unusedVariables false
theorem app_ownLg {ops:Array Oper} {rest:List Oper} {o:Oper} {a:Act} {Q:Exit->Act->World->Prop} (w:World) (hgd:o.guard=none) (s x:Operand)
    (ho:o.op=.call { callee:=.builtin .append,args:=#[s,x],argTypes:=#[129,129] })
    (base:Nat) (v vx:Value) (l k:List (Int × Int)) (hs:a.eval s=v) (hx:a.eval x=vx) (hown:OwnL base w v l) (hrd:RdL w vx k)
    (hlen:l.length+k.length<=100000000) (hbase:base<=w.heap.size)
    (h:∀ v' w',OwnL base w' v' (l ++ k)->w.grownBy w' v.ownBlock->wpList Tryz.prog ops Q rest (a.put o.dst v') w'):wpList Tryz.prog ops Q (o :: rest) a w:=by
  obtain ⟨i0,hi,hz0,hz1,hz2⟩:=info_parts Tryz.infoLv
  rcases hrd with ⟨ax,cap,rfl,rfl,hnil⟩ | ⟨b,off,cap,h0,rfl,h1,h2,h3,h4⟩
  · cases ax with
    | none =>
      have hc:cap=0:=hnil rfl
      subst hc
      refine wpList_append_own_none hgd s x 129 ho base 133 i0 2 Tryz.underlying129 hi v l.length (l.map lvC).flatten hs hown hx ?_
      exact h v w (by simpa [OwnL] using hown) (World.grownBy.refl _ _)
    | some ad =>
      refine wpList_append_own w hgd s x 129 ho base 133 i0 (.agg #[.int .i64 0,.int .i64 0]) 2 16 Tryz.underlying129 hi hz0 hz1 hz2 rfl (by decide) v l.length (l.map lvC).flatten hs hown ad 0 cap [] hx rfl (by intro j u hj;simp at hj) (by intro u hu;simp at hu) (by unfold maxLen;simp at hlen;omega) (by simp at hlen;omega) hbase ?_
      intro v' w' ho' hg _
      exact h v' w' (by simpa [OwnL] using ho') hg
  · refine wpList_append_own w hgd s x 129 ho base 133 i0 (.agg #[.int .i64 0,.int .i64 0]) 2 16 Tryz.underlying129 hi hz0 hz1 hz2 rfl (by decide) v l.length (l.map lvC).flatten hs hown ⟨b,off,none⟩ k.length cap (k.map lvC).flatten hx (by rw [flat_len 2 _ (lvM_sz k),List.length_map]) (rdL_cells h4) ?_ (by unfold maxLen;omega) (by omega) hbase ?_
    · intro u hu
      obtain ⟨c,hc,hu⟩:=List.mem_flatten.1 hu
      obtain ⟨p,_,rfl⟩:=List.mem_map.1 hc
      simp only [lvC,List.mem_cons,List.not_mem_nil,or_false] at hu
      rcases hu with rfl | rfl <;> rfl
    · intro v' w' ho' hg _
      exact h v' w' (by simpa [OwnL] using ho') hg
theorem rd_one_lv (w:World) (g:Nat) (x y:Int) (hg:g=w.heap.size):RdL (w.alloc (.cells #[.int .i64 x,.int .i64 y] 133)) (.slice (some ⟨g,0,none⟩) 1 1) [(x,y)]:=by
  subst hg
  refine .inr ⟨w.heap.size,0,1,by simp,rfl,by simp,by unfold maxLen;omega,by simp,?_⟩
  intro i hi
  simp only [List.length_cons,List.length_nil] at hi
  have:i=0:=by omega
  subst this
  exact ⟨by rw [World.cell?_alloc_at _ _ _ _ rfl];rfl,by rw [World.cell?_alloc_at _ _ _ _ rfl];rfl⟩
theorem RdL.at {w:World} {a:Option Addr} {cap k:Nat} {l:List (Int × Int)} (h:RdL w (.slice a l.length cap) l) (hk:k < l.length) :
    ∃ b off,a=some ⟨b,off,none⟩/\l.length<=cap/\cap<=maxLen/\b < w.heap.size/\w.cell? ⟨b,off+k * 2,none⟩=some (.int .i64 l[k].1)/\w.cell? ⟨b,off+k * 2+1,none⟩=some (.int .i64 l[k].2):=by
  rcases h with ⟨a',cap',e,rfl,-⟩ | ⟨b,off,cap',h0,e,h1,h2,h3,h4⟩
  · simp at hk
  · simp only [Value.slice.injEq] at e
    obtain ⟨rfl,-,rfl⟩:=e
    exact ⟨b,off,rfl,h1,h2,h3,(h4 k hk).1,(h4 k hk).2⟩
theorem Blk.kept' {W W':World} {row:Option Nat} {B:Nat} {t:TypeId} {cs:List Value} (h:Blk W B t cs) (hg:W.grownBy W' row) (hne:some B ≠ row):Blk W' B t cs:=(hg.block B h.lt hne).trans h
def lvP (n t:Int):List (Int × Int)->List (Int × Int)
  | []=>[(n,t)]
  | x :: r=>if x.2=t then (wrap64 (x.1+n),x.2) :: r else if t < x.2 then (n,t) :: x :: r else x :: lvP n t r
theorem lvP_len (n t:Int):∀ l:List (Int × Int),(lvP n t l).length<=l.length+1
  | []=>by simp [lvP]
  | x :: r=>by
    have:=lvP_len n t r
    rw [lvP]
    split
    · simp
    · split
      · simp
      · simp only [List.length_cons];omega
theorem specL6Leave_any (v:Value) (l:List (Int × Int)) (n t:Int) (w:World) (hr:RdL w v l) (hl:l.length<=4000000) :
    Calls Tryz.prog 135 #[v,.int .i64 n,.int .i64 t] w fun e w'=>∃ v',e=.returned v'/\OwnL w.heap.size w' v' (lvP n t l)/\Below w.heap.size w w':=by
  obtain ⟨av,cv,rfl⟩:=hr.shape
  have Hr:=hide hr
  have ho0:=own_nilL w w.heap.size (Nat.le_refl _)
  have hb0:Below w.heap.size w (w.alloc (.cells #[] 133)):=(Below.refl _ w).alloc (Nat.le_refl _) _
  clear hr
  go_enter Tryz.func135,Tryz.ntmps135
  go_wp2
  go_loopw [7,8,9] (fun bv pv iv wr=>∃ (k:Nat) (pre:List (Int × Int)) (put:Bool),k<=l.length/\iv=.int .i64 (k:Int)/\pv=.bool put/\OwnL w.heap.size wr bv pre/\Below w.heap.size w wr/\pre.length<=k+1/\(put=false->pre.length<=k)/\lvP n t l=pre ++ (if put=true then l.drop k else lvP n t (l.drop k))) (fun _ _ iv _=>l.length - (intOf iv).toNat)
  case atStart=>exact ⟨0,[],false,by omega,rfl,rfl,ho0,hb0,by simp,by simp,by simp⟩
  case round =>
    obtain ⟨k,pre,put,hk,rfl,rfl,ho,hb,hpl,hpf,hpre⟩:=hrel
    clear ho0 hb0
    have hbs:=hb.size
    by_cases hlt:k < l.length
    · obtain ⟨b,off,rfl,hc1,hc2,hbw,e0,e1⟩:=Hr.out.at hlt
      have f0:=(hb.cell (p:=⟨b,off+k * 2,none⟩) hbw).trans e0
      have f1:=(hb.cell (p:=⟨b,off+k * 2+1,none⟩) hbw).trans e1
      have hd:l.drop k=l[k] :: l.drop (k+1):=List.drop_eq_getElem_cons hlt
      rw [hd] at hpre
      generalize l[k]=x at f0 f1 hpre e0 e1
      obtain ⟨xa,xt⟩:=x
      simp only at f0 f1
      have Hpre:=hide hpre
      have Ho:=hide ho
      have Hb:=hide hb
      clear e0 e1 hd hpre ho hb
      cases put
      · rw [if_neg (by simp)] at Hpre
        have hp0:pre.length<=k:=hpf rfl
        clear hpf
        by_cases h1:xt=t
        · have Hnx:Hid (lvP n t l=(pre ++ [(wrap64 (xa+n),xt)]) ++ (if true=true then l.drop (k+1) else lvP n t (l.drop (k+1)))):=hide (by rw [Hpre.out,lvP,if_pos h1,if_pos rfl,List.append_assoc];rfl)
          clear Hpre
          subst h1
          go_wp2_with (at_builtin;refine app_ownLg _ rfl _ _ rfl w.heap.size _ _ pre [(wrap64 (xa+n),xt)] rfl rfl ((Ho.out.alloc _).alloc _) (rd_one_lv _ _ (wrap64 (xa+n)) xt (by simp)) (by simp;omega) (by simp;omega) ?_;intro v1 w1 ho1 hg1)
          have HB:=hide (((Hb.out.alloc hbs (.cells #[.int .i64 (wrap64 (xa+n)),.int .i64 xt] 133)).alloc (by simp;omega) (.cells #[.int .i64 (wrap64 (xa+n)),.int .i64 xt] 133)).grown hg1 (by simp;omega) (fun k hk=>Ho.out.ge k hk))
          go_roundw
          case rel=>exact ⟨k+1,pre ++ [(wrap64 (xa+n),xt)],true,by omega,by go_num,rfl,ho1,HB.out,by simp;omega,by simp,Hnx.out⟩
          case measure=>simp [intOf];omega
        · by_cases h2:t < xt
          · have Hnx:Hid (lvP n t l=(pre ++ [(n,t)] ++ [(xa,xt)]) ++ (if true=true then l.drop (k+1) else lvP n t (l.drop (k+1)))):=hide (by rw [Hpre.out,lvP,if_neg h1,if_pos h2,if_pos rfl,List.append_assoc,List.append_assoc];rfl)
            have hq:(xt == t)=false:=by rw [beq_eq_false_iff_ne];exact h1
            have hbx:=Blk.new wr 133 [.int .i64 xa,.int .i64 xt]
            have hox:=Ho.out.lt
            clear Hpre h1
            go_wp2_with (first
              | (at_builtin;refine app_ownLg _ rfl _ _ rfl w.heap.size _ _ (pre ++ [(n,t)]) [(xa,xt)] rfl rfl (ho1.alloc _) (rd_one_lv _ _ xa xt (by simp)) (by simp;omega) (by simp;omega) ?_;intro v2 w2 ho2 hg2)
              | (at_builtin;refine app_ownLg _ rfl _ _ rfl w.heap.size _ _ pre [(n,t)] rfl rfl ((Ho.out.alloc _).alloc _) (rd_one_lv _ _ n t (by simp)) (by simp;omega) (by simp;omega) ?_;intro v1 w1 ho1 hg1;have hz1:=hg1.size;have hb1:=(hbx.below ((Below.refl (wr.heap.size+1) _).alloc (by simp) (.cells #[.int .i64 n,.int .i64 t] 133)) (by omega)).kept' hg1 (fun e=>by have:=hox _ e.symm;omega);have c0:=hb1.cell 0;have c1:=hb1.cell 1;simp only [List.getElem?_cons_zero,List.getElem?_cons_succ,World.size_alloc] at c0 c1 hz1))
            have HB1:=hide (((Hb.out.alloc hbs (.cells #[.int .i64 xa,.int .i64 xt] 133)).alloc (by simp;omega) (.cells #[.int .i64 n,.int .i64 t] 133)).grown hg1 (by simp;omega) (fun k hk=>Ho.out.ge k hk))
            have HB:=hide ((HB1.out.alloc (by omega) (.cells #[.int .i64 xa,.int .i64 xt] 133)).grown hg2 (by simp;omega) (fun k hk=>ho1.ge k hk))
            go_roundw
            case rel=>exact ⟨k+1,pre ++ [(n,t)] ++ [(xa,xt)],true,by omega,by go_num,rfl,ho2,HB.out,by simp;omega,by simp,Hnx.out⟩
            case measure=>simp [intOf];omega
          · have Hnx:Hid (lvP n t l=(pre ++ [(xa,xt)]) ++ (if false=true then l.drop (k+1) else lvP n t (l.drop (k+1)))):=hide (by rw [Hpre.out,lvP,if_neg h1,if_neg h2,if_neg (by simp),List.append_assoc];rfl)
            have hq:(xt == t)=false:=by rw [beq_eq_false_iff_ne];exact h1
            clear Hpre h1
            go_wp2_with (at_builtin;refine app_ownLg _ rfl _ _ rfl w.heap.size _ _ pre [(xa,xt)] rfl rfl ((Ho.out.alloc _).alloc _) (rd_one_lv _ _ xa xt (by simp)) (by simp;omega) (by simp;omega) ?_;intro v1 w1 ho1 hg1)
            have HB:=hide (((Hb.out.alloc hbs (.cells #[.int .i64 xa,.int .i64 xt] 133)).alloc (by simp;omega) (.cells #[.int .i64 xa,.int .i64 xt] 133)).grown hg1 (by simp;omega) (fun k hk=>Ho.out.ge k hk))
            go_roundw
            case rel=>exact ⟨k+1,pre ++ [(xa,xt)],false,by omega,by go_num,rfl,ho1,HB.out,by simp;omega,fun _=>by simp;omega,Hnx.out⟩
            case measure=>simp [intOf];omega
      · have Hnx:Hid (lvP n t l=(pre ++ [(xa,xt)]) ++ (if true=true then l.drop (k+1) else lvP n t (l.drop (k+1)))):=hide (by rw [Hpre.out,if_pos rfl,if_pos rfl,List.append_assoc];rfl)
        clear Hpre
        go_wp2_with (at_builtin;refine app_ownLg _ rfl _ _ rfl w.heap.size _ _ pre [(xa,xt)] rfl rfl ((Ho.out.alloc _).alloc _) (rd_one_lv _ _ xa xt (by simp)) (by simp;omega) (by simp;omega) ?_;intro v1 w1 ho1 hg1)
        have HB:=hide (((Hb.out.alloc hbs (.cells #[.int .i64 xa,.int .i64 xt] 133)).alloc (by simp;omega) (.cells #[.int .i64 xa,.int .i64 xt] 133)).grown hg1 (by simp;omega) (fun k hk=>Ho.out.ge k hk))
        go_roundw
        case rel=>exact ⟨k+1,pre ++ [(xa,xt)],true,by omega,by go_num,rfl,ho1,HB.out,by simp;omega,by simp,Hnx.out⟩
        case measure=>simp [intOf];omega
    · have hd:l.drop k=[]:=List.drop_eq_nil_of_le (by omega)
      rw [hd] at hpre
      clear hd
      cases put
      · have Hnx:Hid (lvP n t l=pre ++ [(n,t)]):=hide (by rw [hpre,if_neg (by simp)];rfl)
        clear hpre
        have Ho:=hide ho
        have Hb:=hide hb
        clear ho hb
        go_wp2_with (at_builtin;refine app_ownLg _ rfl _ _ rfl w.heap.size _ _ pre [(n,t)] rfl rfl (Ho.out.alloc _) (rd_one_lv _ _ n t (by simp)) (by simp;omega) (by simp;omega) ?_;intro v1 w1 ho1 hg1)
        have HB:=hide ((Hb.out.alloc hbs (.cells #[.int .i64 n,.int .i64 t] 133)).grown hg1 (by simp;omega) (fun k hk=>Ho.out.ge k hk))
        go_ret
        exact ⟨v1,rfl,by rw [Hnx.out];exact ho1,HB.out⟩
      · have Hnx:Hid (lvP n t l=pre):=hide (by rw [hpre,if_pos rfl,List.append_nil])
        clear hpre
        go_wp2
        go_ret
        exact ⟨_,rfl,by rw [Hnx.out];exact ho,hb⟩
end Go.Proofs.YteefibiikampbaaGreatDoor
namespace Go.Proofs.YteefibiikampbaaGreatDoor
open Go.Shelf
def Tryz.keysL_ren:Go.Shelf.Ren:=⟨fun | 7=>176 | 10=>179 | n=>n,fun | 23=>277 | 26=>9 | 3=>131 | 28=>284 | 0=>0 | 27=>283 | 33=>210 | 4=>4 | n=>n,fun | n=>n⟩
theorem Tryz.keysL:Go.Proofs.SlLaysZ.n7 Tryz.prog Tryz.keysL_ren:={
  mixed:=by kernel_rfl
  f7:=⟨Tryz.f176.name,by decide,Tryz.func176.trans (congrArg some (by kernel_rfl))⟩
  f10:=⟨Tryz.f179.name,by decide,Tryz.func179.trans (congrArg some (by kernel_rfl))⟩
  t0:=Tryz.underlying0
  a0:=Tryz.isAgg0
  z0:=Tryz.sizeOf0
  v0:=Tryz.zeroValue0
  t4:=Tryz.underlying4
  a4:=Tryz.isAgg4
  z4:=Tryz.sizeOf4
  v4:=Tryz.zeroValue4
  t23:=Tryz.underlying277
  a23:=Tryz.isAgg277
  z23:=Tryz.sizeOf277
  v23:=Tryz.zeroValue277
  t26:=Tryz.underlying9
  a26:=Tryz.isAgg9
  z26:=Tryz.sizeOf9
  v26:=Tryz.zeroValue9
  t27:=Tryz.underlying283
  a27:=Tryz.isAgg283
  z27:=Tryz.sizeOf283
  v27:=Tryz.zeroValue283
  t28:=Tryz.underlying284
  a28:=Tryz.isAgg284
  z28:=Tryz.sizeOf284
  v28:=Tryz.zeroValue284
  t33:=Tryz.underlying210
  a33:=Tryz.isAgg210
  z33:=Tryz.sizeOf210
  v33:=Tryz.zeroValue210 }
def Tryz.sortedL_ren:Go.Shelf.Ren:=⟨fun | 6=>175 | 8=>177 | 9=>178 | 11=>180 | 13=>182 | 12=>181 | 23=>192 | 24=>193 | 14=>183 | 15=>184 | 16=>185 | 17=>186 | 18=>187 | 19=>188 | 20=>189 | 21=>190 | 22=>191 | 25=>194 | 26=>195 | 27=>196 | 28=>197 | 29=>198 | 30=>199 | 31=>200 | n=>n,fun | 26=>9 | 28=>284 | 24=>25 | 0=>0 | 3=>3 | 37=>290 | 48=>301 | 50=>303 | 4=>4 | 40=>293 | 39=>292 | 45=>298 | 5=>5 | 9=>9 | 51=>304 | 55=>308 | 57=>310 | 58=>311 | 33=>210 | n=>n,fun | n=>n⟩
theorem Tryz.sortedL:Go.Proofs.SlLaysZ.n6 Tryz.prog Tryz.sortedL_ren:={
  mixed:=by kernel_rfl
  f6:=⟨Tryz.f175.name,by decide,Tryz.func175.trans (congrArg some (by kernel_rfl))⟩
  f8:=⟨Tryz.f177.name,by decide,Tryz.func177.trans (congrArg some (by kernel_rfl))⟩
  f11:=⟨Tryz.f180.name,by decide,Tryz.func180.trans (congrArg some (by kernel_rfl))⟩
  t0:=Tryz.underlying0
  a0:=Tryz.isAgg0
  z0:=Tryz.sizeOf0
  v0:=Tryz.zeroValue0
  t24:=Tryz.underlying25
  a24:=Tryz.isAgg25
  z24:=Tryz.sizeOf25
  v24:=Tryz.zeroValue25
  t26:=Tryz.underlying9
  a26:=Tryz.isAgg9
  z26:=Tryz.sizeOf9
  v26:=Tryz.zeroValue9
  t28:=Tryz.underlying284
  a28:=Tryz.isAgg284
  z28:=Tryz.sizeOf284
  v28:=Tryz.zeroValue284
  i26:=by kernel_rfl }
def Tryz.sortL_ren:Go.Shelf.Ren:=⟨fun | 6=>178 | 8=>182 | 9=>181 | 19=>192 | 20=>193 | 21=>183 | 22=>184 | 23=>185 | 24=>186 | 25=>187 | 26=>188 | 27=>189 | 28=>190 | 29=>191 | 36=>194 | 31=>195 | 32=>196 | 37=>197 | 38=>198 | 39=>199 | 41=>200 | n=>n,fun | 27=>25 | 29=>9 | 3=>3 | 32=>290 | 26=>25 | 0=>0 | 44=>301 | 46=>303 | 4=>4 | 36=>293 | 35=>292 | 41=>298 | 5=>5 | 9=>9 | 53=>304 | 57=>308 | 63=>310 | 64=>311 | n=>n,fun | n=>n⟩
theorem Tryz.sortL:Go.Proofs.SlLaysM.n6 Tryz.prog Tryz.sortL_ren:={
  mixed:=by kernel_rfl
  f6:=⟨Tryz.f178.name,by decide,Tryz.func178.trans (congrArg some (by kernel_rfl))⟩
  f8:=Tryz.func182.trans (congrArg some (by kernel_rfl))
  f9:=⟨Tryz.f181.name,by decide,Tryz.func181.trans (congrArg some (by kernel_rfl))⟩
  f19:=Tryz.func192.trans (congrArg some (by kernel_rfl))
  f20:=Tryz.func193.trans (congrArg some (by kernel_rfl))
  f21:=⟨Tryz.f183.name,by decide,Tryz.func183.trans (congrArg some (by kernel_rfl))⟩
  f22:=⟨Tryz.f184.name,by decide,Tryz.func184.trans (congrArg some (by kernel_rfl))⟩
  f23:=⟨Tryz.f185.name,by decide,Tryz.func185.trans (congrArg some (by kernel_rfl))⟩
  f24:=⟨Tryz.f186.name,by decide,Tryz.func186.trans (congrArg some (by kernel_rfl))⟩
  f25:=⟨Tryz.f187.name,by decide,Tryz.func187.trans (congrArg some (by kernel_rfl))⟩
  f26:=⟨Tryz.f188.name,by decide,Tryz.func188.trans (congrArg some (by kernel_rfl))⟩
  f27:=⟨Tryz.f189.name,by decide,Tryz.func189.trans (congrArg some (by kernel_rfl))⟩
  f28:=⟨Tryz.f190.name,by decide,Tryz.func190.trans (congrArg some (by kernel_rfl))⟩
  f29:=⟨Tryz.f191.name,by decide,Tryz.func191.trans (congrArg some (by kernel_rfl))⟩
  f31:=Tryz.func195.trans (congrArg some (by kernel_rfl))
  f32:=Tryz.func196.trans (congrArg some (by kernel_rfl))
  f36:=⟨Tryz.f194.name,by decide,Tryz.func194.trans (congrArg some (by kernel_rfl))⟩
  f37:=⟨Tryz.f197.name,by decide,Tryz.func197.trans (congrArg some (by kernel_rfl))⟩
  f38:=⟨Tryz.f198.name,by decide,Tryz.func198.trans (congrArg some (by kernel_rfl))⟩
  f39:=⟨Tryz.f199.name,by decide,Tryz.func199.trans (congrArg some (by kernel_rfl))⟩
  f41:=⟨Tryz.f200.name,by decide,Tryz.func200.trans (congrArg some (by kernel_rfl))⟩
  t0:=Tryz.underlying0
  a0:=Tryz.isAgg0
  z0:=Tryz.sizeOf0
  v0:=Tryz.zeroValue0
  t3:=Tryz.underlying3
  a3:=Tryz.isAgg3
  z3:=Tryz.sizeOf3
  v3:=Tryz.zeroValue3
  t4:=Tryz.underlying4
  a4:=Tryz.isAgg4
  z4:=Tryz.sizeOf4
  v4:=Tryz.zeroValue4
  t5:=Tryz.underlying5
  a5:=Tryz.isAgg5
  z5:=Tryz.sizeOf5
  v5:=Tryz.zeroValue5
  t9:=Tryz.underlying9
  a9:=Tryz.isAgg9
  z9:=Tryz.sizeOf9
  v9:=Tryz.zeroValue9
  t26:=Tryz.underlying25
  a26:=Tryz.isAgg25
  z26:=Tryz.sizeOf25
  v26:=Tryz.zeroValue25
  t27:=Tryz.underlying25
  a27:=Tryz.isAgg25
  z27:=Tryz.sizeOf25
  v27:=Tryz.zeroValue25
  t29:=Tryz.underlying9
  a29:=Tryz.isAgg9
  z29:=Tryz.sizeOf9
  v29:=Tryz.zeroValue9
  t32:=Tryz.underlying290
  a32:=Tryz.isAgg290
  z32:=Tryz.sizeOf290
  v32:=Tryz.zeroValue290
  t35:=Tryz.underlying292
  a35:=Tryz.isAgg292
  z35:=Tryz.sizeOf292
  v35:=Tryz.zeroValue292
  t36:=Tryz.underlying293
  a36:=Tryz.isAgg293
  z36:=Tryz.sizeOf293
  v36:=Tryz.zeroValue293
  t41:=Tryz.underlying298
  a41:=Tryz.isAgg298
  z41:=Tryz.sizeOf298
  v41:=Tryz.zeroValue298
  t44:=Tryz.underlying301
  a44:=Tryz.isAgg301
  z44:=Tryz.sizeOf301
  v44:=Tryz.zeroValue301
  t46:=Tryz.underlying303
  a46:=Tryz.isAgg303
  z46:=Tryz.sizeOf303
  v46:=Tryz.zeroValue303
  t53:=Tryz.underlying304
  a53:=Tryz.isAgg304
  z53:=Tryz.sizeOf304
  v53:=Tryz.zeroValue304
  t57:=Tryz.underlying308
  a57:=Tryz.isAgg308
  z57:=Tryz.sizeOf308
  v57:=Tryz.zeroValue308
  t63:=Tryz.underlying310
  a63:=Tryz.isAgg310
  z63:=Tryz.sizeOf310
  v63:=Tryz.zeroValue310
  t64:=Tryz.underlying311
  a64:=Tryz.isAgg311
  z64:=Tryz.sizeOf311
  v64:=Tryz.zeroValue311 }
end Go.Proofs.YteefibiikampbaaGreatDoor
