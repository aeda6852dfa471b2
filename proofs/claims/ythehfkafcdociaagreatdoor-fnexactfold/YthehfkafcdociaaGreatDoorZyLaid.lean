/- The library's functions by which the book's names are listed in order (maps.Keys, slices.Sorted, slices.Sort), laid at this seat. -/
import Derived.Test.YthehfkafcdociaaGreatDoorZyBkVal
import Derived.Shelf.SlGeneric
import Derived.Shelf.SlIter.Nil
import Derived.Shelf.SortM.Plain
import Derived.Shelf.SortM.SortNone
import Derived.Ground.GgzProg
import Derived.Ground.SlgmProg
import Derived.Test.YthehfkafcdociaaGreatDoorProg
set_option maxRecDepth 20000
set_option maxHeartbeats 4000000
namespace Go.Proofs.YthehfkafcdociaaGreatDoor
open Go.RowKit
set_option linter.unusedVariables false
theorem app_ownLg {ops:Array Oper} {rest:List Oper} {o:Oper} {a:Act} {Q:Exit->Act->World->Prop} (w:World) (hgd:o.guard=none) (s x:Operand)
    (ho:o.op=.call { callee:=.builtin .append,args:=#[s,x],argTypes:=#[120,120] })
    (base:Nat) (v vx:Value) (l k:List (Int × Int)) (hs:a.eval s=v) (hx:a.eval x=vx) (hown:OwnL base w v l) (hrd:RdL w vx k)
    (hlen:l.length+k.length<=100000000) (hbase:base<=w.heap.size)
    (h:∀ v' w',OwnL base w' v' (l ++ k)->w.grownBy w' v.ownBlock->wpList Tryz.prog ops Q rest (a.put o.dst v') w'):wpList Tryz.prog ops Q (o :: rest) a w:=by
  obtain ⟨i0,hi,hz0,hz1,hz2⟩:=info_parts Tryz.infoLv
  rcases hrd with ⟨ax,cap,rfl,rfl,hnil⟩ | ⟨b,off,cap,h0,rfl,h1,h2,h3,h4⟩
  · cases ax with
    | none =>
      have hc:cap=0:=hnil rfl
      subst hc
      refine wpList_append_own_none hgd s x 120 ho base 124 i0 2 Tryz.underlying120 hi v l.length (l.map lvC).flatten hs hown hx ?_
      exact h v w (by simpa [OwnL] using hown) (World.grownBy.refl _ _)
    | some ad =>
      refine wpList_append_own w hgd s x 120 ho base 124 i0 (.agg #[.int .i64 0,.int .i64 0]) 2 16 Tryz.underlying120 hi hz0 hz1 hz2 rfl (by decide) v l.length (l.map lvC).flatten hs hown ad 0 cap [] hx rfl (by intro j u hj;simp at hj) (by intro u hu;simp at hu) (by unfold maxLen;simp at hlen;omega) (by simp at hlen;omega) hbase ?_
      intro v' w' ho' hg _
      exact h v' w' (by simpa [OwnL] using ho') hg
  · refine wpList_append_own w hgd s x 120 ho base 124 i0 (.agg #[.int .i64 0,.int .i64 0]) 2 16 Tryz.underlying120 hi hz0 hz1 hz2 rfl (by decide) v l.length (l.map lvC).flatten hs hown ⟨b,off,none⟩ k.length cap (k.map lvC).flatten hx (by rw [flat_len 2 _ (lvM_sz k),List.length_map]) (rdL_cells h4) ?_ (by unfold maxLen;omega) (by omega) hbase ?_
    · intro u hu
      obtain ⟨c,hc,hu⟩:=List.mem_flatten.1 hu
      obtain ⟨p,_,rfl⟩:=List.mem_map.1 hc
      simp only [lvC,List.mem_cons,List.not_mem_nil,or_false] at hu
      rcases hu with rfl | rfl <;> rfl
    · intro v' w' ho' hg _
      exact h v' w' (by simpa [OwnL] using ho') hg
theorem rd_one_lv (w:World) (g:Nat) (x y:Int) (hg:g=w.heap.size):RdL (w.alloc (.cells #[.int .i64 x,.int .i64 y] 124)) (.slice (some ⟨g,0,none⟩) 1 1) [(x,y)]:=by
  subst hg
  refine .inr ⟨w.heap.size,0,1,by simp,rfl,by simp,by unfold maxLen;omega,by simp,?_⟩
  intro i hi
  simp only [List.length_cons,List.length_nil] at hi
  have:i=0:=by omega
  subst this
  exact ⟨by rw [World.cell?_alloc_at _ _ _ _ rfl];rfl,by rw [World.cell?_alloc_at _ _ _ _ rfl];rfl⟩
theorem RdL.at {w:World} {a:Option Addr} {cap k:Nat} {l:List (Int × Int)} (h:RdL w (.slice a l.length cap) l) (hk:k < l.length) :
    ∃ b off,a=some ⟨b,off,none⟩/\l.length<=cap/\cap<=maxLen/\b < w.heap.size/\w.cell? ⟨b,off+k * 2,none⟩=some (.int .i64 l[k].1)/\w.cell? ⟨b,off+k * 2+1,none⟩=some (.int .i64 l[k].2):=by
  rcases h with ⟨a',cap',e,rfl,-⟩ | ⟨b,off,cap',h0,e,h1,h2,h3,h4⟩
  · simp at hk
  · simp only [Value.slice.injEq] at e
    obtain ⟨rfl,-,rfl⟩:=e
    exact ⟨b,off,rfl,h1,h2,h3,(h4 k hk).1,(h4 k hk).2⟩
theorem Blk.kept' {W W':World} {row:Option Nat} {B:Nat} {t:TypeId} {cs:List Value} (h:Blk W B t cs) (hg:W.grownBy W' row) (hne:some B ≠ row):Blk W' B t cs:=(hg.block B h.lt hne).trans h
def lvP (n t:Int):List (Int × Int)->List (Int × Int)
  | []=>[(n,t)]
  | x :: r=>if x.2=t then (wrap64 (x.1+n),x.2) :: r else if t < x.2 then (n,t) :: x :: r else x :: lvP n t r
theorem lvP_len (n t:Int):∀ l:List (Int × Int),(lvP n t l).length<=l.length+1
  | []=>by simp [lvP]
  | x :: r=>by
    have:=lvP_len n t r
    rw [lvP]
    split
    · simp
    · split
      · simp
      · simp only [List.length_cons];omega
theorem specL6Leave_any (v:Value) (l:List (Int × Int)) (n t:Int) (w:World) (hr:RdL w v l) (hl:l.length<=4000000) :
    Calls Tryz.prog 123 #[v,.int .i64 n,.int .i64 t] w fun e w'=>∃ v',e=.returned v'/\OwnL w.heap.size w' v' (lvP n t l)/\Below w.heap.size w w':=by
  obtain ⟨av,cv,rfl⟩:=hr.shape
  have Hr:=hide hr
  have ho0:=own_nilL w w.heap.size (Nat.le_refl _)
  have hb0:Below w.heap.size w (w.alloc (.cells #[] 124)):=(Below.refl _ w).alloc (Nat.le_refl _) _
  clear hr
  go_enter Tryz.func123,Tryz.ntmps123
  go_wp2
  go_loopw [7,8,9] (fun bv pv iv wr=>∃ (k:Nat) (pre:List (Int × Int)) (put:Bool),k<=l.length/\iv=.int .i64 (k:Int)/\pv=.bool put/\OwnL w.heap.size wr bv pre/\Below w.heap.size w wr/\pre.length<=k+1/\(put=false->pre.length<=k)/\lvP n t l=pre ++ (if put=true then l.drop k else lvP n t (l.drop k))) (fun _ _ iv _=>l.length - (intOf iv).toNat)
  case atStart=>exact ⟨0,[],false,by omega,rfl,rfl,ho0,hb0,by simp,by simp,by simp⟩
  case round =>
    obtain ⟨k,pre,put,hk,rfl,rfl,ho,hb,hpl,hpf,hpre⟩:=hrel
    clear ho0 hb0
    have hbs:=hb.size
    by_cases hlt:k < l.length
    · obtain ⟨b,off,rfl,hc1,hc2,hbw,e0,e1⟩:=Hr.out.at hlt
      have f0:=(hb.cell (p:=⟨b,off+k * 2,none⟩) hbw).trans e0
      have f1:=(hb.cell (p:=⟨b,off+k * 2+1,none⟩) hbw).trans e1
      have hd:l.drop k=l[k] :: l.drop (k+1):=List.drop_eq_getElem_cons hlt
      rw [hd] at hpre
      generalize l[k]=x at f0 f1 hpre e0 e1
      obtain ⟨xa,xt⟩:=x
      simp only at f0 f1
      have Hpre:=hide hpre
      have Ho:=hide ho
      have Hb:=hide hb
      clear e0 e1 hd hpre ho hb
      cases put
      · rw [if_neg (by simp)] at Hpre
        have hp0:pre.length<=k:=hpf rfl
        clear hpf
        by_cases h1:xt=t
        · have Hnx:Hid (lvP n t l=(pre ++ [(wrap64 (xa+n),xt)]) ++ (if true=true then l.drop (k+1) else lvP n t (l.drop (k+1)))):=hide (by rw [Hpre.out,lvP,if_pos h1,if_pos rfl,List.append_assoc];rfl)
          clear Hpre
          subst h1
          go_wp2_with (at_builtin;refine app_ownLg _ rfl _ _ rfl w.heap.size _ _ pre [(wrap64 (xa+n),xt)] rfl rfl ((Ho.out.alloc _).alloc _) (rd_one_lv _ _ (wrap64 (xa+n)) xt (by simp)) (by simp;omega) (by simp;omega) ?_;intro v1 w1 ho1 hg1)
          have HB:=hide (((Hb.out.alloc hbs (.cells #[.int .i64 (wrap64 (xa+n)),.int .i64 xt] 124)).alloc (by simp;omega) (.cells #[.int .i64 (wrap64 (xa+n)),.int .i64 xt] 124)).grown hg1 (by simp;omega) (fun k hk=>Ho.out.ge k hk))
          go_roundw
          case rel=>exact ⟨k+1,pre ++ [(wrap64 (xa+n),xt)],true,by omega,by go_num,rfl,ho1,HB.out,by simp;omega,by simp,Hnx.out⟩
          case measure=>simp [intOf];omega
        · by_cases h2:t < xt
          · have Hnx:Hid (lvP n t l=(pre ++ [(n,t)] ++ [(xa,xt)]) ++ (if true=true then l.drop (k+1) else lvP n t (l.drop (k+1)))):=hide (by rw [Hpre.out,lvP,if_neg h1,if_pos h2,if_pos rfl,List.append_assoc,List.append_assoc];rfl)
            have hq:(xt == t)=false:=by rw [beq_eq_false_iff_ne];exact h1
            have hbx:=Blk.new wr 124 [.int .i64 xa,.int .i64 xt]
            have hox:=Ho.out.lt
            clear Hpre h1
            go_wp2_with (first
              | (at_builtin;refine app_ownLg _ rfl _ _ rfl w.heap.size _ _ (pre ++ [(n,t)]) [(xa,xt)] rfl rfl (ho1.alloc _) (rd_one_lv _ _ xa xt (by simp)) (by simp;omega) (by simp;omega) ?_;intro v2 w2 ho2 hg2)
              | (at_builtin;refine app_ownLg _ rfl _ _ rfl w.heap.size _ _ pre [(n,t)] rfl rfl ((Ho.out.alloc _).alloc _) (rd_one_lv _ _ n t (by simp)) (by simp;omega) (by simp;omega) ?_;intro v1 w1 ho1 hg1;have hz1:=hg1.size;have hb1:=(hbx.below ((Below.refl (wr.heap.size+1) _).alloc (by simp) (.cells #[.int .i64 n,.int .i64 t] 124)) (by omega)).kept' hg1 (fun e=>by have:=hox _ e.symm;omega);have c0:=hb1.cell 0;have c1:=hb1.cell 1;simp only [List.getElem?_cons_zero,List.getElem?_cons_succ,World.size_alloc] at c0 c1 hz1))
            have HB1:=hide (((Hb.out.alloc hbs (.cells #[.int .i64 xa,.int .i64 xt] 124)).alloc (by simp;omega) (.cells #[.int .i64 n,.int .i64 t] 124)).grown hg1 (by simp;omega) (fun k hk=>Ho.out.ge k hk))
            have HB:=hide ((HB1.out.alloc (by omega) (.cells #[.int .i64 xa,.int .i64 xt] 124)).grown hg2 (by simp;omega) (fun k hk=>ho1.ge k hk))
            go_roundw
            case rel=>exact ⟨k+1,pre ++ [(n,t)] ++ [(xa,xt)],true,by omega,by go_num,rfl,ho2,HB.out,by simp;omega,by simp,Hnx.out⟩
            case measure=>simp [intOf];omega
          · have Hnx:Hid (lvP n t l=(pre ++ [(xa,xt)]) ++ (if false=true then l.drop (k+1) else lvP n t (l.drop (k+1)))):=hide (by rw [Hpre.out,lvP,if_neg h1,if_neg h2,if_neg (by simp),List.append_assoc];rfl)
            have hq:(xt == t)=false:=by rw [beq_eq_false_iff_ne];exact h1
            clear Hpre h1
            go_wp2_with (at_builtin;refine app_ownLg _ rfl _ _ rfl w.heap.size _ _ pre [(xa,xt)] rfl rfl ((Ho.out.alloc _).alloc _) (rd_one_lv _ _ xa xt (by simp)) (by simp;omega) (by simp;omega) ?_;intro v1 w1 ho1 hg1)
            have HB:=hide (((Hb.out.alloc hbs (.cells #[.int .i64 xa,.int .i64 xt] 124)).alloc (by simp;omega) (.cells #[.int .i64 xa,.int .i64 xt] 124)).grown hg1 (by simp;omega) (fun k hk=>Ho.out.ge k hk))
            go_roundw
            case rel=>exact ⟨k+1,pre ++ [(xa,xt)],false,by omega,by go_num,rfl,ho1,HB.out,by simp;omega,fun _=>by simp;omega,Hnx.out⟩
            case measure=>simp [intOf];omega
      · have Hnx:Hid (lvP n t l=(pre ++ [(xa,xt)]) ++ (if true=true then l.drop (k+1) else lvP n t (l.drop (k+1)))):=hide (by rw [Hpre.out,if_pos rfl,if_pos rfl,List.append_assoc];rfl)
        clear Hpre
        go_wp2_with (at_builtin;refine app_ownLg _ rfl _ _ rfl w.heap.size _ _ pre [(xa,xt)] rfl rfl ((Ho.out.alloc _).alloc _) (rd_one_lv _ _ xa xt (by simp)) (by simp;omega) (by simp;omega) ?_;intro v1 w1 ho1 hg1)
        have HB:=hide (((Hb.out.alloc hbs (.cells #[.int .i64 xa,.int .i64 xt] 124)).alloc (by simp;omega) (.cells #[.int .i64 xa,.int .i64 xt] 124)).grown hg1 (by simp;omega) (fun k hk=>Ho.out.ge k hk))
        go_roundw
        case rel=>exact ⟨k+1,pre ++ [(xa,xt)],true,by omega,by go_num,rfl,ho1,HB.out,by simp;omega,by simp,Hnx.out⟩
        case measure=>simp [intOf];omega
    · have hd:l.drop k=[]:=List.drop_eq_nil_of_le (by omega)
      rw [hd] at hpre
      clear hd
      cases put
      · have Hnx:Hid (lvP n t l=pre ++ [(n,t)]):=hide (by rw [hpre,if_neg (by simp)];rfl)
        clear hpre
        have Ho:=hide ho
        have Hb:=hide hb
        clear ho hb
        go_wp2_with (at_builtin;refine app_ownLg _ rfl _ _ rfl w.heap.size _ _ pre [(n,t)] rfl rfl (Ho.out.alloc _) (rd_one_lv _ _ n t (by simp)) (by simp;omega) (by simp;omega) ?_;intro v1 w1 ho1 hg1)
        have HB:=hide ((Hb.out.alloc hbs (.cells #[.int .i64 n,.int .i64 t] 124)).grown hg1 (by simp;omega) (fun k hk=>Ho.out.ge k hk))
        go_ret
        exact ⟨v1,rfl,by rw [Hnx.out];exact ho1,HB.out⟩
      · have Hnx:Hid (lvP n t l=pre):=hide (by rw [hpre,if_pos rfl,List.append_nil])
        clear hpre
        go_wp2
        go_ret
        exact ⟨_,rfl,by rw [Hnx.out];exact ho,hb⟩
end Go.Proofs.YthehfkafcdociaaGreatDoor
namespace Go.Proofs.YthehfkafcdociaaGreatDoor
open Go.Shelf
def Tryz.keysL_ren:Go.Shelf.Ren:=⟨fun | 7=>163 | 10=>166 | n=>n,fun | 23=>272 | 26=>9 | 3=>122 | 28=>279 | 0=>0 | 27=>278 | 33=>204 | 4=>4 | n=>n,fun | n=>n⟩
theorem Tryz.keysL:Go.Proofs.SlLaysZ.n7 Tryz.prog Tryz.keysL_ren:={
  mixed:=by kernel_rfl
  f7:=⟨Tryz.f163.name,by decide,Tryz.func163.trans (congrArg some (by kernel_rfl))⟩
  f10:=⟨Tryz.f166.name,by decide,Tryz.func166.trans (congrArg some (by kernel_rfl))⟩
  t0:=Tryz.underlying0
  a0:=Tryz.isAgg0
  z0:=Tryz.sizeOf0
  v0:=Tryz.zeroValue0
  t4:=Tryz.underlying4
  a4:=Tryz.isAgg4
  z4:=Tryz.sizeOf4
  v4:=Tryz.zeroValue4
  t23:=Tryz.underlying272
  a23:=Tryz.isAgg272
  z23:=Tryz.sizeOf272
  v23:=Tryz.zeroValue272
  t26:=Tryz.underlying9
  a26:=Tryz.isAgg9
  z26:=Tryz.sizeOf9
  v26:=Tryz.zeroValue9
  t27:=Tryz.underlying278
  a27:=Tryz.isAgg278
  z27:=Tryz.sizeOf278
  v27:=Tryz.zeroValue278
  t28:=Tryz.underlying279
  a28:=Tryz.isAgg279
  z28:=Tryz.sizeOf279
  v28:=Tryz.zeroValue279
  t33:=Tryz.underlying204
  a33:=Tryz.isAgg204
  z33:=Tryz.sizeOf204
  v33:=Tryz.zeroValue204 }
def Tryz.sortedL_ren:Go.Shelf.Ren:=⟨fun | 6=>162 | 8=>164 | 9=>165 | 11=>167 | 13=>169 | 12=>168 | 23=>179 | 24=>180 | 14=>170 | 15=>171 | 16=>172 | 17=>173 | 18=>174 | 19=>175 | 20=>176 | 21=>177 | 22=>178 | 25=>181 | 26=>182 | 27=>183 | 28=>184 | 29=>185 | 30=>186 | 31=>187 | n=>n,fun | 26=>9 | 28=>279 | 24=>25 | 0=>0 | 3=>3 | 37=>285 | 48=>296 | 50=>298 | 4=>4 | 40=>288 | 39=>287 | 45=>293 | 5=>5 | 9=>9 | 51=>299 | 55=>303 | 57=>305 | 58=>306 | 33=>204 | n=>n,fun | n=>n⟩
theorem Tryz.sortedL:Go.Proofs.SlLaysZ.n6 Tryz.prog Tryz.sortedL_ren:={
  mixed:=by kernel_rfl
  f6:=⟨Tryz.f162.name,by decide,Tryz.func162.trans (congrArg some (by kernel_rfl))⟩
  f8:=⟨Tryz.f164.name,by decide,Tryz.func164.trans (congrArg some (by kernel_rfl))⟩
  f11:=⟨Tryz.f167.name,by decide,Tryz.func167.trans (congrArg some (by kernel_rfl))⟩
  t0:=Tryz.underlying0
  a0:=Tryz.isAgg0
  z0:=Tryz.sizeOf0
  v0:=Tryz.zeroValue0
  t24:=Tryz.underlying25
  a24:=Tryz.isAgg25
  z24:=Tryz.sizeOf25
  v24:=Tryz.zeroValue25
  t26:=Tryz.underlying9
  a26:=Tryz.isAgg9
  z26:=Tryz.sizeOf9
  v26:=Tryz.zeroValue9
  t28:=Tryz.underlying279
  a28:=Tryz.isAgg279
  z28:=Tryz.sizeOf279
  v28:=Tryz.zeroValue279
  i26:=by kernel_rfl }
def Tryz.sortL_ren:Go.Shelf.Ren:=⟨fun | 6=>165 | 8=>169 | 9=>168 | 19=>179 | 20=>180 | 21=>170 | 22=>171 | 23=>172 | 24=>173 | 25=>174 | 26=>175 | 27=>176 | 28=>177 | 29=>178 | 36=>181 | 31=>182 | 32=>183 | 37=>184 | 38=>185 | 39=>186 | 41=>187 | n=>n,fun | 27=>25 | 29=>9 | 3=>3 | 32=>285 | 26=>25 | 0=>0 | 44=>296 | 46=>298 | 4=>4 | 36=>288 | 35=>287 | 41=>293 | 5=>5 | 9=>9 | 53=>299 | 57=>303 | 63=>305 | 64=>306 | n=>n,fun | n=>n⟩
theorem Tryz.sortL:Go.Proofs.SlLaysM.n6 Tryz.prog Tryz.sortL_ren:={
  mixed:=by kernel_rfl
  f6:=⟨Tryz.f165.name,by decide,Tryz.func165.trans (congrArg some (by kernel_rfl))⟩
  f8:=Tryz.func169.trans (congrArg some (by kernel_rfl))
  f9:=⟨Tryz.f168.name,by decide,Tryz.func168.trans (congrArg some (by kernel_rfl))⟩
  f19:=Tryz.func179.trans (congrArg some (by kernel_rfl))
  f20:=Tryz.func180.trans (congrArg some (by kernel_rfl))
  f21:=⟨Tryz.f170.name,by decide,Tryz.func170.trans (congrArg some (by kernel_rfl))⟩
  f22:=⟨Tryz.f171.name,by decide,Tryz.func171.trans (congrArg some (by kernel_rfl))⟩
  f23:=⟨Tryz.f172.name,by decide,Tryz.func172.trans (congrArg some (by kernel_rfl))⟩
  f24:=⟨Tryz.f173.name,by decide,Tryz.func173.trans (congrArg some (by kernel_rfl))⟩
  f25:=⟨Tryz.f174.name,by decide,Tryz.func174.trans (congrArg some (by kernel_rfl))⟩
  f26:=⟨Tryz.f175.name,by decide,Tryz.func175.trans (congrArg some (by kernel_rfl))⟩
  f27:=⟨Tryz.f176.name,by decide,Tryz.func176.trans (congrArg some (by kernel_rfl))⟩
  f28:=⟨Tryz.f177.name,by decide,Tryz.func177.trans (congrArg some (by kernel_rfl))⟩
  f29:=⟨Tryz.f178.name,by decide,Tryz.func178.trans (congrArg some (by kernel_rfl))⟩
  f31:=Tryz.func182.trans (congrArg some (by kernel_rfl))
  f32:=Tryz.func183.trans (congrArg some (by kernel_rfl))
  f36:=⟨Tryz.f181.name,by decide,Tryz.func181.trans (congrArg some (by kernel_rfl))⟩
  f37:=⟨Tryz.f184.name,by decide,Tryz.func184.trans (congrArg some (by kernel_rfl))⟩
  f38:=⟨Tryz.f185.name,by decide,Tryz.func185.trans (congrArg some (by kernel_rfl))⟩
  f39:=⟨Tryz.f186.name,by decide,Tryz.func186.trans (congrArg some (by kernel_rfl))⟩
  f41:=⟨Tryz.f187.name,by decide,Tryz.func187.trans (congrArg some (by kernel_rfl))⟩
  t0:=Tryz.underlying0
  a0:=Tryz.isAgg0
  z0:=Tryz.sizeOf0
  v0:=Tryz.zeroValue0
  t3:=Tryz.underlying3
  a3:=Tryz.isAgg3
  z3:=Tryz.sizeOf3
  v3:=Tryz.zeroValue3
  t4:=Tryz.underlying4
  a4:=Tryz.isAgg4
  z4:=Tryz.sizeOf4
  v4:=Tryz.zeroValue4
  t5:=Tryz.underlying5
  a5:=Tryz.isAgg5
  z5:=Tryz.sizeOf5
  v5:=Tryz.zeroValue5
  t9:=Tryz.underlying9
  a9:=Tryz.isAgg9
  z9:=Tryz.sizeOf9
  v9:=Tryz.zeroValue9
  t26:=Tryz.underlying25
  a26:=Tryz.isAgg25
  z26:=Tryz.sizeOf25
  v26:=Tryz.zeroValue25
  t27:=Tryz.underlying25
  a27:=Tryz.isAgg25
  z27:=Tryz.sizeOf25
  v27:=Tryz.zeroValue25
  t29:=Tryz.underlying9
  a29:=Tryz.isAgg9
  z29:=Tryz.sizeOf9
  v29:=Tryz.zeroValue9
  t32:=Tryz.underlying285
  a32:=Tryz.isAgg285
  z32:=Tryz.sizeOf285
  v32:=Tryz.zeroValue285
  t35:=Tryz.underlying287
  a35:=Tryz.isAgg287
  z35:=Tryz.sizeOf287
  v35:=Tryz.zeroValue287
  t36:=Tryz.underlying288
  a36:=Tryz.isAgg288
  z36:=Tryz.sizeOf288
  v36:=Tryz.zeroValue288
  t41:=Tryz.underlying293
  a41:=Tryz.isAgg293
  z41:=Tryz.sizeOf293
  v41:=Tryz.zeroValue293
  t44:=Tryz.underlying296
  a44:=Tryz.isAgg296
  z44:=Tryz.sizeOf296
  v44:=Tryz.zeroValue296
  t46:=Tryz.underlying298
  a46:=Tryz.isAgg298
  z46:=Tryz.sizeOf298
  v46:=Tryz.zeroValue298
  t53:=Tryz.underlying299
  a53:=Tryz.isAgg299
  z53:=Tryz.sizeOf299
  v53:=Tryz.zeroValue299
  t57:=Tryz.underlying303
  a57:=Tryz.isAgg303
  z57:=Tryz.sizeOf303
  v57:=Tryz.zeroValue303
  t63:=Tryz.underlying305
  a63:=Tryz.isAgg305
  z63:=Tryz.sizeOf305
  v63:=Tryz.zeroValue305
  t64:=Tryz.underlying306
  a64:=Tryz.isAgg306
  z64:=Tryz.sizeOf306
  v64:=Tryz.zeroValue306 }
end Go.Proofs.YthehfkafcdociaaGreatDoor
