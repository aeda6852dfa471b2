/- The model's ledgers that are right, and copies of them. The model's list of what leaves, with one more. The library's functions by which the book's names are listed in order (maps.Keys, slices.Sorted, slices.Sort), laid at this seat: which of its numbers each is. The landed code's book of accounts: a map by name (plain facts, its look-up, its stores). The names of the book, in order: maps.Keys and slices.Sorted at this seat, by the library's contracts. The book's accounts, in the order of their names: the landed code's listed. -/
import Derived.Test.YtohachldbpejpaaGreatDoorZmLgOpen
import Derived.Test.YtohachldbpejpaaGreatDoorZmAcCopy
import Derived.Deep.RegionHeldLaw
import Derived.Test.YtohachldbpejpaaGreatDoorZmAcMark
import Derived.Shelf.SlGeneric
import Derived.Shelf.SlIter.Nil
import Derived.Shelf.SortM.Plain
import Derived.Shelf.SortM.SortNone
import Derived.Ground.GgzProg
import Derived.Ground.SlgmProg
import Derived.Test.YtohachldbpejpaaGreatDoorProg
import Derived.Maps.OwnSet
import Derived.StringKeys
import Derived.Sort.KeysCollected
namespace Go.Proofs.YtohachldbpejpaaGreatDoor
open Go.RowKit
set_option linter.unusedVariables false
def lgB (e:Int) (l:List Ac):Bool:=inB e 0 900 && acsB l
set_option maxRecDepth 20000 in
set_option maxHeartbeats 1000000 in
theorem specLedgerOk_any (e:Int) (v:Value) (l:List Ac) (w:World) (hr:RdA w v l) (hl:l.length<=4000000) (hall:∀ a ∈ l,a.1.size<=maxLen/\a.2.2.2.2.length<=4000000) :
    Calls Tryz.prog 143 #[lgV e v] w fun en w'=>en=.returned (.bool (lgB e l))/\Below w.heap.size w w':=by
  obtain ⟨a1,cv1,rfl⟩:=hr.shape
  simp only [lgV] at *
  have hb3:Below w.heap.size w (w.alloc (.cells #[.int .i64 e,.slice a1 l.length cv1] 26)):=(Below.refl _ w).alloc (Nat.le_refl _) _
  have HE:=hide (specAcctsOk_any _ l _ (hr.below hb3 (Nat.le_refl _)) hl hall)
  have Hb3:=hide hb3
  have Hx:Hid (lgB e l=(inB e 0 900 && acsB l)):=hide rfl
  clear hb3 hr hall
  generalize lgB e l=X at Hx
  generalize acsB l=A at Hx HE
  cases h0:inB e 0 900
  · rw [h0,Bool.false_and] at Hx
    go_enter Tryz.func143,Tryz.ntmps143
    go_wp2_with (go_at_call 181;refine (l1In_any _ _ _ _).mono ?_;rintro en w1 ⟨rfl,rfl⟩)
    go_ret
    exact ⟨ret_bool Hx.out.symm,Hb3.out⟩
  · rw [h0,Bool.true_and] at Hx
    go_enter Tryz.func143,Tryz.ntmps143
    go_wp2_with (first
      | (go_at_call 181;refine (l1In_any _ _ _ _).mono ?_;rintro en w1 ⟨rfl,rfl⟩)
      | (go_at_call 195;refine HE.out.mono ?_;rintro en w2 ⟨rfl,hb2⟩))
    go_ret
    exact ⟨ret_bool Hx.out.symm,Hb3.out.trans (hb2.mono Hb3.out.size)⟩
theorem keep2 {W:World} {B G:Nat} {x y u v:Value} (h:W.cell? ⟨B,0,none⟩=some x/\W.cell? ⟨B,1,none⟩=some y) (hne:B ≠ G):((W.setCell ⟨G,0,none⟩ u).setCell ⟨G,1,none⟩ v).cell? ⟨B,0,none⟩=some x/\((W.setCell ⟨G,0,none⟩ u).setCell ⟨G,1,none⟩ v).cell? ⟨B,1,none⟩=some y:=by
  have e:((W.setCell ⟨G,0,none⟩ u).setCell ⟨G,1,none⟩ v).heap[B]?=W.heap[B]?:=by
    rw [heap_setCell_other _ ⟨G,1,none⟩ B _ hne,heap_setCell_other _ ⟨G,0,none⟩ B _ hne]
  exact ⟨(World.cell?_of_block e).trans h.1,(World.cell?_of_block e).trans h.2⟩
set_option maxRecDepth 20000 in
set_option maxHeartbeats 1000000 in
theorem specL6Copy_any (e:Int) (v:Value) (l:List Ac) (w:World) (hr:RdA w v l) (hl:l.length<=4000000) (hall:∀ a ∈ l,a.2.2.2.2.length<=4000000) :
    Calls Tryz.prog 71 #[lgV e v] w fun en w'=>∃ v',en=.returned (lgV e v')/\OwnA w.heap.size w' v' l/\Below w.heap.size w w':=by
  obtain ⟨a1,cv1,rfl⟩:=hr.shape
  simp only [lgV] at *
  obtain ⟨w2,hw2⟩:∃ w2,(w.alloc (.cells #[.int .i64 e,.slice a1 l.length cv1] 26)).alloc (.cells #[.int .i64 0,.slice none 0 0] 26)=w2:=⟨_,rfl⟩
  have hb2:Below w.heap.size w w2.drew:=by rw [<- hw2];exact (((Below.refl _ w).alloc (Nat.le_refl _) _).alloc (by simp) _).drew
  have hs2:w2.heap.size=w.heap.size+2:=by rw [<- hw2];simp
  have kA:Blk w2 w.heap.size 26 [.int .i64 e,.slice a1 l.length cv1]:=by
    rw [<- hw2]
    exact (Blk.new w 26 [.int .i64 e,.slice a1 l.length cv1]).below ((Below.refl (w.heap.size+1) _).alloc (by simp) _) (by omega)
  have kR:Blk w2 (w.heap.size+1) 26 [.int .i64 0,.slice none 0 0]:=by
    rw [<- hw2]
    have h:=Blk.new (w.alloc (.cells #[.int .i64 e,.slice a1 l.length cv1] 26)) 26 [.int .i64 0,.slice none 0 0]
    simp only [World.size_alloc] at h
    exact h
  have HC:=hide (specCopy_any _ l w2.drew (hr.below hb2 (Nat.le_refl _)) hl hall)
  have hS2:w2.drew.cell? ⟨w.heap.size,0,none⟩=some (.int .i64 e)/\w2.drew.cell? ⟨w.heap.size,1,none⟩=some (.slice a1 l.length cv1):=⟨kA.cell 0,kA.cell 1⟩
  have Hb2:=hide hb2
  have KA:Hid (Blk w2.drew w.heap.size 26 [.int .i64 e,.slice a1 l.length cv1]):=hide kA
  have KR:Hid (Blk w2.drew (w.heap.size+1) 26 [.int .i64 0,.slice none 0 0]):=hide kR
  have hs3:w2.drew.heap.size=w.heap.size+2:=hs2
  clear hr hb2 kA kR
  go_enter Tryz.func71,Tryz.ntmps71
  go_wp2
  go_region_held_law (fun w'=>w'.cell? ⟨w.heap.size,0,none⟩=some (.int .i64 e)/\w'.cell? ⟨w.heap.size,1,none⟩=some (.slice a1 l.length cv1)) (first | exact hS2 | exact hS4 | exact keep2 hS4 (by omega)) ((go_at_call 133;refine HC.out.mono ?_;rintro en w4 ⟨v4,rfl,ho4,hb4⟩;have KA4:=KA.out.below hb4 (by omega);have KR4:=KR.out.below hb4 (by omega);have hS4:w4.cell? ⟨w.heap.size,0,none⟩=some (.int .i64 e)/\w4.cell? ⟨w.heap.size,1,none⟩=some (.slice a1 l.length cv1):=⟨KA4.cell 0,KA4.cell 1⟩;have r0:w4.cell? ⟨w.heap.size+1,0,none⟩=some (.int .i64 0):=KR4.cell 0;have r1:w4.cell? ⟨w.heap.size+1,1,none⟩=some (.slice none 0 0):=KR4.cell 1;have q0:=KR4.frozen 0;have q1:=KR4.frozen 1;have hsh:=ho4.rd.shape;obtain ⟨a4,cv4,hv4⟩:=hsh;subst hv4))
  have Ho:=hide (((ho4.older (g:=w.heap.size+1) (by omega) 0 (.int .i64 e)).older (g:=w.heap.size+1) (by omega) 1 (.slice a4 l.length cv4)).mono (show w.heap.size<=_ by omega))
  have HB:=hide (((Hb2.out.trans (hb4.mono Hb2.out.size)).setCell (p:=⟨w.heap.size+1,0,none⟩) (show w.heap.size<=w.heap.size+1 by omega) (.int .i64 e)).setCell (p:=⟨w.heap.size+1,1,none⟩) (show w.heap.size<=w.heap.size+1 by omega) (.slice a4 l.length cv4))
  clear ho4 hb4 KA4
  go_wp2
  refine bodyPost_ret (v:=.agg #[.int .i64 e,.slice a4 l.length cv4]) (by simp [results,Tryz.f71,go_sem,r0,r1]) rfl ?_
  exact ⟨_,rfl,Ho.out,HB.out⟩
end Go.Proofs.YtohachldbpejpaaGreatDoor

namespace Go.Proofs.YtohachldbpejpaaGreatDoor
open Go.RowKit
set_option linter.unusedVariables false
theorem app_ownLg {ops:Array Oper} {rest:List Oper} {o:Oper} {a:Act} {Q:Exit->Act->World->Prop} (w:World) (hgd:o.guard=none) (s x:Operand)
    (ho:o.op=.call { callee:=.builtin .append,args:=#[s,x],argTypes:=#[103,103] })
    (base:Nat) (v vx:Value) (l k:List (Int × Int)) (hs:a.eval s=v) (hx:a.eval x=vx) (hown:OwnL base w v l) (hrd:RdL w vx k)
    (hlen:l.length+k.length<=100000000) (hbase:base<=w.heap.size)
    (h:∀ v' w',OwnL base w' v' (l ++ k)->w.grownBy w' v.ownBlock->wpList Tryz.prog ops Q rest (a.put o.dst v') w'):wpList Tryz.prog ops Q (o :: rest) a w:=by
  obtain ⟨i0,hi,hz0,hz1,hz2⟩:=info_parts Tryz.infoLv
  rcases hrd with ⟨ax,cap,rfl,rfl,hnil⟩ | ⟨b,off,cap,h0,rfl,h1,h2,h3,h4⟩
  · cases ax with
    | none =>
      have hc:cap=0:=hnil rfl
      subst hc
      refine wpList_append_own_none hgd s x 103 ho base 107 i0 2 Tryz.underlying103 hi v l.length (l.map lvC).flatten hs hown hx ?_
      exact h v w (by simpa [OwnL] using hown) (World.grownBy.refl _ _)
    | some ad =>
      refine wpList_append_own w hgd s x 103 ho base 107 i0 (.agg #[.int .i64 0,.int .i64 0]) 2 16 Tryz.underlying103 hi hz0 hz1 hz2 rfl (by decide) v l.length (l.map lvC).flatten hs hown ad 0 cap [] hx rfl (by intro j u hj;simp at hj) (by intro u hu;simp at hu) (by unfold maxLen;simp at hlen;omega) (by simp at hlen;omega) hbase ?_
      intro v' w' ho' hg _
      exact h v' w' (by simpa [OwnL] using ho') hg
  · refine wpList_append_own w hgd s x 103 ho base 107 i0 (.agg #[.int .i64 0,.int .i64 0]) 2 16 Tryz.underlying103 hi hz0 hz1 hz2 rfl (by decide) v l.length (l.map lvC).flatten hs hown ⟨b,off,none⟩ k.length cap (k.map lvC).flatten hx (by rw [flat_len 2 _ (lvM_sz k),List.length_map]) (rdL_cells h4) ?_ (by unfold maxLen;omega) (by omega) hbase ?_
    · intro u hu
      obtain ⟨c,hc,hu⟩:=List.mem_flatten.1 hu
      obtain ⟨p,_,rfl⟩:=List.mem_map.1 hc
      simp only [lvC,List.mem_cons,List.not_mem_nil,or_false] at hu
      rcases hu with rfl | rfl <;> rfl
    · intro v' w' ho' hg _
      exact h v' w' (by simpa [OwnL] using ho') hg
theorem rd_one_lv (w:World) (g:Nat) (x y:Int) (hg:g=w.heap.size):RdL (w.alloc (.cells #[.int .i64 x,.int .i64 y] 107)) (.slice (some ⟨g,0,none⟩) 1 1) [(x,y)]:=by
  subst hg
  refine .inr ⟨w.heap.size,0,1,by simp,rfl,by simp,by unfold maxLen;omega,by simp,?_⟩
  intro i hi
  simp only [List.length_cons,List.length_nil] at hi
  have:i=0:=by omega
  subst this
  exact ⟨by rw [World.cell?_alloc_at _ _ _ _ rfl];rfl,by rw [World.cell?_alloc_at _ _ _ _ rfl];rfl⟩
theorem RdL.at {w:World} {a:Option Addr} {cap k:Nat} {l:List (Int × Int)} (h:RdL w (.slice a l.length cap) l) (hk:k < l.length) :
    ∃ b off,a=some ⟨b,off,none⟩/\l.length<=cap/\cap<=maxLen/\b < w.heap.size/\w.cell? ⟨b,off+k * 2,none⟩=some (.int .i64 l[k].1)/\w.cell? ⟨b,off+k * 2+1,none⟩=some (.int .i64 l[k].2):=by
  rcases h with ⟨a',cap',e,rfl,-⟩ | ⟨b,off,cap',h0,e,h1,h2,h3,h4⟩
  · simp at hk
  · simp only [Value.slice.injEq] at e
    obtain ⟨rfl,-,rfl⟩:=e
    exact ⟨b,off,rfl,h1,h2,h3,(h4 k hk).1,(h4 k hk).2⟩
theorem Blk.kept' {W W':World} {row:Option Nat} {B:Nat} {t:TypeId} {cs:List Value} (h:Blk W B t cs) (hg:W.grownBy W' row) (hne:some B ≠ row):Blk W' B t cs:=(hg.block B h.lt hne).trans h
def lvP (n t:Int):List (Int × Int)->List (Int × Int)
  | []=>[(n,t)]
  | x :: r=>if x.2=t then (wrap64 (x.1+n),x.2) :: r else if t < x.2 then (n,t) :: x :: r else x :: lvP n t r
theorem lvP_len (n t:Int):∀ l:List (Int × Int),(lvP n t l).length<=l.length+1
  | []=>by simp [lvP]
  | x :: r=>by
    have:=lvP_len n t r
    rw [lvP]
    split
    · simp
    · split
      · simp
      · simp only [List.length_cons];omega
set_option maxRecDepth 20000 in
set_option maxHeartbeats 4000000 in
theorem specL6Leave_any (v:Value) (l:List (Int × Int)) (n t:Int) (w:World) (hr:RdL w v l) (hl:l.length<=4000000) :
    Calls Tryz.prog 202 #[v,.int .i64 n,.int .i64 t] w fun e w'=>∃ v',e=.returned v'/\OwnL w.heap.size w' v' (lvP n t l)/\Below w.heap.size w w':=by
  obtain ⟨av,cv,rfl⟩:=hr.shape
  have Hr:=hide hr
  have ho0:=own_nilL w w.heap.size (Nat.le_refl _)
  have hb0:Below w.heap.size w (w.alloc (.cells #[] 107)):=(Below.refl _ w).alloc (Nat.le_refl _) _
  clear hr
  go_enter Tryz.func202,Tryz.ntmps202
  go_wp2
  go_loopw [7,8,9] (fun bv pv iv wr=>∃ (k:Nat) (pre:List (Int × Int)) (put:Bool),k<=l.length/\iv=.int .i64 (k:Int)/\pv=.bool put/\OwnL w.heap.size wr bv pre/\Below w.heap.size w wr/\pre.length<=k+1/\(put=false->pre.length<=k)/\lvP n t l=pre ++ (if put=true then l.drop k else lvP n t (l.drop k))) (fun _ _ iv _=>l.length - (intOf iv).toNat)
  case atStart=>exact ⟨0,[],false,by omega,rfl,rfl,ho0,hb0,by simp,by simp,by simp⟩
  case round =>
    obtain ⟨k,pre,put,hk,rfl,rfl,ho,hb,hpl,hpf,hpre⟩:=hrel
    clear ho0 hb0
    have hbs:=hb.size
    by_cases hlt:k < l.length
    · obtain ⟨b,off,rfl,hc1,hc2,hbw,e0,e1⟩:=Hr.out.at hlt
      have f0:=(hb.cell (p:=⟨b,off+k * 2,none⟩) hbw).trans e0
      have f1:=(hb.cell (p:=⟨b,off+k * 2+1,none⟩) hbw).trans e1
      have hd:l.drop k=l[k] :: l.drop (k+1):=List.drop_eq_getElem_cons hlt
      rw [hd] at hpre
      generalize l[k]=x at f0 f1 hpre e0 e1
      obtain ⟨xa,xt⟩:=x
      simp only at f0 f1
      have Hpre:=hide hpre
      have Ho:=hide ho
      have Hb:=hide hb
      clear e0 e1 hd hpre ho hb
      cases put
      · rw [if_neg (by simp)] at Hpre
        have hp0:pre.length<=k:=hpf rfl
        clear hpf
        by_cases h1:xt=t
        · have Hnx:Hid (lvP n t l=(pre ++ [(wrap64 (xa+n),xt)]) ++ (if true=true then l.drop (k+1) else lvP n t (l.drop (k+1)))):=hide (by rw [Hpre.out,lvP,if_pos h1,if_pos rfl,List.append_assoc];rfl)
          clear Hpre
          subst h1
          go_wp2_with (at_builtin;refine app_ownLg _ rfl _ _ rfl w.heap.size _ _ pre [(wrap64 (xa+n),xt)] rfl rfl ((Ho.out.alloc _).alloc _) (rd_one_lv _ _ (wrap64 (xa+n)) xt (by simp)) (by simp;omega) (by simp;omega) ?_;intro v1 w1 ho1 hg1)
          have HB:=hide (((Hb.out.alloc hbs (.cells #[.int .i64 (wrap64 (xa+n)),.int .i64 xt] 107)).alloc (by simp;omega) (.cells #[.int .i64 (wrap64 (xa+n)),.int .i64 xt] 107)).grown hg1 (by simp;omega) (fun k hk=>Ho.out.ge k hk))
          go_roundw
          case rel=>exact ⟨k+1,pre ++ [(wrap64 (xa+n),xt)],true,by omega,by go_num,rfl,ho1,HB.out,by simp;omega,by simp,Hnx.out⟩
          case measure=>simp [intOf];omega
        · by_cases h2:t < xt
          · have Hnx:Hid (lvP n t l=(pre ++ [(n,t)] ++ [(xa,xt)]) ++ (if true=true then l.drop (k+1) else lvP n t (l.drop (k+1)))):=hide (by rw [Hpre.out,lvP,if_neg h1,if_pos h2,if_pos rfl,List.append_assoc,List.append_assoc];rfl)
            have hq:(xt == t)=false:=by rw [beq_eq_false_iff_ne];exact h1
            have hbx:=Blk.new wr 107 [.int .i64 xa,.int .i64 xt]
            have hox:=Ho.out.lt
            clear Hpre h1
            go_wp2_with (first
              | (at_builtin;refine app_ownLg _ rfl _ _ rfl w.heap.size _ _ (pre ++ [(n,t)]) [(xa,xt)] rfl rfl (ho1.alloc _) (rd_one_lv _ _ xa xt (by simp)) (by simp;omega) (by simp;omega) ?_;intro v2 w2 ho2 hg2)
              | (at_builtin;refine app_ownLg _ rfl _ _ rfl w.heap.size _ _ pre [(n,t)] rfl rfl ((Ho.out.alloc _).alloc _) (rd_one_lv _ _ n t (by simp)) (by simp;omega) (by simp;omega) ?_;intro v1 w1 ho1 hg1;have hz1:=hg1.size;have hb1:=(hbx.below ((Below.refl (wr.heap.size+1) _).alloc (by simp) (.cells #[.int .i64 n,.int .i64 t] 107)) (by omega)).kept' hg1 (fun e=>by have:=hox _ e.symm;omega);have c0:=hb1.cell 0;have c1:=hb1.cell 1;simp only [List.getElem?_cons_zero,List.getElem?_cons_succ,World.size_alloc] at c0 c1 hz1))
            have HB1:=hide (((Hb.out.alloc hbs (.cells #[.int .i64 xa,.int .i64 xt] 107)).alloc (by simp;omega) (.cells #[.int .i64 n,.int .i64 t] 107)).grown hg1 (by simp;omega) (fun k hk=>Ho.out.ge k hk))
            have HB:=hide ((HB1.out.alloc (by omega) (.cells #[.int .i64 xa,.int .i64 xt] 107)).grown hg2 (by simp;omega) (fun k hk=>ho1.ge k hk))
            go_roundw
            case rel=>exact ⟨k+1,pre ++ [(n,t)] ++ [(xa,xt)],true,by omega,by go_num,rfl,ho2,HB.out,by simp;omega,by simp,Hnx.out⟩
            case measure=>simp [intOf];omega
          · have Hnx:Hid (lvP n t l=(pre ++ [(xa,xt)]) ++ (if false=true then l.drop (k+1) else lvP n t (l.drop (k+1)))):=hide (by rw [Hpre.out,lvP,if_neg h1,if_neg h2,if_neg (by simp),List.append_assoc];rfl)
            have hq:(xt == t)=false:=by rw [beq_eq_false_iff_ne];exact h1
            clear Hpre h1
            go_wp2_with (at_builtin;refine app_ownLg _ rfl _ _ rfl w.heap.size _ _ pre [(xa,xt)] rfl rfl ((Ho.out.alloc _).alloc _) (rd_one_lv _ _ xa xt (by simp)) (by simp;omega) (by simp;omega) ?_;intro v1 w1 ho1 hg1)
            have HB:=hide (((Hb.out.alloc hbs (.cells #[.int .i64 xa,.int .i64 xt] 107)).alloc (by simp;omega) (.cells #[.int .i64 xa,.int .i64 xt] 107)).grown hg1 (by simp;omega) (fun k hk=>Ho.out.ge k hk))
            go_roundw
            case rel=>exact ⟨k+1,pre ++ [(xa,xt)],false,by omega,by go_num,rfl,ho1,HB.out,by simp;omega,fun _=>by simp;omega,Hnx.out⟩
            case measure=>simp [intOf];omega
      · have Hnx:Hid (lvP n t l=(pre ++ [(xa,xt)]) ++ (if true=true then l.drop (k+1) else lvP n t (l.drop (k+1)))):=hide (by rw [Hpre.out,if_pos rfl,if_pos rfl,List.append_assoc];rfl)
        clear Hpre
        go_wp2_with (at_builtin;refine app_ownLg _ rfl _ _ rfl w.heap.size _ _ pre [(xa,xt)] rfl rfl ((Ho.out.alloc _).alloc _) (rd_one_lv _ _ xa xt (by simp)) (by simp;omega) (by simp;omega) ?_;intro v1 w1 ho1 hg1)
        have HB:=hide (((Hb.out.alloc hbs (.cells #[.int .i64 xa,.int .i64 xt] 107)).alloc (by simp;omega) (.cells #[.int .i64 xa,.int .i64 xt] 107)).grown hg1 (by simp;omega) (fun k hk=>Ho.out.ge k hk))
        go_roundw
        case rel=>exact ⟨k+1,pre ++ [(xa,xt)],true,by omega,by go_num,rfl,ho1,HB.out,by simp;omega,by simp,Hnx.out⟩
        case measure=>simp [intOf];omega
    · have hd:l.drop k=[]:=List.drop_eq_nil_of_le (by omega)
      rw [hd] at hpre
      clear hd
      cases put
      · have Hnx:Hid (lvP n t l=pre ++ [(n,t)]):=hide (by rw [hpre,if_neg (by simp)];rfl)
        clear hpre
        have Ho:=hide ho
        have Hb:=hide hb
        clear ho hb
        go_wp2_with (at_builtin;refine app_ownLg _ rfl _ _ rfl w.heap.size _ _ pre [(n,t)] rfl rfl (Ho.out.alloc _) (rd_one_lv _ _ n t (by simp)) (by simp;omega) (by simp;omega) ?_;intro v1 w1 ho1 hg1)
        have HB:=hide ((Hb.out.alloc hbs (.cells #[.int .i64 n,.int .i64 t] 107)).grown hg1 (by simp;omega) (fun k hk=>Ho.out.ge k hk))
        go_ret
        exact ⟨v1,rfl,by rw [Hnx.out];exact ho1,HB.out⟩
      · have Hnx:Hid (lvP n t l=pre):=hide (by rw [hpre,if_pos rfl,List.append_nil])
        clear hpre
        go_wp2
        go_ret
        exact ⟨_,rfl,by rw [Hnx.out];exact ho,hb⟩
end Go.Proofs.YtohachldbpejpaaGreatDoor

namespace Go.Proofs.YtohachldbpejpaaGreatDoor
open Go.Shelf
def Tryz.keysL_ren:Go.Shelf.Ren:=⟨fun | 7=>233 | 10=>241 | n=>n,fun | 23=>283 | 26=>9 | 3=>105 | 28=>305 | 0=>0 | 27=>304 | 33=>229 | 4=>4 | n=>n,fun | n=>n⟩
theorem Tryz.keysL:Go.Proofs.SlLaysZ.n7 Tryz.prog Tryz.keysL_ren:={
  mixed:=by kernel_rfl
  f7:=⟨Tryz.f233.name,by decide,Tryz.func233.trans (congrArg some (by kernel_rfl))⟩
  f10:=⟨Tryz.f241.name,by decide,Tryz.func241.trans (congrArg some (by kernel_rfl))⟩
  t0:=Tryz.underlying0
  a0:=Tryz.isAgg0
  z0:=Tryz.sizeOf0
  v0:=Tryz.zeroValue0
  t4:=Tryz.underlying4
  a4:=Tryz.isAgg4
  z4:=Tryz.sizeOf4
  v4:=Tryz.zeroValue4
  t23:=Tryz.underlying283
  a23:=Tryz.isAgg283
  z23:=Tryz.sizeOf283
  v23:=Tryz.zeroValue283
  t26:=Tryz.underlying9
  a26:=Tryz.isAgg9
  z26:=Tryz.sizeOf9
  v26:=Tryz.zeroValue9
  t27:=Tryz.underlying304
  a27:=Tryz.isAgg304
  z27:=Tryz.sizeOf304
  v27:=Tryz.zeroValue304
  t28:=Tryz.underlying305
  a28:=Tryz.isAgg305
  z28:=Tryz.sizeOf305
  v28:=Tryz.zeroValue305
  t33:=Tryz.underlying229
  a33:=Tryz.isAgg229
  z33:=Tryz.sizeOf229
  v33:=Tryz.zeroValue229 }
def Tryz.sortedL_ren:Go.Shelf.Ren:=⟨fun | 6=>232 | 8=>239 | 9=>240 | 11=>244 | 13=>176 | 12=>245 | 23=>211 | 24=>212 | 14=>246 | 15=>247 | 16=>248 | 17=>249 | 18=>250 | 19=>251 | 20=>252 | 21=>253 | 22=>254 | 25=>255 | 26=>256 | 27=>257 | 28=>258 | 29=>259 | 30=>260 | 31=>261 | n=>n,fun | 26=>9 | 28=>305 | 24=>42 | 0=>0 | 3=>3 | 37=>262 | 48=>255 | 50=>287 | 4=>4 | 40=>315 | 39=>314 | 45=>270 | 5=>5 | 9=>9 | 51=>321 | 55=>325 | 57=>327 | 58=>328 | 33=>229 | n=>n,fun | n=>n⟩
theorem Tryz.sortedL:Go.Proofs.SlLaysZ.n6 Tryz.prog Tryz.sortedL_ren:={
  mixed:=by kernel_rfl
  f6:=⟨Tryz.f232.name,by decide,Tryz.func232.trans (congrArg some (by kernel_rfl))⟩
  f8:=⟨Tryz.f239.name,by decide,Tryz.func239.trans (congrArg some (by kernel_rfl))⟩
  f11:=⟨Tryz.f244.name,by decide,Tryz.func244.trans (congrArg some (by kernel_rfl))⟩
  t0:=Tryz.underlying0
  a0:=Tryz.isAgg0
  z0:=Tryz.sizeOf0
  v0:=Tryz.zeroValue0
  t24:=Tryz.underlying42
  a24:=Tryz.isAgg42
  z24:=Tryz.sizeOf42
  v24:=Tryz.zeroValue42
  t26:=Tryz.underlying9
  a26:=Tryz.isAgg9
  z26:=Tryz.sizeOf9
  v26:=Tryz.zeroValue9
  t28:=Tryz.underlying305
  a28:=Tryz.isAgg305
  z28:=Tryz.sizeOf305
  v28:=Tryz.zeroValue305
  i26:=by kernel_rfl }
def Tryz.sortL_ren:Go.Shelf.Ren:=⟨fun | 6=>240 | 8=>176 | 9=>245 | 19=>211 | 20=>212 | 21=>246 | 22=>247 | 23=>248 | 24=>249 | 25=>250 | 26=>251 | 27=>252 | 28=>253 | 29=>254 | 36=>255 | 31=>256 | 32=>257 | 37=>258 | 38=>259 | 39=>260 | 41=>261 | n=>n,fun | 27=>42 | 29=>9 | 3=>3 | 32=>262 | 26=>42 | 0=>0 | 44=>255 | 46=>287 | 4=>4 | 36=>315 | 35=>314 | 41=>270 | 5=>5 | 9=>9 | 53=>321 | 57=>325 | 63=>327 | 64=>328 | n=>n,fun | n=>n⟩
theorem Tryz.sortL:Go.Proofs.SlLaysM.n6 Tryz.prog Tryz.sortL_ren:={
  mixed:=by kernel_rfl
  f6:=⟨Tryz.f240.name,by decide,Tryz.func240.trans (congrArg some (by kernel_rfl))⟩
  f8:=Tryz.func176.trans (congrArg some (by kernel_rfl))
  f9:=⟨Tryz.f245.name,by decide,Tryz.func245.trans (congrArg some (by kernel_rfl))⟩
  f19:=Tryz.func211.trans (congrArg some (by kernel_rfl))
  f20:=Tryz.func212.trans (congrArg some (by kernel_rfl))
  f21:=⟨Tryz.f246.name,by decide,Tryz.func246.trans (congrArg some (by kernel_rfl))⟩
  f22:=⟨Tryz.f247.name,by decide,Tryz.func247.trans (congrArg some (by kernel_rfl))⟩
  f23:=⟨Tryz.f248.name,by decide,Tryz.func248.trans (congrArg some (by kernel_rfl))⟩
  f24:=⟨Tryz.f249.name,by decide,Tryz.func249.trans (congrArg some (by kernel_rfl))⟩
  f25:=⟨Tryz.f250.name,by decide,Tryz.func250.trans (congrArg some (by kernel_rfl))⟩
  f26:=⟨Tryz.f251.name,by decide,Tryz.func251.trans (congrArg some (by kernel_rfl))⟩
  f27:=⟨Tryz.f252.name,by decide,Tryz.func252.trans (congrArg some (by kernel_rfl))⟩
  f28:=⟨Tryz.f253.name,by decide,Tryz.func253.trans (congrArg some (by kernel_rfl))⟩
  f29:=⟨Tryz.f254.name,by decide,Tryz.func254.trans (congrArg some (by kernel_rfl))⟩
  f31:=Tryz.func256.trans (congrArg some (by kernel_rfl))
  f32:=Tryz.func257.trans (congrArg some (by kernel_rfl))
  f36:=⟨Tryz.f255.name,by decide,Tryz.func255.trans (congrArg some (by kernel_rfl))⟩
  f37:=⟨Tryz.f258.name,by decide,Tryz.func258.trans (congrArg some (by kernel_rfl))⟩
  f38:=⟨Tryz.f259.name,by decide,Tryz.func259.trans (congrArg some (by kernel_rfl))⟩
  f39:=⟨Tryz.f260.name,by decide,Tryz.func260.trans (congrArg some (by kernel_rfl))⟩
  f41:=⟨Tryz.f261.name,by decide,Tryz.func261.trans (congrArg some (by kernel_rfl))⟩
  t0:=Tryz.underlying0
  a0:=Tryz.isAgg0
  z0:=Tryz.sizeOf0
  v0:=Tryz.zeroValue0
  t3:=Tryz.underlying3
  a3:=Tryz.isAgg3
  z3:=Tryz.sizeOf3
  v3:=Tryz.zeroValue3
  t4:=Tryz.underlying4
  a4:=Tryz.isAgg4
  z4:=Tryz.sizeOf4
  v4:=Tryz.zeroValue4
  t5:=Tryz.underlying5
  a5:=Tryz.isAgg5
  z5:=Tryz.sizeOf5
  v5:=Tryz.zeroValue5
  t9:=Tryz.underlying9
  a9:=Tryz.isAgg9
  z9:=Tryz.sizeOf9
  v9:=Tryz.zeroValue9
  t26:=Tryz.underlying42
  a26:=Tryz.isAgg42
  z26:=Tryz.sizeOf42
  v26:=Tryz.zeroValue42
  t27:=Tryz.underlying42
  a27:=Tryz.isAgg42
  z27:=Tryz.sizeOf42
  v27:=Tryz.zeroValue42
  t29:=Tryz.underlying9
  a29:=Tryz.isAgg9
  z29:=Tryz.sizeOf9
  v29:=Tryz.zeroValue9
  t32:=Tryz.underlying262
  a32:=Tryz.isAgg262
  z32:=Tryz.sizeOf262
  v32:=Tryz.zeroValue262
  t35:=Tryz.underlying314
  a35:=Tryz.isAgg314
  z35:=Tryz.sizeOf314
  v35:=Tryz.zeroValue314
  t36:=Tryz.underlying315
  a36:=Tryz.isAgg315
  z36:=Tryz.sizeOf315
  v36:=Tryz.zeroValue315
  t41:=Tryz.underlying270
  a41:=Tryz.isAgg270
  z41:=Tryz.sizeOf270
  v41:=Tryz.zeroValue270
  t44:=Tryz.underlying255
  a44:=Tryz.isAgg255
  z44:=Tryz.sizeOf255
  v44:=Tryz.zeroValue255
  t46:=Tryz.underlying287
  a46:=Tryz.isAgg287
  z46:=Tryz.sizeOf287
  v46:=Tryz.zeroValue287
  t53:=Tryz.underlying321
  a53:=Tryz.isAgg321
  z53:=Tryz.sizeOf321
  v53:=Tryz.zeroValue321
  t57:=Tryz.underlying325
  a57:=Tryz.isAgg325
  z57:=Tryz.sizeOf325
  v57:=Tryz.zeroValue325
  t63:=Tryz.underlying327
  a63:=Tryz.isAgg327
  z63:=Tryz.sizeOf327
  v63:=Tryz.zeroValue327
  t64:=Tryz.underlying328
  a64:=Tryz.isAgg328
  z64:=Tryz.sizeOf328
  v64:=Tryz.zeroValue328 }
end Go.Proofs.YtohachldbpejpaaGreatDoor

namespace Go.Proofs.YtohachldbpejpaaGreatDoor
open Go.RowKit Go.Maps
set_option linter.unusedVariables false
abbrev RV (v:Value):Option (DataW Value × List MemPlace):=some (.held v,[])
def keyB (s:ByteArray):Lit:=.string s.data.toList
def ent (q:Ac × Value):Lit × DataW Value:=(keyB q.1.1,.held (acV q.1 q.2))
def bookD (Z:List (Ac × Value)):DataW Value:=.map (Z.map ent)
theorem bytesBefore_eq:∀ x y:List UInt8,bytesBefore x y=Op.bytesLess x y
  | [],[]=>rfl
  | [],_ :: _=>rfl
  | _ :: _,[]=>rfl
  | a :: x,b :: y=>by unfold bytesBefore Op.bytesLess;rw [bytesBefore_eq x y]
theorem key_before (s t:ByteArray):(keyB s).before (keyB t)=Op.bytesLess s.toList t.toList:=by
  show bytesBefore s.data.toList t.data.toList=_
  rw [bytesBefore_eq,ByteArray.toList_eq,ByteArray.toList_eq]
theorem key_same {s t:ByteArray} (h:s=t):(keyB s).sameKey (keyB t)=true:=by subst h;simp [keyB,Lit.sameKey]
theorem key_not {s t:ByteArray} (h:s ≠ t):(keyB s).sameKey (keyB t)=false:=by
  simp only [keyB,Lit.sameKey,beq_eq_false_iff_ne]
  intro e
  exact h (ByteArray.ext (Array.toList_inj.1 e))
theorem filt_all (s:ByteArray) (t:List (Ac × Value)) (h:∀ x ∈ t,x.1.1 ≠ s):(t.map ent).filter (fun p=>!p.1.sameKey (keyB s))=t.map ent:=by
  rw [List.filter_eq_self]
  intro p hp
  obtain ⟨x,hx,rfl⟩:=List.mem_map.1 hp
  show (!(keyB x.1.1).sameKey (keyB s))=true
  rw [key_not (h x hx)]
  rfl
theorem insert_book (q:Ac × Value):∀ Z:List (Ac × Value),Asc Z->DataW.insert (ent q) ((Z.map ent).filter (fun p=>!p.1.sameKey (keyB q.1.1)))=(insZ q Z).map ent
  | [],_=>rfl
  | x :: t, h=>by
    obtain ⟨h1,h2⟩:=List.pairwise_cons.1 h
    by_cases hl:Lt x.1.1 q.1.1
    · have hne:x.1.1 ≠ q.1.1:=fun e=>by rw [e] at hl;exact lt_no _ hl
      rw [insZ_lt hl,List.map_cons,List.filter_cons_of_pos (by show (!(keyB x.1.1).sameKey (keyB q.1.1))=true;rw [key_not hne];rfl),DataW.insert,if_neg,insert_book q t h2]
      · rfl
      · show ¬ (keyB q.1.1).before (keyB x.1.1)=true
        rw [key_before];exact lt_as hl
    · by_cases he:x.1.1=q.1.1
      · have hab:∀ y ∈ t,Lt q.1.1 y.1.1:=fun y hy=>by rw [<- he];exact h1 y hy
        rw [insZ_eq he,List.map_cons,List.filter_cons_of_neg (by show ¬ (!(keyB x.1.1).sameKey (keyB q.1.1))=true;rw [key_same he];simp),filt_all q.1.1 t (fun y hy e=>by have:=hab y hy;rw [e] at this;exact lt_no _ this)]
        cases t with
        | nil=>rfl
        | cons y t =>
          rw [List.map_cons,DataW.insert,if_pos]
          · rfl
          · show (keyB q.1.1).before (keyB y.1.1)=true
            rw [key_before];exact hab y List.mem_cons_self
      · have hlt:=lt_or hl he
        have hab:∀ y ∈ x :: t,y.1.1 ≠ q.1.1:=fun y hy e=>by
          rcases List.mem_cons.1 hy with rfl | hy
          · exact he e
          · have:=lt_tr hlt (h1 y hy);rw [e] at this;exact lt_no _ this
        rw [insZ_gt hlt,filt_all q.1.1 _ hab,List.map_cons,DataW.insert,if_pos]
        · rfl
        · show (keyB q.1.1).before (keyB x.1.1)=true
          rw [key_before];exact hlt
theorem put_book (Z:List (Ac × Value)) (ha:Asc Z) (q:Ac × Value):(bookD Z).put (keyB q.1.1) (.held (acV q.1 q.2))=bookD (insZ q Z):=by
  show DataW.map _=DataW.map _
  exact congrArg _ (insert_book q Z ha)
theorem at_book (s:ByteArray) (z:DataW Value):∀ Z:List (Ac × Value),(bookD Z).atKey (keyB s) z=match getZ s Z with
    | some q=>.held (acV q.1 q.2)
    | none=>z
  | []=>rfl
  | x :: t=>by
    have ih:=at_book s z t
    unfold bookD DataW.atKey at ih ⊢
    unfold getZ
    simp only [List.map_cons,List.find?_cons]
    by_cases he:x.1.1=s
    · rw [if_pos he,show (ent x).1.sameKey (keyB s)=true from key_same he]
      rfl
    · rw [if_neg he,show (ent x).1.sameKey (keyB s)=false from key_not he]
      exact ih
theorem filt_insert (k:Lit) (d:DataW Value) (hk:k.sameKey k=true):∀ es:List (Lit × DataW Value),(DataW.insert (k,d) es).filter (fun p=>!p.1.sameKey k)=es.filter (fun p=>!p.1.sameKey k)
  | []=>by simp [DataW.insert,hk]
  | y :: r=>by
    unfold DataW.insert
    split
    · rw [List.filter_cons_of_neg (by simp [hk])]
    · rw [List.filter_cons,List.filter_cons,filt_insert k d hk r]
theorem del_put (Z:List (Ac × Value)) (s:ByteArray) (d:DataW Value) (h:getZ s Z=none):((bookD Z).put (keyB s) d).del (keyB s)=bookD Z:=by
  show DataW.map ((DataW.insert (keyB s,d) ((Z.map ent).filter (fun p=>!p.1.sameKey (keyB s)))).filter (fun p=>!p.1.sameKey (keyB s)))=DataW.map (Z.map ent)
  rw [filt_insert _ _ (key_same rfl),filt_all s Z (getZ_none h),filt_all s Z (getZ_none h)]
theorem size_book (Z:List (Ac × Value)):Maps.size (bookD Z)=Z.length:=by simp [bookD,Maps.size]
theorem keys_book (Z:List (Ac × Value)):strKeys (bookD Z)=Z.map (fun q=>q.1.1.data.toList):=by
  simp only [bookD,strKeys,List.map_map]
  rfl
theorem sorted_book (Z:List (Ac × Value)) (ha:Asc Z) {ss:List (List UInt8)} (h:ss.Perm (strKeys (bookD Z))):ss.mergeSort (fun x y=>decide (x<=y))=Z.map (fun q=>q.1.1.data.toList):=by
  rw [show ss.mergeSort (fun x y=>decide (x<=y))=(strKeys (bookD Z)).mergeSort leB from mergeSort_of_perm h,keys_book]
  refine List.mergeSort_of_pairwise ?_
  rw [List.pairwise_map]
  refine List.Pairwise.imp ?_ ha
  intro a b hab
  rw [lt_iff,ByteArray.toList_eq,ByteArray.toList_eq] at hab
  simp only [leB,decide_eq_true_eq]
  exact List.le_of_lt hab
theorem get_at:∀ {Z:List (Ac × Value)},Asc Z->∀ k (h:k < Z.length),getZ Z[k].1.1 Z=some Z[k]
  | [],_,k,h=>by simp at h
  | x :: t,ha,0,h=>by simp [getZ]
  | x :: t,ha,k+1,h=>by
    obtain ⟨h1,h2⟩:=List.pairwise_cons.1 ha
    have hk:k < t.length:=by simpa using h
    have hlt:=h1 t[k] (List.getElem_mem hk)
    simp only [List.getElem_cons_succ]
    unfold getZ
    rw [if_neg (fun e=>by rw [e] at hlt;exact lt_no _ hlt)]
    exact get_at h2 k hk
theorem key_law:Keyed Tryz.prog 9:=string_keyed Tryz.underlying9
theorem zeroAc (w:World):(zeroValue 105).run Tryz.prog w=.ok (acV (ByteArray.empty,0,0,0,[]) (.slice none 0 0)) w:=by kernel_rfl
theorem key_of (s:ByteArray) (h:s.size<=maxLen):keyOf Tryz.prog 9 (.string s)=some (keyB s):=Go.WideMaps.keyOf_string_mk Tryz.underlying9 h
def lookB (s:ByteArray) (Z:List (Ac × Value)):Value:=match getZ s Z with
  | some q=>acV q.1 q.2
  | none=>acV (ByteArray.empty,0,0,0,[]) (.slice none 0 0)
theorem run_look (c:Bool) {w:World} {b n:Nat} {Z:List (Ac × Value)} (hown:w.ownsMap Tryz.prog 9 RV b n (bookD Z)) (s:ByteArray) (hs:s.size<=maxLen) :
    (Instr.lookup 283 (.map (some b)) (.string s) c).run Tryz.prog w=.ok (if c then .tuple #[lookB s Z,.bool (getZ s Z).isSome] else lookB s Z) w:=by
  obtain ⟨es,clock,hb,F,hsz,hD⟩:=hown
  have hat:=fun z=>at_book s z Z
  rw [hD] at hat
  rcases Maps.fit_look (R:=RV) c key_law Tryz.underlying283 (zeroAc w) hb F (key_of s hs) with ⟨hrun,_,h⟩ | ⟨e0,y,_,_,hrun,hRv,h,_⟩
  · cases hg:getZ s Z with
    | none=>rw [hrun];simp [lookB,hg]
    | some q =>
      have h1:=hat (.held (.bool true))
      have h2:=hat (.held (.bool false))
      rw [h,hg] at h1 h2
      simp at h1 h2
      rw [<- h1] at h2
      simp at h2
  · have h1:=hat (.held (.bool true))
    have h2:=hat (.held (.bool false))
    rw [h] at h1 h2
    cases hg:getZ s Z with
    | none =>
      rw [hg] at h1 h2
      simp only at h1 h2
      rw [h1] at h2
      simp at h2
    | some q =>
      rw [hg] at h1
      simp only at h1
      have hv:y=(.held e0.val,[]):=by simpa [RV] using hRv.symm
      rw [hv] at h1
      simp at h1
      rw [hrun,h1]
      simp [lookB,hg]
theorem step_look {ops:Array Oper} {rest:List Oper} {o:Oper} {a:Act} {Q:Exit->Act->World->Prop} (w:World) (hg:o.guard=none) (m x:Operand) (c:Bool) (hop:o.op=Op.lookup 283 m x c)
    (b n:Nat) (Z:List (Ac × Value)) (s:ByteArray) (hm:a.eval m=.map (some b)) (hx:a.eval x=.string s) (hown:w.ownsMap Tryz.prog 9 RV b n (bookD Z)) (hs:s.size<=maxLen)
    (hK:wpList Tryz.prog ops Q rest (a.put o.dst (if c then .tuple #[lookB s Z,.bool (getZ s Z).isSome] else lookB s Z)) w):wpList Tryz.prog ops Q (o :: rest) a w:=by
  refine wpList_plain hg fun K' hK'=>?_
  have hrun:=run_look c hown s hs
  unfold Oper.wp
  simp [execOp,hop,hm,hx,hrun,Result.andThen]
  exact hK' _ _ (by simpa using hK)
theorem book_below {B:Nat} {w w':World} {b n:Nat} {D:DataW Value} (h:w.ownsMap Tryz.prog 9 RV b n D) (hb:Below B w w') (hB:b < B):w'.ownsMap Tryz.prog 9 RV b n D:=by
  obtain ⟨es,clock,hm,r⟩:=h
  exact ⟨es,clock,(hb.block b hB).trans hm,r⟩
end Go.Proofs.YtohachldbpejpaaGreatDoor

namespace Go.Proofs.YtohachldbpejpaaGreatDoor
open Go.RowKit Go.Maps Go.Sort Go.Shelf
set_option linter.unusedVariables false
theorem sorts_at (m:Nat):AnyZ.SortsIn Tryz.prog Tryz.sortedL_ren Fence.wide m :=
  ⟨fun blk off cap ss W hH hblk hsz=>callsIn_wide.2 (AnyM.slices_Sort_string Tryz.sortL blk off cap ss W hH hblk hsz),
   fun p cap W=>callsIn_wide.2 (AnyM.slices_Sort_string_none Tryz.sortL p cap W)⟩
theorem keys_any (mb:Option Nat) (W:World):Calls Tryz.prog 233 #[.map mb] W fun e w'=>e=.returned (.func (.func 241) #[] #[.pointer (some ⟨W.heap.size,0,none⟩)])/\w'=W.alloc (.cells #[.map mb] 283) :=
  (callsIn_wide (n:=5)).1 (AnyZ.keys_in Tryz.keysL Fence.wide 5 trivial rfl mb W)
set_option maxHeartbeats 1000000 in
theorem sorted_any {H:Type} (b nn:Nat) (D0:DataW H) (R:Value->Option (DataW H × List MemPlace)) (w:World) (hown:w.ownsMap Tryz.prog 9 R b nn D0) (hmax:Maps.size D0<=maxLen) (hbytes:Maps.size D0 * 16<=140737488355328) :
    Calls Tryz.prog 232 #[.func (.func 241) #[] #[.pointer (some ⟨w.heap.size,0,none⟩)]] (w.alloc (.cells #[.map (some b)] 283)) fun e w'=>∃ (v:Value) (ss:List (List UInt8)),e=.returned v/\ss.Perm (strKeys D0) /\
      w'.ownsRow (w.alloc (.cells #[.map (some b)] 283)).heap.size 9 1 v ss.length ((ss.mergeSort (fun x y=>decide (x<=y))).map encStr)/\(v=.slice none 0 0 ↔ ss=[])/\Below (w.alloc (.cells #[.map (some b)] 283)).heap.size (w.alloc (.cells #[.map (some b)] 283)) w':=by
  have hbl:=hown.lt
  have hseq:SeqGives Fence.wide 2 Tryz.prog 241 #[.pointer (some ⟨w.heap.size,0,none⟩)] encStr (fun ss=>ss.Perm (strKeys D0)) (Maps.size D0) (w.alloc (.cells #[.map (some b)] 283)) :=
    AnyZ.keys_gives (ρ:=Tryz.keysL_ren) { Tryz.keysL with } Fence.wide _ trivial rfl (by omega) w.heap.size b nn D0 _ (by simp) (by simp) (by
      obtain ⟨es,clock,hb,Ft,hs,hD⟩:=hown
      exact ⟨es,clock,(Below.heap_alloc _ _ b hbl).trans hb,Ft,hs,hD⟩)
  exact (callsIn_wide (n:=5)).1 (AnyZ.sorted_in Tryz.sortedL Fence.wide 5 trivial trivial trivial trivial rfl (by omega) (sorts_at _) (enters_of Tryz.func240 (by kernel_rfl) rfl) 241 #[.pointer (some ⟨w.heap.size,0,none⟩)] trivial (enters_of Tryz.func241 (by kernel_rfl) rfl) _ _ hmax hbytes _ hseq)
theorem names_any (b n:Nat) (Z:List (Ac × Value)) (w:World) (hown:w.ownsMap Tryz.prog 9 RV b n (bookD Z)) (ha:Asc Z) (hl:Z.length<=4000000) :
    Calls Tryz.prog 232 #[.func (.func 241) #[] #[.pointer (some ⟨w.heap.size,0,none⟩)]] (w.alloc (.cells #[.map (some b)] 283)) fun e w'=>∃ (v:Value),e=.returned v /\
      w'.ownsRow (w.heap.size+1) 9 1 v Z.length (Z.map (fun q=>Value.string q.1.1))/\Below (w.heap.size+1) (w.alloc (.cells #[.map (some b)] 283)) w':=by
  refine (sorted_any b n (bookD Z) RV w hown (by rw [size_book];unfold maxLen;omega) (by rw [size_book];omega)).mono ?_
  rintro e w' ⟨v,ss,rfl,hp,hrow,-,hb⟩
  have hlen:ss.length=Z.length:=by rw [hp.length_eq,keys_book];simp
  rw [sorted_book Z ha hp,hlen,List.map_map] at hrow
  rw [World.size_alloc] at hrow hb
  refine ⟨v,rfl,?_,hb⟩
  have e:(Z.map (encStr ∘ fun q=>q.1.1.data.toList))=Z.map (fun q=>Value.string q.1.1):=by
    apply List.map_congr_left
    intro q _
    simp [encStr]
  rw [e] at hrow
  exact hrow
end Go.Proofs.YtohachldbpejpaaGreatDoor

namespace Go.Proofs.YtohachldbpejpaaGreatDoor
open Go.RowKit Go.Maps
set_option linter.unusedVariables false
theorem step_len {ops:Array Oper} {rest:List Oper} {o:Oper} {a:Act} {Q:Exit->Act->World->Prop} (w:World) (hg:o.guard=none) (m:Operand) (hop:o.op=Op.call { callee:=Callee.builtin Builtin.len,args:=#[m],argTypes:=#[283] })
    (b n:Nat) (Z:List (Ac × Value)) (hm:a.eval m=.map (some b)) (hown:w.ownsMap Tryz.prog 9 RV b n (bookD Z))
    (hK:wpList Tryz.prog ops Q rest (a.put o.dst (.int .i64 (Z.length:Int))) w):wpList Tryz.prog ops Q (o :: rest) a w:=by
  refine wpList_len_own w hg m 283 hop 9 105 Tryz.underlying283 RV b n (bookD Z) hm hown ?_
  rw [size_book]
  exact hK
set_option maxRecDepth 20000 in
set_option maxHeartbeats 1000000 in
theorem listed_any (b n:Nat) (Z:List (Ac × Value)) (w:World) (hown:w.ownsMap Tryz.prog 9 RV b n (bookD Z)) (ha:Asc Z) (hl:Z.length<=4000000) (hnm:∀ q ∈ Z,q.1.1.size<=maxLen) (hsl:∀ q ∈ Z,∃ a m c,q.2=.slice a m c) :
    Calls Tryz.prog 207 #[.map (some b)] w fun e w'=>∃ g cap,e=.returned (.slice (some ⟨g,0,none⟩) Z.length cap)/\RowA w.heap.size w' (.slice (some ⟨g,0,none⟩) Z.length cap) Z/\Below w.heap.size w w':=by
  obtain ⟨i0,hi,hz0,hz1,hz2⟩:=info_parts Tryz.infoAc
  have Ho:=hide hown
  have hbl:=hown.lt
  clear hown
  go_enter Tryz.func207,Tryz.ntmps207
  go_wp2_with (first
    | (at_len;refine step_len _ rfl _ rfl b n Z rfl Ho.out ?_)
    | (refine wpList_make_own _ rfl _ _ 24 rfl w.heap.size 105 i0 (.agg #[.string { data:=#[] },.int .i64 0,.int .i64 0,.int .i64 0,.slice none 0 0]) 5 Tryz.underlying24 hi hz0 hz1 .i64 .i64 _ Z.length rfl rfl rfl (by rw [hz2];omega) (by unfold maxLen;omega) (Nat.le_refl _) ?_;intro w1 hrow1 hgr1;have hb1:Below w.heap.size w w1:=(Below.refl _ _).grown hgr1 (Nat.le_refl _) (by intro k hk;cases hk);have Ho1:=hide (book_below Ho.out hb1 hbl))
    | (go_at_call 233;refine (keys_any _ _).mono ?_;rintro e w2 ⟨rfl,rfl⟩))
  refine (names_any b n Z w1 Ho1.out ha hl).mono ?_
  rintro e w3 ⟨v,rfl,hrow3,hb3⟩
  have hlt1:w.heap.size < w1.heap.size:=(World.ownsRow.lt hrow1 w.heap.size rfl).2
  have hb13:Below w1.heap.size w1 w3:=((Below.refl _ w1).alloc (Nat.le_refl _) _).trans (hb3.mono (by omega))
  have hB3:Below w.heap.size w w3:=hb1.trans (hb13.mono hb1.size)
  have Hr3:Hid (RowA w.heap.size w3 (.slice (some ⟨w.heap.size,0,none⟩) 0 Z.length) []):=hide (row_below hrow1 hb13 (Nat.le_refl _))
  clear hrow1 hgr1 hb3 Ho1
  have Hrow:=hide hrow3
  rcases hrow3.2 with ⟨rfl,hz⟩ | ⟨gv,cv,cur,rfl,hgv,hgc,h1,h2,h3,h4⟩
  · have e:Z=[]:=List.length_eq_zero_iff.1 hz
    subst e
    clear hrow3
    go_wp2
    refine wp_loop_rounds 1 ?_
    rw [rounds_succ]
    go_wp2
    go_ret
    exact ⟨_,_,rfl,Hr3.out,hB3⟩
  · clear hrow3 hgc h4 h3
    go_wp2
    go_loopw [3,13] (fun ov iv wr=>∃ (k g c:Nat),k<=Z.length/\iv=.int .i64 k/\ov=.slice (some ⟨g,0,none⟩) k c/\RowA w.heap.size wr ov (Z.take k)/\wr.ownsRow (w1.heap.size+1) 9 1 (.slice (some ⟨gv,0,none⟩) Z.length cv) Z.length (Z.map (fun q=>Value.string q.1.1))/\gv ≠ g/\Below w.heap.size w wr) (fun _ iv _=>Z.length - (intOf iv).toNat)
    case atStart=>exact ⟨0,_,_,Nat.zero_le _,rfl,rfl,Hr3.out,Hrow.out,by omega,hB3⟩
    case round =>
      obtain ⟨k,g,c,hk,rfl,rfl,ho,hns,hne,hb⟩:=hrel
      clear hB3 Hr3 Hrow hb13
      have hzl:(Z.take k).length=k:=by simp;omega
      by_cases hlt:k < Z.length
      · have hc:wr.cell? ⟨gv,k,none⟩=some (.string Z[k].1.1):=by
          have:=hns.cellAt k (by omega)
          rw [this]
          simp [hlt]
        have hli:(k:Int) < (Z.length:Int):=by omega
        have hgl:g < wr.heap.size:=ho.lt g rfl
        have hgw:w.heap.size<=g:=ho.ge g rfl
        have hgvl:gv < wr.heap.size:=(World.ownsRow.lt hns gv rfl).2
        have hws:=hb.size
        have HoK:=hide (book_below Ho.out hb hbl)
        have hsz:=hnm Z[k] (List.getElem_mem _)
        have hlook:Hid (lookB Z[k].1.1 Z=acV Z[k].1 Z[k].2):=hide (by unfold lookB;rw [get_at ha k hlt])
        have Hnx:Hid (Z.take (k+1)=Z.take k ++ [Z[k]]):=hide (List.take_succ_eq_append_getElem hlt)
        have hshape:=hsl Z[k] (List.getElem_mem _)
        have Hro:=hide ho
        have Hns:=hide hns
        clear ho hns
        generalize Z[k]=q at hc hsz hlook Hnx hshape
        obtain ⟨⟨nm,fr,no,st,ls⟩,lv⟩:=q
        obtain ⟨a',m',c',hlv⟩:=hshape
        simp only at hlv hc hsz hlook
        subst hlv
        simp only [acV] at hlook
        go_wp2_with (first
          | (at_lookup;refine step_look _ rfl _ _ false rfl b n Z nm rfl rfl HoK.out hsz ?_;rw [hlook.out];simp only [Bool.false_eq_true,if_false])
          | (at_builtin;refine app_ownA _ rfl _ _ rfl w.heap.size (.slice (some ⟨g,0,none⟩) k c) _ (Z.take k) ((nm,fr,no,st,ls),.slice a' m' c') rfl rfl (World.ownsRow.alloc Hro.out _) (Blk.new' _ _ (acC ((nm,fr,no,st,ls),.slice a' m' c')) _ (by simp)) rfl (by simp;omega) (by simp;omega) ?_;intro v' w4 hrow4 hgr4 hnn4 hloc4;obtain ⟨g',c'',rfl⟩:=hrow4.shapeN hnn4 (k+1) (by simp;omega)))
        go_roundw
        case rel =>
          refine ⟨k+1,g',c'',by omega,by go_num,rfl,by rw [Hnx.out];exact hrow4,World.ownsRow.kept (World.ownsRow.alloc Hns.out _) hgr4 (.inr (by simp [Value.ownBlock];exact hne)),?_,(hb.alloc hws _).grown hgr4 (by simp;omega) (fun j hj=>by cases hj;exact hgw)⟩
          rcases hloc4 with h | h
          · have:g'=g:=by simpa [Value.ownBlock] using h
            omega
          · have:g'=wr.heap.size+1:=by simpa [Value.ownBlock] using h
            omega
        case measure=>simp [intOf];omega
      · have e:k=Z.length:=by omega
        subst e
        rw [List.take_length] at ho
        go_wp2
        go_ret
        exact ⟨_,_,rfl,ho,hb⟩
end Go.Proofs.YtohachldbpejpaaGreatDoor
