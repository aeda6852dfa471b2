/- The landed code's next epoch. -/
import Derived.Test.YteefibiikampbaaGreatDoorZfLgRow
import Derived.Test.YteefibiikampbaaGreatDoorZfTxSpec
import Derived.Test.YteefibiikampbaaGreatDoorZfLaid
set_option maxRecDepth 20000
set_option maxHeartbeats 4000000
namespace Go.Proofs.YteefibiikampbaaGreatDoor
open Go.RowKit
set_option linter.unusedVariables false
theorem implFreed_any (a:Ac) (lv:Value) (e:Int) (w:World) (hr:RdL w lv a.2.2.2.2) (hl:a.2.2.2.2.length<=4000000) :
    Calls Tryz.prog 144 #[acV a lv,.int .i64 e] w fun en w'=>∃ lv',en=.returned (acV (frA e a) lv')/\OwnL w.heap.size w' lv' (stL e a.2.2.2.2)/\Below w.heap.size w w':=by
  obtain ⟨nm,fr,no,st,ls⟩:=a
  obtain ⟨av,cv,rfl⟩:=hr.shape
  simp only [acV,frA] at *
  obtain ⟨w2,hw2⟩:∃ w2,(w.alloc (.cells #[.string nm,.int .i64 fr,.int .i64 no,.int .i64 st,.slice av ls.length cv] 131)).alloc (.cells #[.string { data:=#[] },.int .i64 0,.int .i64 0,.int .i64 0,.slice none 0 0] 131)=w2:=⟨_,rfl⟩
  have hs2:w2.heap.size=w.heap.size+2:=by rw [<- hw2];simp
  have hb2:Below w.heap.size w w2:=by rw [<- hw2];exact ((Below.refl _ w).alloc (Nat.le_refl _) _).alloc (by simp) _
  have k1:Blk w2 w.heap.size 131 [.string nm,.int .i64 fr,.int .i64 no,.int .i64 st,.slice av ls.length cv]:=by
    rw [<- hw2]
    exact (Blk.new w _ _).below ((Below.refl (w.heap.size+1) _).alloc (by simp) _) (by omega)
  have k2:Blk w2 (w.heap.size+1) 131 acZ:=by
    rw [<- hw2]
    have h:=Blk.new (w.alloc (.cells #[.string nm,.int .i64 fr,.int .i64 no,.int .i64 st,.slice av ls.length cv] 131)) 131 acZ
    simp only [World.size_alloc] at h
    exact h
  have Hr:=hide hr
  have Hb2:=hide hb2
  have K1:=hide k1
  have K2:=hide k2
  have c4:=k1.cell 4
  simp only [List.getElem?_cons_zero,List.getElem?_cons_succ] at c4
  clear hr hb2 k1 k2
  go_enter Tryz.func144,Tryz.ntmps144
  go_wp2
  go_loopw [5,11] (fun sv iv wr=>∃ (k:Nat),k<=ls.length/\iv=.int .i64 (k:Int)/\OwnL (w.heap.size+2) wr sv (stL e (ls.take k))/\Below w.heap.size w wr/\Blk wr w.heap.size 131 [.string nm,.int .i64 (frF e fr (ls.take k)),.int .i64 no,.int .i64 st,.slice av ls.length cv]/\Blk wr (w.heap.size+1) 131 acZ) (fun _ iv _=>ls.length - (intOf iv).toNat)
  case atStart=>exact ⟨0,by omega,rfl,own_noneL w2 _,Hb2.out,K1.out,K2.out⟩
  case round =>
    obtain ⟨k,hk,rfl,ho,hb,j1,j2⟩:=hrel
    clear K1 K2 c4 hw2
    have hbs:=hb.size
    have hs:=j2.lt
    by_cases hlt:k < ls.length
    · obtain ⟨b,off,rfl,hc1,hc2,hbw,e0,e1⟩:=Hr.out.at hlt
      have f0:=(hb.cell (p:=⟨b,off+k * 2,none⟩) hbw).trans e0
      have f1:=(hb.cell (p:=⟨b,off+k * 2+1,none⟩) hbw).trans e1
      have HF:=hide (frF_snoc e fr ls k hlt)
      have HS:=hide (stL_snoc e ls k hlt)
      have hsl:=stL_len e (ls.take k)
      have htl:(ls.take k).length<=k:=by simp;omega
      generalize ls[k]=x at f0 f1 e0 e1 HF HS
      obtain ⟨xa,xt⟩:=x
      simp only at f0 f1 HF HS
      have hli:(k:Int) < (ls.length:Int):=by omega
      obtain ⟨w3,hw3⟩:∃ w3,wr.alloc (.cells #[.int .i64 xa,.int .i64 xt] 133)=w3:=⟨_,rfl⟩
      have hb3:Below w.heap.size w w3:=by rw [<- hw3];exact hb.alloc hbs _
      have ho3:OwnL (w.heap.size+2) w3 u5 (stL e (ls.take k)):=by rw [<- hw3];exact ho.alloc _
      have m1:Blk w3 w.heap.size 131 [.string nm,.int .i64 (frF e fr (ls.take k)),.int .i64 no,.int .i64 st,.slice (some ⟨b,off,none⟩) ls.length cv]:=by rw [<- hw3];exact j1.alloc _
      have m2:Blk w3 (w.heap.size+1) 131 acZ:=by rw [<- hw3];exact j2.alloc _
      have m3:Blk w3 wr.heap.size 133 [.int .i64 xa,.int .i64 xt]:=by rw [<- hw3];exact Blk.new wr _ _
      have hs3:w3.heap.size=wr.heap.size+1:=by rw [<- hw3];simp
      have d1:=m1.cell 1
      have q1:=m1.frozen 1
      have x0:=m3.cell 0
      have x1:=m3.cell 1
      simp only [List.getElem?_cons_zero,List.getElem?_cons_succ] at d1 x0 x1
      have Ho:=hide ho3
      have Hb:=hide hb3
      have J1:=hide m1
      have J2:=hide m2
      clear e0 e1 ho hb j1 j2 m1 m2 m3 ho3 hb3
      by_cases h1:xt<=e
      · rw [if_pos h1] at HF HS
        generalize frF e fr (ls.take k)=F at HF d1 J1
        go_wp2
        go_roundw
        case rel =>
          refine ⟨k+1,by omega,by go_num,?_,?_,?_,?_⟩
          · rw [HS.out];exact row_set Ho.out _ _ _ (fun j hj=>by have:=Ho.out.ge j hj;omega)
          · exact Hb.out.setCell (p:=⟨w.heap.size,1,none⟩) (Nat.le_refl _) _
          · rw [HF.out];exact J1.out.set 1 _
          · exact J2.out.other _ _ _ (by omega)
        case measure=>simp [intOf];omega
      · rw [if_neg h1] at HF HS
        go_wp2_with (at_builtin;refine app_ownLg _ rfl _ _ rfl (w.heap.size+2) _ _ (stL e (ls.take k)) [(xa,xt)] rfl rfl (Ho.out.alloc _) (rd_one_lv _ _ xa xt (by first | rfl | omega)) (by simp;omega) (by first | omega | (simp;omega)) ?_;intro v1 w1 ho1 hg1)
        have HB:=hide ((Hb.out.alloc (by omega) (.cells #[.int .i64 xa,.int .i64 xt] 133)).grown hg1 (by simp;omega) (fun k hk=>by have:=Ho.out.ge k hk;omega))
        go_roundw
        case rel =>
          refine ⟨k+1,by omega,by go_num,?_,HB.out,?_,?_⟩
          · rw [HS.out];exact ho1
          · rw [HF.out];exact (J1.out.alloc _).kept' hg1 (fun e=>by have:=Ho.out.ge _ e.symm;omega)
          · exact (J2.out.alloc _).kept' hg1 (fun e=>by have:=Ho.out.ge _ e.symm;omega)
        case measure=>simp [intOf];omega
    · have ek:k=ls.length:=by omega
      subst ek
      rw [List.take_length] at ho j1
      obtain ⟨a4,cv4,rfl⟩:=ho.rd.shape
      have d0:=j1.cell 0
      have d1:=j1.cell 1
      have d2:=j1.cell 2
      have d3:=j1.cell 3
      have d4:=j1.cell 4
      have q4:=j1.frozen 4
      have r0:=j2.cell 0
      have r1:=j2.cell 1
      have r2:=j2.cell 2
      have r3:=j2.cell 3
      have r4:=j2.cell 4
      have g0:=j2.frozen 0
      have g1:=j2.frozen 1
      have g2:=j2.frozen 2
      have g3:=j2.frozen 3
      have g4:=j2.frozen 4
      simp only [acZ,List.getElem?_cons_zero,List.getElem?_cons_succ] at d0 d1 d2 d3 d4 r0 r1 r2 r3 r4
      have Ho:=hide ho
      have Hb:=hide hb
      have hge:=ho.ge
      clear ho hb j1 j2
      go_wp2
      refine bodyPost_ret (v:=.agg #[.string nm,.int .i64 (frF e fr ls),.int .i64 no,.int .i64 st,.slice a4 (stL e ls).length cv4]) (by simp [results,Tryz.f144,go_sem,r0,r1,r2,r3,r4]) rfl ?_
      have n1:∀ k,(Value.slice a4 (stL e ls).length cv4).ownBlock=some k->k ≠ w.heap.size:=fun k hk=>by have:=hge k hk;omega
      have n2:∀ k,(Value.slice a4 (stL e ls).length cv4).ownBlock=some k->k ≠ w.heap.size+1:=fun k hk=>by have:=hge k hk;omega
      refine ⟨_,rfl,row_set (row_set (row_set (row_set (row_set (row_set (Ho.out.mono (by omega)) _ _ _ n1) _ _ _ n2) _ _ _ n2) _ _ _ n2) _ _ _ n2) _ _ _ n2,?_⟩
      exact (((((Hb.out.setCell (p:=⟨w.heap.size,4,none⟩) (by show w.heap.size<=w.heap.size;omega) _).setCell (p:=⟨w.heap.size+1,0,none⟩) (by show w.heap.size<=w.heap.size+1;omega) _).setCell (p:=⟨w.heap.size+1,1,none⟩) (by show w.heap.size<=w.heap.size+1;omega) _).setCell (p:=⟨w.heap.size+1,2,none⟩) (by show w.heap.size<=w.heap.size+1;omega) _).setCell (p:=⟨w.heap.size+1,3,none⟩) (by show w.heap.size<=w.heap.size+1;omega) _).setCell (p:=⟨w.heap.size+1,4,none⟩) (by show w.heap.size<=w.heap.size+1;omega) _
theorem implBehindL_any (e:Int) (v:Value) (l:List Ac) (w:World) (hr:RdA w v l) (hl:l.length<=4000000) (hall:∀ a ∈ l,a.2.2.2.2.length<=4000000) :
    Calls Tryz.prog 113 #[lgV e v] w fun en w'=>∃ v',en=.returned (lgV (wrap64 (e+1)) v')/\OwnA w.heap.size w' v' (l.map (frA (wrap64 (e+1))))/\Below w.heap.size w w':=by
  obtain ⟨av,cv,rfl⟩:=hr.shape
  simp only [lgV] at *
  obtain ⟨w2,hw2⟩:∃ w2,(w.alloc (.cells #[.int .i64 e,.slice av l.length cv] 36)).alloc (.cells #[.int .i64 0,.slice none 0 0] 36)=w2:=⟨_,rfl⟩
  have hs2:w2.heap.size=w.heap.size+2:=by rw [<- hw2];simp
  have hb2:Below w.heap.size w w2:=by rw [<- hw2];exact ((Below.refl _ w).alloc (Nat.le_refl _) _).alloc (by simp) _
  have k2:Blk w2 (w.heap.size+1) 36 [.int .i64 0,.slice none 0 0]:=by
    rw [<- hw2]
    have h:=Blk.new (w.alloc (.cells #[.int .i64 e,.slice av l.length cv] 36)) 36 [.int .i64 0,.slice none 0 0]
    simp only [World.size_alloc] at h
    exact h
  have k1:Blk w2 w.heap.size 36 [.int .i64 e,.slice av l.length cv]:=by
    rw [<- hw2]
    exact (Blk.new w 36 [.int .i64 e,.slice av l.length cv]).alloc _
  have c0:=k1.cell 0
  have c1:=k1.cell 1
  simp only [List.getElem?_cons_zero,List.getElem?_cons_succ] at c0 c1
  have HC:=hide (implCopiedLg_any e _ l w2 (hr.below hb2 (Nat.le_refl _)) hl hall)
  simp only [lgV] at HC
  have Hb2:=hide hb2
  have K2:=hide k2
  have Hall:=hide hall
  clear hr hb2 k1 k2 hall
  go_enter Tryz.func113,Tryz.ntmps113
  go_wp2_with fail
  refine HC.out.mono ?_
  rintro en w3 ⟨v3,rfl,ho3,hb3⟩
  have hB3:=Hb2.out.trans (hb3.mono Hb2.out.size)
  have hs3:=hb3.size
  have k3:=K2.out.below hb3 (by omega)
  obtain ⟨g,cap,Z,rfl,hZ,hG⟩:=ho3.rowG
  have hgl:=hG.lt
  obtain ⟨w4,hw4⟩:∃ w4,w3.alloc (.cells #[.int .i64 (wrap64 (e+1)),.slice (some ⟨g,0,none⟩) l.length cap] 36)=w4:=⟨_,rfl⟩
  have m4:Blk w4 w3.heap.size 36 [.int .i64 (wrap64 (e+1)),.slice (some ⟨g,0,none⟩) l.length cap]:=by rw [<- hw4];exact Blk.new w3 _ _
  have k4:Blk w4 (w.heap.size+1) 36 [.int .i64 0,.slice none 0 0]:=by rw [<- hw4];exact k3.alloc _
  have hB4:Below w.heap.size w w4:=by rw [<- hw4];exact hB3.alloc hB3.size _
  have hG4:RowG w2.heap.size w4 g l.length cap Z:=by
    rw [<- hw4]
    exact hG.below ((Below.refl w3.heap.size w3).alloc (Nat.le_refl _) _) (Nat.le_refl _)
  have hs4:w4.heap.size=w3.heap.size+1:=by rw [<- hw4];simp
  have d0:=m4.cell 0
  have d1:=m4.cell 1
  simp only [List.getElem?_cons_zero,List.getElem?_cons_succ] at d0 d1
  have M4:=hide m4
  have K4:=hide k4
  have HB4:=hide hB4
  have HG4:=hide hG4
  have HZ:=hide hZ
  clear m4 k4 hB4 hG4 hZ hG hb3 hB3 k3 ho3 HC c0 c1 hw2
  go_wp2
  go_loopw [15] (fun iv wr=>∃ (k:Nat) (Z:List (Ac × Value)),k<=l.length/\iv=.int .i64 (k:Int)/\Z.map (·.1)=frK (wrap64 (e+1)) l k/\RowG (w.heap.size+2) wr g l.length cap Z/\Blk wr w3.heap.size 36 [.int .i64 (wrap64 (e+1)),.slice (some ⟨g,0,none⟩) l.length cap]/\Blk wr (w.heap.size+1) 36 [.int .i64 0,.slice none 0 0]/\Below w.heap.size w wr) (fun iv _=>l.length - (intOf iv).toNat)
  case atStart=>exact ⟨0,Z,by omega,rfl,by rw [frK_zero];exact HZ.out,by rw [<- hs2];exact HG4.out,M4.out,K4.out,HB4.out⟩
  case round =>
    obtain ⟨k,Y,hk,rfl,hY,hG,m,kr,hb⟩:=hrel
    clear M4 K4 HB4 HG4 HZ d0 d1 hw4
    have hYl:=hG.len
    have hcap:=hG.caps
    by_cases hlt:k < l.length
    · have hkY:k < Y.length:=by omega
      have hYk:Y[k].1=l[k]:=by rw [fst_get hY k hkY (by rw [frK_len];exact hlt),frK_at _ _ _ hlt]
      obtain ⟨c0,c1,c2,c3,c4⟩:=hG.at k hkY
      have hown:=hG.lvs.own k hkY
      have hlen:=Hall.out l[k] (List.getElem_mem _)
      have Hnx:=hide (frK_next (wrap64 (e+1)) l k hlt)
      rw [<- hYk] at Hnx hlen
      have hshape:=hown.rd.shape
      obtain ⟨q,hq⟩:∃ q,Y[k]=q:=⟨_,rfl⟩
      rw [hq] at c0 c1 c2 c3 c4 hown hlen Hnx hshape
      obtain ⟨⟨nm,fr,no,st,ls⟩,lv⟩:=q
      simp only at c0 c1 c2 c3 c4 hown hlen Hnx hshape
      obtain ⟨av',cv',rfl⟩:=hshape
      have hli:(k:Int) < (l.length:Int):=by omega
      have hgl:=hG.lt
      obtain ⟨w5,hw5⟩:∃ w5,wr.alloc (.cells #[.string nm,.int .i64 fr,.int .i64 no,.int .i64 st,.slice av' ls.length cv'] 131)=w5:=⟨_,rfl⟩
      have hb5:Below wr.heap.size wr w5.drew:=by rw [<- hw5];exact ((Below.refl _ wr).alloc (Nat.le_refl _) _).drew
      have m5:Blk w5.drew w3.heap.size 36 [.int .i64 (wrap64 (e+1)),.slice (some ⟨g,0,none⟩) l.length cap]:=m.below hb5 m.lt
      have kr5:Blk w5.drew (w.heap.size+1) 36 [.int .i64 0,.slice none 0 0]:=kr.below hb5 kr.lt
      have n5:Blk w5.drew wr.heap.size 131 [.string nm,.int .i64 fr,.int .i64 no,.int .i64 st,.slice av' ls.length cv']:=by rw [<- hw5];exact Blk.new wr _ _
      have hG5:=hG.below hb5 (Nat.le_refl _)
      have ho5:=hown.below hb5 (Nat.le_refl _)
      have hB5:=hb.trans (hb5.mono hb.size)
      have HF:=hide (implFreed_any (nm,fr,no,st,ls) (.slice av' ls.length cv') (wrap64 (e+1)) w5.drew ho5.rd hlen)
      simp only [acV,frA] at HF
      have hml:=m.lt
      have hmb:=hb.size
      have Hm5:=hide m5
      have Hkr5:=hide kr5
      have Hn5:=hide n5
      have HG5:=hide hG5
      have HB5:=hide hB5
      have HQ:=hide hq
      have HSx:Hid (∀ W,Blk W w3.heap.size 36 [.int .i64 (wrap64 (e+1)),.slice (some ⟨g,0,none⟩) l.length cap]->Blk W wr.heap.size 131 [.string nm,.int .i64 fr,.int .i64 no,.int .i64 st,.slice av' ls.length cv']->W.cell? ⟨w3.heap.size,0,none⟩=some (.int .i64 (wrap64 (e+1)))/\W.cell? ⟨w3.heap.size,1,none⟩=some (.slice (some ⟨g,0,none⟩) l.length cap)/\W.cell? ⟨wr.heap.size,0,none⟩=some (.string nm)/\W.cell? ⟨wr.heap.size,1,none⟩=some (.int .i64 fr)/\W.cell? ⟨wr.heap.size,2,none⟩=some (.int .i64 no)/\W.cell? ⟨wr.heap.size,3,none⟩=some (.int .i64 st)/\W.cell? ⟨wr.heap.size,4,none⟩=some (.slice av' ls.length cv')):=hide (fun W h1 h2=>⟨h1.cell 0,h1.cell 1,h2.cell 0,h2.cell 1,h2.cell 2,h2.cell 3,h2.cell 4⟩)
      have hS5:=HSx.out _ m5 n5
      clear hq hG hown hb m kr m5 kr5 n5 hG5 ho5 hB5
      go_wp2
      go_region_held_law (fun w'=>w'.cell? ⟨w3.heap.size,0,none⟩=some (.int .i64 (wrap64 (e+1)))/\w'.cell? ⟨w3.heap.size,1,none⟩=some (.slice (some ⟨g,0,none⟩) l.length cap)/\w'.cell? ⟨wr.heap.size,0,none⟩=some (.string nm)/\w'.cell? ⟨wr.heap.size,1,none⟩=some (.int .i64 fr)/\w'.cell? ⟨wr.heap.size,2,none⟩=some (.int .i64 no)/\w'.cell? ⟨wr.heap.size,3,none⟩=some (.int .i64 st)/\w'.cell? ⟨wr.heap.size,4,none⟩=some (.slice av' ls.length cv')) (first | with_reducible exact hS5 | with_reducible exact hS6 | with_reducible exact HSx.out _ (Hm6.out.other5 _ _ _ _ _ _ _ (by omega)) (Hn6.out.other5 _ _ _ _ _ _ _ (by omega))) ((go_at_call 144;refine HF.out.mono ?_;rintro en w6 ⟨lv',rfl,ho6,hb6⟩;have hsh:=ho6.rd.shape;obtain ⟨a6,cv6,hv6⟩:=hsh;subst hv6;have Hm6:=hide (Hm5.out.below hb6 Hm5.out.lt);have Hn6:=hide (Hn5.out.below hb6 Hn5.out.lt);have HG6:=hide (HG5.out.below hb6 (Nat.le_refl _));have hS6:=HSx.out _ Hm6.out Hn6.out;have hat6:=HG6.out.at k hkY;rw [HQ.out] at hat6;have q0:=hat6.c0;have q1:=hat6.c1;have q2:=hat6.c2;have q3:=hat6.c3;have q4:=hat6.c4;simp only at q0 q1 q2 q3 q4;have f0:=HG6.out.frozen (k * 5);have f1:=HG6.out.frozen (k * 5+1);have f2:=HG6.out.frozen (k * 5+2);have f3:=HG6.out.frozen (k * 5+3);have f4:=HG6.out.frozen (k * 5+4);clear hat6))
      have hge6:=ho6.ge
      have hz5:w5.drew.heap.size=wr.heap.size+1:=by rw [<- hw5];simp
      have HP:=hide (HG6.out.put5 k hkY ((nm,frF (wrap64 (e+1)) fr ls,no,st,stL (wrap64 (e+1)) ls),.slice a6 (stL (wrap64 (e+1)) ls).length cv6) (ho6.mono (by omega)) (fun b hb=>by have:=hge6 b hb;omega) (fun i hi _ b hb e=>by have:=(HG5.out.lvs.own i hi).lt b hb;have:=hge6 b e;omega))
      have HB6:=hide (below_set5 (HB5.out.trans (hb6.mono HB5.out.size)) g (k * 5) (.string nm) (.int .i64 (frF (wrap64 (e+1)) fr ls)) (.int .i64 no) (.int .i64 st) (.slice a6 (stL (wrap64 (e+1)) ls).length cv6) (by omega))
      have Hm7:=hide (Hm6.out.other5 g (k * 5) (.string nm) (.int .i64 (frF (wrap64 (e+1)) fr ls)) (.int .i64 no) (.int .i64 st) (.slice a6 (stL (wrap64 (e+1)) ls).length cv6) (by omega))
      have Hk7:=hide ((Hkr5.out.below hb6 Hkr5.out.lt).other5 g (k * 5) (.string nm) (.int .i64 (frF (wrap64 (e+1)) fr ls)) (.int .i64 no) (.int .i64 st) (.slice a6 (stL (wrap64 (e+1)) ls).length cv6) (by omega))
      have HY2:Hid ((Y.set k ((nm,frF (wrap64 (e+1)) fr ls,no,st,stL (wrap64 (e+1)) ls),.slice a6 (stL (wrap64 (e+1)) ls).length cv6)).map (·.1)=frK (wrap64 (e+1)) l (k+1)):=hide (by rw [fst_set,hY];exact Hnx.out)
      clear ho6 hb6 hS6 hS5 HG6 Hm6 Hn6 hge6
      go_wp2
      go_roundw
      case rel=>exact ⟨k+1,_,by omega,by go_num,HY2.out,HP.out,Hm7.out,Hk7.out,HB6.out⟩
      case measure=>simp [intOf];omega
    · have ek:k=l.length:=by omega
      subst ek
      rw [frK_all] at hY
      have hG:=RowG.own hG
      rw [hY] at hG
      have d0:=m.cell 0
      have d1:=m.cell 1
      have r0:=kr.cell 0
      have r1:=kr.cell 1
      have g0:=kr.frozen 0
      have g1:=kr.frozen 1
      simp only [List.getElem?_cons_zero,List.getElem?_cons_succ] at d0 d1 r0 r1
      have hml:=m.lt
      have Ho:=hide (((hG.older (g:=w.heap.size+1) (by omega) 0 (.int .i64 (wrap64 (e+1)))).older (g:=w.heap.size+1) (by omega) 1 (.slice (some ⟨g,0,none⟩) l.length cap)).mono (show w.heap.size<=_ by omega))
      have HB:=hide ((hb.setCell (p:=⟨w.heap.size+1,0,none⟩) (show w.heap.size<=w.heap.size+1 by omega) (.int .i64 (wrap64 (e+1)))).setCell (p:=⟨w.heap.size+1,1,none⟩) (show w.heap.size<=w.heap.size+1 by omega) (.slice (some ⟨g,0,none⟩) l.length cap))
      clear hG hb m kr
      go_wp2
      refine bodyPost_ret (v:=.agg #[.int .i64 (wrap64 (e+1)),.slice (some ⟨g,0,none⟩) l.length cap]) (by simp [results,Tryz.f113,go_sem,r0,r1]) rfl ?_
      exact ⟨_,rfl,Ho.out,HB.out⟩
end Go.Proofs.YteefibiikampbaaGreatDoor
