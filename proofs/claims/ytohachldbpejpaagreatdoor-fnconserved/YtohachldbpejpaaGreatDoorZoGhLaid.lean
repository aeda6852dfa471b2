/- What the row's condition says of the package-level variable that holds a type's handle. -/
import Derived.Test.YtohachldbpejpaaGreatDoorZoShaBlock
import Derived.LaidMore
import Derived.OpenVars
import Derived.Lib.LaidU8
import Derived.Stop.Joined
import Derived.LaidLaws
import Derived.LaidHandle
set_option maxRecDepth 20000
set_option maxHeartbeats 4000000
namespace Go.Proofs.YtohachldbpejpaaGreatDoor
open Go.RowKit
set_option linter.unusedVariables false
theorem implFreed_any (a:Ac) (lv:Value) (e:Int) (w:World) (hr:RdL w lv a.2.2.2.2) (hl:a.2.2.2.2.length<=4000000) :
    Calls Tryz.prog 106 #[acV a lv,.int .i64 e] w fun en w'=>∃ lv',en=.returned (acV (frA e a) lv')/\OwnL w.heap.size w' lv' (stL e a.2.2.2.2)/\Below w.heap.size w w':=by
  obtain ⟨nm,fr,no,st,ls⟩:=a
  obtain ⟨av,cv,rfl⟩:=hr.shape
  simp only [acV,frA] at *
  obtain ⟨w2,hw2⟩:∃ w2,(w.alloc (.cells #[.string nm,.int .i64 fr,.int .i64 no,.int .i64 st,.slice av ls.length cv] 105)).alloc (.cells #[.string { data:=#[] },.int .i64 0,.int .i64 0,.int .i64 0,.slice none 0 0] 105)=w2:=⟨_,rfl⟩
  have hs2:w2.heap.size=w.heap.size+2:=by rw [<- hw2];simp
  have hb2:Below w.heap.size w w2:=by rw [<- hw2];exact ((Below.refl _ w).alloc (Nat.le_refl _) _).alloc (by simp) _
  have k1:Blk w2 w.heap.size 105 [.string nm,.int .i64 fr,.int .i64 no,.int .i64 st,.slice av ls.length cv]:=by
    rw [<- hw2]
    exact (Blk.new w _ _).below ((Below.refl (w.heap.size+1) _).alloc (by simp) _) (by omega)
  have k2:Blk w2 (w.heap.size+1) 105 acZ:=by
    rw [<- hw2]
    have h:=Blk.new (w.alloc (.cells #[.string nm,.int .i64 fr,.int .i64 no,.int .i64 st,.slice av ls.length cv] 105)) 105 acZ
    simp only [World.size_alloc] at h
    exact h
  have Hr:=hide hr
  have Hb2:=hide hb2
  have K1:=hide k1
  have K2:=hide k2
  have c4:=k1.cell 4
  simp only [List.getElem?_cons_zero,List.getElem?_cons_succ] at c4
  clear hr hb2 k1 k2
  go_enter Tryz.func106,Tryz.ntmps106
  go_wp2
  go_loopw [5,11] (fun sv iv wr=>∃ (k:Nat),k<=ls.length/\iv=.int .i64 (k:Int)/\OwnL (w.heap.size+2) wr sv (stL e (ls.take k))/\Below w.heap.size w wr/\Blk wr w.heap.size 105 [.string nm,.int .i64 (frF e fr (ls.take k)),.int .i64 no,.int .i64 st,.slice av ls.length cv]/\Blk wr (w.heap.size+1) 105 acZ) (fun _ iv _=>ls.length - (intOf iv).toNat)
  case atStart=>exact ⟨0,by omega,rfl,own_noneL w2 _,Hb2.out,K1.out,K2.out⟩
  case round =>
    obtain ⟨k,hk,rfl,ho,hb,j1,j2⟩:=hrel
    clear K1 K2 c4 hw2
    have hbs:=hb.size
    have hs:=j2.lt
    by_cases hlt:k < ls.length
    · obtain ⟨b,off,rfl,hc1,hc2,hbw,e0,e1⟩:=Hr.out.at hlt
      have f0:=(hb.cell (p:=⟨b,off+k * 2,none⟩) hbw).trans e0
      have f1:=(hb.cell (p:=⟨b,off+k * 2+1,none⟩) hbw).trans e1
      have HF:=hide (frF_snoc e fr ls k hlt)
      have HS:=hide (stL_snoc e ls k hlt)
      have hsl:=stL_len e (ls.take k)
      have htl:(ls.take k).length<=k:=by simp;omega
      generalize ls[k]=x at f0 f1 e0 e1 HF HS
      obtain ⟨xa,xt⟩:=x
      simp only at f0 f1 HF HS
      have hli:(k:Int) < (ls.length:Int):=by omega
      obtain ⟨w3,hw3⟩:∃ w3,wr.alloc (.cells #[.int .i64 xa,.int .i64 xt] 107)=w3:=⟨_,rfl⟩
      have hb3:Below w.heap.size w w3:=by rw [<- hw3];exact hb.alloc hbs _
      have ho3:OwnL (w.heap.size+2) w3 u5 (stL e (ls.take k)):=by rw [<- hw3];exact ho.alloc _
      have m1:Blk w3 w.heap.size 105 [.string nm,.int .i64 (frF e fr (ls.take k)),.int .i64 no,.int .i64 st,.slice (some ⟨b,off,none⟩) ls.length cv]:=by rw [<- hw3];exact j1.alloc _
      have m2:Blk w3 (w.heap.size+1) 105 acZ:=by rw [<- hw3];exact j2.alloc _
      have m3:Blk w3 wr.heap.size 107 [.int .i64 xa,.int .i64 xt]:=by rw [<- hw3];exact Blk.new wr _ _
      have hs3:w3.heap.size=wr.heap.size+1:=by rw [<- hw3];simp
      have d1:=m1.cell 1
      have q1:=m1.frozen 1
      have x0:=m3.cell 0
      have x1:=m3.cell 1
      simp only [List.getElem?_cons_zero,List.getElem?_cons_succ] at d1 x0 x1
      have Ho:=hide ho3
      have Hb:=hide hb3
      have J1:=hide m1
      have J2:=hide m2
      clear e0 e1 ho hb j1 j2 m1 m2 m3 ho3 hb3
      by_cases h1:xt<=e
      · rw [if_pos h1] at HF HS
        generalize frF e fr (ls.take k)=F at HF d1 J1
        go_wp2
        go_roundw
        case rel =>
          refine ⟨k+1,by omega,by go_num,?_,?_,?_,?_⟩
          · rw [HS.out];exact row_set Ho.out _ _ _ (fun j hj=>by have:=Ho.out.ge j hj;omega)
          · exact Hb.out.setCell (p:=⟨w.heap.size,1,none⟩) (Nat.le_refl _) _
          · rw [HF.out];exact J1.out.set 1 _
          · exact J2.out.other _ _ _ (by omega)
        case measure=>simp [intOf];omega
      · rw [if_neg h1] at HF HS
        go_wp2_with (at_builtin;refine app_ownLg _ rfl _ _ rfl (w.heap.size+2) _ _ (stL e (ls.take k)) [(xa,xt)] rfl rfl (Ho.out.alloc _) (rd_one_lv _ _ xa xt (by first | rfl | omega)) (by simp;omega) (by first | omega | (simp;omega)) ?_;intro v1 w1 ho1 hg1)
        have HB:=hide ((Hb.out.alloc (by omega) (.cells #[.int .i64 xa,.int .i64 xt] 107)).grown hg1 (by simp;omega) (fun k hk=>by have:=Ho.out.ge k hk;omega))
        go_roundw
        case rel =>
          refine ⟨k+1,by omega,by go_num,?_,HB.out,?_,?_⟩
          · rw [HS.out];exact ho1
          · rw [HF.out];exact (J1.out.alloc _).kept' hg1 (fun e=>by have:=Ho.out.ge _ e.symm;omega)
          · exact (J2.out.alloc _).kept' hg1 (fun e=>by have:=Ho.out.ge _ e.symm;omega)
        case measure=>simp [intOf];omega
    · have ek:k=ls.length:=by omega
      subst ek
      rw [List.take_length] at ho j1
      obtain ⟨a4,cv4,rfl⟩:=ho.rd.shape
      have d0:=j1.cell 0
      have d1:=j1.cell 1
      have d2:=j1.cell 2
      have d3:=j1.cell 3
      have d4:=j1.cell 4
      have q4:=j1.frozen 4
      have r0:=j2.cell 0
      have r1:=j2.cell 1
      have r2:=j2.cell 2
      have r3:=j2.cell 3
      have r4:=j2.cell 4
      have g0:=j2.frozen 0
      have g1:=j2.frozen 1
      have g2:=j2.frozen 2
      have g3:=j2.frozen 3
      have g4:=j2.frozen 4
      simp only [acZ,List.getElem?_cons_zero,List.getElem?_cons_succ] at d0 d1 d2 d3 d4 r0 r1 r2 r3 r4
      have Ho:=hide ho
      have Hb:=hide hb
      have hge:=ho.ge
      clear ho hb j1 j2
      go_wp2
      refine bodyPost_ret (v:=.agg #[.string nm,.int .i64 (frF e fr ls),.int .i64 no,.int .i64 st,.slice a4 (stL e ls).length cv4]) (by simp [results,Tryz.f106,go_sem,r0,r1,r2,r3,r4]) rfl ?_
      have n1:∀ k,(Value.slice a4 (stL e ls).length cv4).ownBlock=some k->k ≠ w.heap.size:=fun k hk=>by have:=hge k hk;omega
      have n2:∀ k,(Value.slice a4 (stL e ls).length cv4).ownBlock=some k->k ≠ w.heap.size+1:=fun k hk=>by have:=hge k hk;omega
      refine ⟨_,rfl,row_set (row_set (row_set (row_set (row_set (row_set (Ho.out.mono (by omega)) _ _ _ n1) _ _ _ n2) _ _ _ n2) _ _ _ n2) _ _ _ n2) _ _ _ n2,?_⟩
      exact (((((Hb.out.setCell (p:=⟨w.heap.size,4,none⟩) (by show w.heap.size<=w.heap.size;omega) _).setCell (p:=⟨w.heap.size+1,0,none⟩) (by show w.heap.size<=w.heap.size+1;omega) _).setCell (p:=⟨w.heap.size+1,1,none⟩) (by show w.heap.size<=w.heap.size+1;omega) _).setCell (p:=⟨w.heap.size+1,2,none⟩) (by show w.heap.size<=w.heap.size+1;omega) _).setCell (p:=⟨w.heap.size+1,3,none⟩) (by show w.heap.size<=w.heap.size+1;omega) _).setCell (p:=⟨w.heap.size+1,4,none⟩) (by show w.heap.size<=w.heap.size+1;omega) _
theorem implBehindL_any (e:Int) (v:Value) (l:List Ac) (w:World) (hr:RdA w v l) (hl:l.length<=4000000) (hall:∀ a ∈ l,a.2.2.2.2.length<=4000000) :
    Calls Tryz.prog 50 #[lgV e v] w fun en w'=>∃ v',en=.returned (lgV (wrap64 (e+1)) v')/\OwnA w.heap.size w' v' (l.map (frA (wrap64 (e+1))))/\Below w.heap.size w w':=by
  obtain ⟨av,cv,rfl⟩:=hr.shape
  simp only [lgV] at *
  obtain ⟨w2,hw2⟩:∃ w2,(w.alloc (.cells #[.int .i64 e,.slice av l.length cv] 26)).alloc (.cells #[.int .i64 0,.slice none 0 0] 26)=w2:=⟨_,rfl⟩
  have hs2:w2.heap.size=w.heap.size+2:=by rw [<- hw2];simp
  have hb2:Below w.heap.size w w2:=by rw [<- hw2];exact ((Below.refl _ w).alloc (Nat.le_refl _) _).alloc (by simp) _
  have k2:Blk w2 (w.heap.size+1) 26 [.int .i64 0,.slice none 0 0]:=by
    rw [<- hw2]
    have h:=Blk.new (w.alloc (.cells #[.int .i64 e,.slice av l.length cv] 26)) 26 [.int .i64 0,.slice none 0 0]
    simp only [World.size_alloc] at h
    exact h
  have k1:Blk w2 w.heap.size 26 [.int .i64 e,.slice av l.length cv]:=by
    rw [<- hw2]
    exact (Blk.new w 26 [.int .i64 e,.slice av l.length cv]).alloc _
  have c0:=k1.cell 0
  have c1:=k1.cell 1
  simp only [List.getElem?_cons_zero,List.getElem?_cons_succ] at c0 c1
  have HC:=hide (implCopiedLg_any e _ l w2 (hr.below hb2 (Nat.le_refl _)) hl hall)
  simp only [lgV] at HC
  have Hb2:=hide hb2
  have K2:=hide k2
  have Hall:=hide hall
  clear hr hb2 k1 k2 hall
  go_enter Tryz.func50,Tryz.ntmps50
  go_wp2_with fail
  refine HC.out.mono ?_
  rintro en w3 ⟨v3,rfl,ho3,hb3⟩
  have hB3:=Hb2.out.trans (hb3.mono Hb2.out.size)
  have hs3:=hb3.size
  have k3:=K2.out.below hb3 (by omega)
  obtain ⟨g,cap,Z,rfl,hZ,hG⟩:=ho3.rowG
  have hgl:=hG.lt
  obtain ⟨w4,hw4⟩:∃ w4,w3.alloc (.cells #[.int .i64 (wrap64 (e+1)),.slice (some ⟨g,0,none⟩) l.length cap] 26)=w4:=⟨_,rfl⟩
  have m4:Blk w4 w3.heap.size 26 [.int .i64 (wrap64 (e+1)),.slice (some ⟨g,0,none⟩) l.length cap]:=by rw [<- hw4];exact Blk.new w3 _ _
  have k4:Blk w4 (w.heap.size+1) 26 [.int .i64 0,.slice none 0 0]:=by rw [<- hw4];exact k3.alloc _
  have hB4:Below w.heap.size w w4:=by rw [<- hw4];exact hB3.alloc hB3.size _
  have hG4:RowG w2.heap.size w4 g l.length cap Z:=by
    rw [<- hw4]
    exact hG.below ((Below.refl w3.heap.size w3).alloc (Nat.le_refl _) _) (Nat.le_refl _)
  have hs4:w4.heap.size=w3.heap.size+1:=by rw [<- hw4];simp
  have d0:=m4.cell 0
  have d1:=m4.cell 1
  simp only [List.getElem?_cons_zero,List.getElem?_cons_succ] at d0 d1
  have M4:=hide m4
  have K4:=hide k4
  have HB4:=hide hB4
  have HG4:=hide hG4
  have HZ:=hide hZ
  clear m4 k4 hB4 hG4 hZ hG hb3 hB3 k3 ho3 HC c0 c1 hw2
  go_wp2
  go_loopw [15] (fun iv wr=>∃ (k:Nat) (Z:List (Ac × Value)),k<=l.length/\iv=.int .i64 (k:Int)/\Z.map (·.1)=frK (wrap64 (e+1)) l k/\RowG (w.heap.size+2) wr g l.length cap Z/\Blk wr w3.heap.size 26 [.int .i64 (wrap64 (e+1)),.slice (some ⟨g,0,none⟩) l.length cap]/\Blk wr (w.heap.size+1) 26 [.int .i64 0,.slice none 0 0]/\Below w.heap.size w wr) (fun iv _=>l.length - (intOf iv).toNat)
  case atStart=>exact ⟨0,Z,by omega,rfl,by rw [frK_zero];exact HZ.out,by rw [<- hs2];exact HG4.out,M4.out,K4.out,HB4.out⟩
  case round =>
    obtain ⟨k,Y,hk,rfl,hY,hG,m,kr,hb⟩:=hrel
    clear M4 K4 HB4 HG4 HZ d0 d1 hw4
    have hYl:=hG.len
    have hcap:=hG.caps
    by_cases hlt:k < l.length
    · have hkY:k < Y.length:=by omega
      have hYk:Y[k].1=l[k]:=by rw [fst_get hY k hkY (by rw [frK_len];exact hlt),frK_at _ _ _ hlt]
      obtain ⟨c0,c1,c2,c3,c4⟩:=hG.at k hkY
      have hown:=hG.lvs.own k hkY
      have hlen:=Hall.out l[k] (List.getElem_mem _)
      have Hnx:=hide (frK_next (wrap64 (e+1)) l k hlt)
      rw [<- hYk] at Hnx hlen
      have hshape:=hown.rd.shape
      obtain ⟨q,hq⟩:∃ q,Y[k]=q:=⟨_,rfl⟩
      rw [hq] at c0 c1 c2 c3 c4 hown hlen Hnx hshape
      obtain ⟨⟨nm,fr,no,st,ls⟩,lv⟩:=q
      simp only at c0 c1 c2 c3 c4 hown hlen Hnx hshape
      obtain ⟨av',cv',rfl⟩:=hshape
      have hli:(k:Int) < (l.length:Int):=by omega
      have hgl:=hG.lt
      obtain ⟨w5,hw5⟩:∃ w5,wr.alloc (.cells #[.string nm,.int .i64 fr,.int .i64 no,.int .i64 st,.slice av' ls.length cv'] 105)=w5:=⟨_,rfl⟩
      have hb5:Below wr.heap.size wr w5.drew:=by rw [<- hw5];exact ((Below.refl _ wr).alloc (Nat.le_refl _) _).drew
      have m5:Blk w5.drew w3.heap.size 26 [.int .i64 (wrap64 (e+1)),.slice (some ⟨g,0,none⟩) l.length cap]:=m.below hb5 m.lt
      have kr5:Blk w5.drew (w.heap.size+1) 26 [.int .i64 0,.slice none 0 0]:=kr.below hb5 kr.lt
      have n5:Blk w5.drew wr.heap.size 105 [.string nm,.int .i64 fr,.int .i64 no,.int .i64 st,.slice av' ls.length cv']:=by rw [<- hw5];exact Blk.new wr _ _
      have hG5:=hG.below hb5 (Nat.le_refl _)
      have ho5:=hown.below hb5 (Nat.le_refl _)
      have hB5:=hb.trans (hb5.mono hb.size)
      have HF:=hide (implFreed_any (nm,fr,no,st,ls) (.slice av' ls.length cv') (wrap64 (e+1)) w5.drew ho5.rd hlen)
      simp only [acV,frA] at HF
      have hml:=m.lt
      have hmb:=hb.size
      have Hm5:=hide m5
      have Hkr5:=hide kr5
      have Hn5:=hide n5
      have HG5:=hide hG5
      have HB5:=hide hB5
      have HQ:=hide hq
      have HSx:Hid (∀ W,Blk W w3.heap.size 26 [.int .i64 (wrap64 (e+1)),.slice (some ⟨g,0,none⟩) l.length cap]->Blk W wr.heap.size 105 [.string nm,.int .i64 fr,.int .i64 no,.int .i64 st,.slice av' ls.length cv']->W.cell? ⟨w3.heap.size,0,none⟩=some (.int .i64 (wrap64 (e+1)))/\W.cell? ⟨w3.heap.size,1,none⟩=some (.slice (some ⟨g,0,none⟩) l.length cap)/\W.cell? ⟨wr.heap.size,0,none⟩=some (.string nm)/\W.cell? ⟨wr.heap.size,1,none⟩=some (.int .i64 fr)/\W.cell? ⟨wr.heap.size,2,none⟩=some (.int .i64 no)/\W.cell? ⟨wr.heap.size,3,none⟩=some (.int .i64 st)/\W.cell? ⟨wr.heap.size,4,none⟩=some (.slice av' ls.length cv')):=hide (fun W h1 h2=>⟨h1.cell 0,h1.cell 1,h2.cell 0,h2.cell 1,h2.cell 2,h2.cell 3,h2.cell 4⟩)
      have hS5:=HSx.out _ m5 n5
      clear hq hG hown hb m kr m5 kr5 n5 hG5 ho5 hB5
      go_wp2
      go_region_held_law (fun w'=>w'.cell? ⟨w3.heap.size,0,none⟩=some (.int .i64 (wrap64 (e+1)))/\w'.cell? ⟨w3.heap.size,1,none⟩=some (.slice (some ⟨g,0,none⟩) l.length cap)/\w'.cell? ⟨wr.heap.size,0,none⟩=some (.string nm)/\w'.cell? ⟨wr.heap.size,1,none⟩=some (.int .i64 fr)/\w'.cell? ⟨wr.heap.size,2,none⟩=some (.int .i64 no)/\w'.cell? ⟨wr.heap.size,3,none⟩=some (.int .i64 st)/\w'.cell? ⟨wr.heap.size,4,none⟩=some (.slice av' ls.length cv')) (first | with_reducible exact hS5 | with_reducible exact hS6 | with_reducible exact HSx.out _ (Hm6.out.other5 _ _ _ _ _ _ _ (by omega)) (Hn6.out.other5 _ _ _ _ _ _ _ (by omega))) ((go_at_call 106;refine HF.out.mono ?_;rintro en w6 ⟨lv',rfl,ho6,hb6⟩;have hsh:=ho6.rd.shape;obtain ⟨a6,cv6,hv6⟩:=hsh;subst hv6;have Hm6:=hide (Hm5.out.below hb6 Hm5.out.lt);have Hn6:=hide (Hn5.out.below hb6 Hn5.out.lt);have HG6:=hide (HG5.out.below hb6 (Nat.le_refl _));have hS6:=HSx.out _ Hm6.out Hn6.out;have hat6:=HG6.out.at k hkY;rw [HQ.out] at hat6;have q0:=hat6.c0;have q1:=hat6.c1;have q2:=hat6.c2;have q3:=hat6.c3;have q4:=hat6.c4;simp only at q0 q1 q2 q3 q4;have f0:=HG6.out.frozen (k * 5);have f1:=HG6.out.frozen (k * 5+1);have f2:=HG6.out.frozen (k * 5+2);have f3:=HG6.out.frozen (k * 5+3);have f4:=HG6.out.frozen (k * 5+4);clear hat6))
      have hge6:=ho6.ge
      have hz5:w5.drew.heap.size=wr.heap.size+1:=by rw [<- hw5];simp
      have HP:=hide (HG6.out.put5 k hkY ((nm,frF (wrap64 (e+1)) fr ls,no,st,stL (wrap64 (e+1)) ls),.slice a6 (stL (wrap64 (e+1)) ls).length cv6) (ho6.mono (by omega)) (fun b hb=>by have:=hge6 b hb;omega) (fun i hi _ b hb e=>by have:=(HG5.out.lvs.own i hi).lt b hb;have:=hge6 b e;omega))
      have HB6:=hide (below_set5 (HB5.out.trans (hb6.mono HB5.out.size)) g (k * 5) (.string nm) (.int .i64 (frF (wrap64 (e+1)) fr ls)) (.int .i64 no) (.int .i64 st) (.slice a6 (stL (wrap64 (e+1)) ls).length cv6) (by omega))
      have Hm7:=hide (Hm6.out.other5 g (k * 5) (.string nm) (.int .i64 (frF (wrap64 (e+1)) fr ls)) (.int .i64 no) (.int .i64 st) (.slice a6 (stL (wrap64 (e+1)) ls).length cv6) (by omega))
      have Hk7:=hide ((Hkr5.out.below hb6 Hkr5.out.lt).other5 g (k * 5) (.string nm) (.int .i64 (frF (wrap64 (e+1)) fr ls)) (.int .i64 no) (.int .i64 st) (.slice a6 (stL (wrap64 (e+1)) ls).length cv6) (by omega))
      have HY2:Hid ((Y.set k ((nm,frF (wrap64 (e+1)) fr ls,no,st,stL (wrap64 (e+1)) ls),.slice a6 (stL (wrap64 (e+1)) ls).length cv6)).map (·.1)=frK (wrap64 (e+1)) l (k+1)):=hide (by rw [fst_set,hY];exact Hnx.out)
      clear ho6 hb6 hS6 hS5 HG6 Hm6 Hn6 hge6
      go_wp2
      go_roundw
      case rel=>exact ⟨k+1,_,by omega,by go_num,HY2.out,HP.out,Hm7.out,Hk7.out,HB6.out⟩
      case measure=>simp [intOf];omega
    · have ek:k=l.length:=by omega
      subst ek
      rw [frK_all] at hY
      have hG:=RowG.own hG
      rw [hY] at hG
      have d0:=m.cell 0
      have d1:=m.cell 1
      have r0:=kr.cell 0
      have r1:=kr.cell 1
      have g0:=kr.frozen 0
      have g1:=kr.frozen 1
      simp only [List.getElem?_cons_zero,List.getElem?_cons_succ] at d0 d1 r0 r1
      have hml:=m.lt
      have Ho:=hide (((hG.older (g:=w.heap.size+1) (by omega) 0 (.int .i64 (wrap64 (e+1)))).older (g:=w.heap.size+1) (by omega) 1 (.slice (some ⟨g,0,none⟩) l.length cap)).mono (show w.heap.size<=_ by omega))
      have HB:=hide ((hb.setCell (p:=⟨w.heap.size+1,0,none⟩) (show w.heap.size<=w.heap.size+1 by omega) (.int .i64 (wrap64 (e+1)))).setCell (p:=⟨w.heap.size+1,1,none⟩) (show w.heap.size<=w.heap.size+1 by omega) (.slice (some ⟨g,0,none⟩) l.length cap))
      clear hG hb m kr
      go_wp2
      refine bodyPost_ret (v:=.agg #[.int .i64 (wrap64 (e+1)),.slice (some ⟨g,0,none⟩) l.length cap]) (by simp [results,Tryz.f50,go_sem,r0,r1]) rfl ?_
      exact ⟨_,rfl,Ho.out,HB.out⟩
theorem implNext_any (e:Int) (v:Value) (l:List Ac) (w:World) (hr:RdA w v l) (hl:l.length<=4000000) (hall:∀ a ∈ l,a.1.size<=maxLen/\a.2.2.2.2.length<=4000000) :
    Calls Tryz.prog 11 #[lgV e v] w fun en w'=>∃ v',en=.returned (lgV (neA e l).1 v')/\OwnA w.heap.size w' v' (neA e l).2/\Below w.heap.size w w':=by
  obtain ⟨av,cv,rfl⟩:=hr.shape
  have hall2:∀ a ∈ l,a.2.2.2.2.length<=4000000:=fun a ha=>(hall a ha).2
  have hfa:=fr_all (wrap64 (e+1)) l hall
  obtain ⟨w2,hw2⟩:∃ w2,(w.alloc (.cells #[.int .i64 e,.slice av l.length cv] 26)).alloc (.cells #[.int .i64 0,.slice none 0 0] 26)=w2:=⟨_,rfl⟩
  have hs2:w2.heap.size=w.heap.size+2:=by rw [<- hw2];simp
  have hb2:Below w.heap.size w w2:=by rw [<- hw2];exact ((Below.refl _ w).alloc (Nat.le_refl _) _).alloc (by simp) _
  have k1:Blk w2 w.heap.size 26 [.int .i64 e,.slice av l.length cv]:=by
    rw [<- hw2]
    exact (Blk.new w 26 [.int .i64 e,.slice av l.length cv]).alloc _
  have k2:Blk w2 (w.heap.size+1) 26 [.int .i64 0,.slice none 0 0]:=by
    rw [<- hw2]
    have h:=Blk.new (w.alloc (.cells #[.int .i64 e,.slice av l.length cv] 26)) 26 [.int .i64 0,.slice none 0 0]
    simp only [World.size_alloc] at h
    exact h
  have c0:=k1.cell 0
  have c1:=k1.cell 1
  simp only [List.getElem?_cons_zero,List.getElem?_cons_succ] at c0 c1
  have r2:=hr.below hb2 (Nat.le_refl _)
  have HC:=hide (implBehindL_any e _ l w2 r2 hl hall2)
  have HO:=hide (fun w hr=>implLedgerOk_any e (.slice av l.length cv) l w hr hl hall)
  have HN:=hide (fun v w hr=>implLedgerOk_any (wrap64 (e+1)) v (l.map (frA (wrap64 (e+1)))) w hr (by simpa using hl) hfa)
  have HD:=hide (fun w hr=>implCopiedLg_any e (.slice av l.length cv) l w hr hl hall2)
  simp only [lgV] at HC HO HN HD ⊢
  have Hb2:=hide hb2
  have K1:=hide k1
  have K2:=hide k2
  have Hr2:=hide r2
  clear hr hb2 k1 k2 hall hall2 hfa r2
  go_enter Tryz.func11,Tryz.ntmps11
  go_wp2_with fail
  refine HC.out.mono ?_
  rintro en w3 ⟨v3,rfl,ho3,hb3⟩
  have hB3:=Hb2.out.trans (hb3.mono Hb2.out.size)
  have hs3:=hb3.size
  obtain ⟨a3,cv3,rfl⟩:=ho3.rd.shape
  obtain ⟨n,hn⟩:∃ n,(l.map (frA (wrap64 (e+1)))).length=n:=⟨_,rfl⟩
  rw [hn] at ho3
  obtain ⟨w4,hw4⟩:∃ w4,w3.alloc (.cells #[.int .i64 (wrap64 (e+1)),.slice a3 n cv3] 26)=w4:=⟨_,rfl⟩
  have b4:Below w3.heap.size w3 w4:=by rw [<- hw4];exact (Below.refl _ w3).alloc (Nat.le_refl _) _
  have hB4:Below w.heap.size w w4:=hB3.trans (b4.mono hB3.size)
  have n4:Blk w4 w3.heap.size 26 [.int .i64 (wrap64 (e+1)),.slice a3 n cv3]:=by rw [<- hw4];exact Blk.new w3 _ _
  have k14:=(K1.out.below hb3 K1.out.lt).below b4 (K1.out.below hb3 K1.out.lt).lt
  have k24:=(K2.out.below hb3 K2.out.lt).below b4 (K2.out.below hb3 K2.out.lt).lt
  have o4:=ho3.below b4 (Nat.le_refl _)
  have r4:=(Hr2.out.below hb3 (Nat.le_refl _)).below b4 (Nat.le_refl _)
  have hs4:w4.heap.size=w3.heap.size+1:=by rw [<- hw4];simp
  rw [hn]
  have d0:=k14.cell 0
  have d1:=k14.cell 1
  simp only [List.getElem?_cons_zero,List.getElem?_cons_succ] at d0 d1
  have Hno:Hid (lgB e l=false->neA e l=(e,l)):=hide neA_old
  have Hno2:Hid (lgB (wrap64 (e+1)) (l.map (frA (wrap64 (e+1))))=false->neA e l=(e,l)):=hide neA_new
  have Hyes:Hid (lgB e l=true->lgB (wrap64 (e+1)) (l.map (frA (wrap64 (e+1))))=true->neA e l=(wrap64 (e+1),l.map (frA (wrap64 (e+1))))):=hide neA_yes
  clear c0 c1 K1 K2 HC hb3 hB3 ho3 b4 Hr2
  go_wp2_with fail
  refine (HO.out _ r4).mono ?_
  rintro en w5 ⟨rfl,hb5⟩
  have hB5:Below w.heap.size w w5:=hB4.trans (hb5.mono hB4.size)
  have k15:=k14.below hb5 k14.lt
  have k25:=k24.below hb5 k24.lt
  have n5:=n4.below hb5 n4.lt
  have o5:=o4.below hb5 (Nat.le_refl _)
  have r5:=r4.below hb5 (Nat.le_refl _)
  clear d0 d1 k14 k24 n4 o4 r4 hB4
  cases h1:lgB e l
  · have Hne:=hide (Hno.out h1)
    have d0:=k15.cell 0
    have d1:=k15.cell 1
    simp only [List.getElem?_cons_zero,List.getElem?_cons_succ] at d0 d1
    clear Hno Hno2 Hyes h1
    go_wp2_with fail
    refine (HD.out _ r5).mono ?_
    rintro en w6 ⟨v6,rfl,ho6,hb6⟩
    have k26:=k25.below hb6 k25.lt
    obtain ⟨a6,cv6,rfl⟩:=ho6.rd.shape
    have r0:=k26.cell 0
    have r1:=k26.cell 1
    have g0:=k26.frozen 0
    have g1:=k26.frozen 1
    simp only [List.getElem?_cons_zero,List.getElem?_cons_succ] at r0 r1
    have hz5:=hb5.size
    have Ho:=hide (((ho6.older (g:=w.heap.size+1) (by omega) 0 (.int .i64 e)).older (g:=w.heap.size+1) (by omega) 1 (.slice a6 l.length cv6)).mono (show w.heap.size<=_ by omega))
    have HB:=hide (((hB5.trans (hb6.mono hB5.size)).setCell (p:=⟨w.heap.size+1,0,none⟩) (show w.heap.size<=w.heap.size+1 by omega) (.int .i64 e)).setCell (p:=⟨w.heap.size+1,1,none⟩) (show w.heap.size<=w.heap.size+1 by omega) (.slice a6 l.length cv6))
    clear ho6 hb6 k26
    go_wp2
    refine bodyPost_ret (v:=.agg #[.int .i64 e,.slice a6 l.length cv6]) (by simp [results,Tryz.f11,go_sem,r0,r1]) rfl ?_
    rw [Hne.out]
    exact ⟨_,rfl,Ho.out,HB.out⟩
  · have d0:=n5.cell 0
    have d1:=n5.cell 1
    simp only [List.getElem?_cons_zero,List.getElem?_cons_succ] at d0 d1
    have Hyes:=hide (Hyes.out h1)
    clear Hno h1
    go_wp2_with fail
    refine (HN.out _ _ o5.rd).mono ?_
    rintro en w7 ⟨rfl,hb7⟩
    have hB7:Below w.heap.size w w7:=hB5.trans (hb7.mono hB5.size)
    have k17:=k15.below hb7 k15.lt
    have k27:=k25.below hb7 k25.lt
    have n7:=n5.below hb7 n5.lt
    have o7:=o5.below hb7 (Nat.le_refl _)
    have r7:=r5.below hb7 (Nat.le_refl _)
    have hz7:=hb7.size
    clear d0 d1 k15 k25 n5 o5 r5
    cases h2:lgB (wrap64 (e+1)) (l.map (frA (wrap64 (e+1))))
    · have Hne:=hide (Hno2.out h2)
      have d0:=k17.cell 0
      have d1:=k17.cell 1
      simp only [List.getElem?_cons_zero,List.getElem?_cons_succ] at d0 d1
      clear Hno2 Hyes h2
      go_wp2_with fail
      refine (HD.out _ r7).mono ?_
      rintro en w6 ⟨v6,rfl,ho6,hb6⟩
      have k26:=k27.below hb6 k27.lt
      obtain ⟨a6,cv6,rfl⟩:=ho6.rd.shape
      have r0:=k26.cell 0
      have r1:=k26.cell 1
      have g0:=k26.frozen 0
      have g1:=k26.frozen 1
      simp only [List.getElem?_cons_zero,List.getElem?_cons_succ] at r0 r1
      have hz5:=hb5.size
      have Ho:=hide (((ho6.older (g:=w.heap.size+1) (by omega) 0 (.int .i64 e)).older (g:=w.heap.size+1) (by omega) 1 (.slice a6 l.length cv6)).mono (show w.heap.size<=_ by omega))
      have HB:=hide (((hB7.trans (hb6.mono hB7.size)).setCell (p:=⟨w.heap.size+1,0,none⟩) (show w.heap.size<=w.heap.size+1 by omega) (.int .i64 e)).setCell (p:=⟨w.heap.size+1,1,none⟩) (show w.heap.size<=w.heap.size+1 by omega) (.slice a6 l.length cv6))
      clear ho6 hb6 k26
      go_wp2
      refine bodyPost_ret (v:=.agg #[.int .i64 e,.slice a6 l.length cv6]) (by simp [results,Tryz.f11,go_sem,r0,r1]) rfl ?_
      rw [Hne.out]
      exact ⟨_,rfl,Ho.out,HB.out⟩
    · have Hne:=hide (Hyes.out h2)
      have d0:=n7.cell 0
      have d1:=n7.cell 1
      have r0:=k27.cell 0
      have r1:=k27.cell 1
      have g0:=k27.frozen 0
      have g1:=k27.frozen 1
      simp only [List.getElem?_cons_zero,List.getElem?_cons_succ] at d0 d1 r0 r1
      have hz5:=hb5.size
      have Ho:=hide (((o7.older (g:=w.heap.size+1) (by omega) 0 (.int .i64 (wrap64 (e+1)))).older (g:=w.heap.size+1) (by omega) 1 (.slice a3 n cv3)).mono (show w.heap.size<=_ by omega))
      have HB:=hide ((hB7.setCell (p:=⟨w.heap.size+1,0,none⟩) (show w.heap.size<=w.heap.size+1 by omega) (.int .i64 (wrap64 (e+1)))).setCell (p:=⟨w.heap.size+1,1,none⟩) (show w.heap.size<=w.heap.size+1 by omega) (.slice a3 n cv3))
      clear Hno2 Hyes h2 o7 r7 k17 k27 n7
      go_wp2
      refine bodyPost_ret (v:=.agg #[.int .i64 (wrap64 (e+1)),.slice a3 n cv3]) (by simp [results,Tryz.f11,go_sem,r0,r1]) rfl ?_
      rw [Hne.out]
      exact ⟨_,rfl,Ho.out,HB.out⟩
end Go.Proofs.YtohachldbpejpaaGreatDoor
namespace Go.Proofs.YtohachldbpejpaaGreatDoor
open Go.ChangeShapes Go.WideShapes Go.ChangeAt Go.RowKit
set_option linter.unusedVariables false
theorem Tryz.gStart : Tryz.prog.globalNamed "loop.example/g00194/impl.shaStart" = some 1 := by kernel_rfl
theorem Tryz.gConsts : Tryz.prog.globalNamed "loop.example/g00194/impl.shaConstants" = some 2 := by kernel_rfl
theorem Tryz.tStart:(Tryz.prog.globals[1]?).map (·.type)=some 256:=by kernel_rfl
theorem Tryz.tConsts:(Tryz.prog.globals[2]?).map (·.type)=some 288:=by kernel_rfl
theorem Tryz.cellsU32:Tryz.prog.cellsOf 255=1:=by kernel_rfl
def litU (n:Nat):DataW Unit:=.lit (.int .u32 (n:Int))
theorem laid_start:(Rows.laid_loop_example_g00194_impl_shaStart:DataW Unit)=.agg (hC.list.map litU):=rfl
theorem laid_consts:(Rows.laid_loop_example_g00194_impl_shaConstants:DataW Unit)=.agg (kC.map litU):=rfl
theorem arr_cell {W:World} {fuel n:Nat} {t:TypeId} {cs:List Value} {L:List Nat} {p:List MemPlace} {sp:Nat->Bool} (ht:Tryz.prog.underlying t=some (.array n 255))
    (hd:DataW.trod (fun _=>()) Tryz.prog W 0 sp false fuel t cs=some (.agg (L.map litU),p)) (j:Nat) (hj:j < n) (hjL:j < L.length):cs[j]?=some (.int .u32 (L[j]:Int)):=by
  obtain ⟨f',d,q,e1,e2⟩:=Lib.array_elem ht hd j hj
  rw [Tryz.cellsU32,Nat.mul_one] at e2
  obtain ⟨k,c1,c2,_⟩:=DataW.trod_int Tryz.underlying255 e2
  have hdk:d=.lit (.int .u32 k):=by simpa using congrArg Prod.fst c2
  have hk:k=(L[j]:Int):=by
    rw [hdk] at e1
    simp [hjL,litU] at e1
    exact e1.symm
  have hg:((cs.drop j).take 1)[0]?=some (.int .u32 k):=by rw [c1];rfl
  rw [List.getElem?_take_of_lt (by omega),List.getElem?_drop,Nat.add_zero] at hg
  rw [hg,hk]
theorem block_lt {W:World} {g:Nat} {v:Value} (h:W.cell? ⟨g,0,none⟩=some v):g < W.heap.size:=by
  rcases Nat.lt_or_ge g W.heap.size with h1 | h1
  · exact h1
  · simp [World.cell?,Array.getElem?_eq_none h1] at h
theorem gl_of_reads {W : World} (h0 : Lib.VarReads Tryz.prog W "loop.example/g00194/impl.shaStart" Rows.laid_loop_example_g00194_impl_shaStart) (h1 : Lib.VarReads Tryz.prog W "loop.example/g00194/impl.shaConstants" Rows.laid_loop_example_g00194_impl_shaConstants) : Gl W := by
  obtain ⟨g0,t0,cs0,f0,p0,hg0,ht0,hv0,hd0⟩:=h0
  obtain ⟨g1,t1,cs1,f1,p1,hg1,ht1,hv1,hd1⟩:=h1
  obtain rfl:=Option.some.inj (Tryz.gStart.symm.trans hg0)
  obtain rfl:=Option.some.inj (Tryz.gConsts.symm.trans hg1)
  obtain rfl:=Option.some.inj (Tryz.tStart.symm.trans ht0)
  obtain rfl:=Option.some.inj (Tryz.tConsts.symm.trans ht1)
  rw [laid_start] at hd0
  rw [laid_consts] at hd1
  have a0:W.rangeAt 1 0 (hC.list.map uv):=by
    intro j v hv
    have hj:j < hC.list.length:=by have:=(List.getElem?_eq_some_iff.1 hv).1;simpa using this
    rw [Nat.zero_add,World.var?_cell Tryz.gStart hv0 j]
    have:=arr_cell Tryz.underlying256 hd0 j hj hj
    rw [Array.getElem?_toList] at this
    rw [this]
    simp [hj,uv] at hv
    rw [<- hv]
  have a1:W.rangeAt 2 0 (kC.map uv):=by
    intro j v hv
    have hj:j < kC.length:=by have:=(List.getElem?_eq_some_iff.1 hv).1;simpa using this
    rw [Nat.zero_add,World.var?_cell Tryz.gConsts hv1 j]
    have:=arr_cell Tryz.underlying288 hd1 j hj hj
    rw [Array.getElem?_toList] at this
    rw [this]
    simp [hj,uv] at hv
    rw [<- hv]
  exact ⟨a0,a1,block_lt (a0 0 (uv hC.a) rfl),block_lt (a1 0 (uv 1116352408) rfl)⟩
end Go.Proofs.YtohachldbpejpaaGreatDoor
namespace Go.Proofs.YtohachldbpejpaaGreatDoor
open Go.ChangeShapes Go.WideShapes Go.RowKit
set_option linter.unusedVariables false
theorem Tryz.et : Tryz.prog.globalNamed "errors.errorType" = some 0 := by kernel_rfl
theorem Tryz.rt : (Tryz.prog.cutTypes.find? (·.1 == "internal/reflectlite.rtype")).map (·.2) = some 239 := by kernel_rfl
theorem Tryz.oneRow:((List.range 359).filter fun t=>Tryz.prog.rowNamed t [101,114,114,111,114])=[96]:=by kernel_rfl
theorem Tryz.nTypes:Tryz.prog.types.size=359:=by kernel_rfl
theorem gh_of_handles {W : World} (h : handlesMet Tryz.prog [("errors.errorType", Rows.laid_errors_errorType)] W) : Gh W := by
  obtain ⟨name,u,ty,e1,e2,e3,e4,e5⟩:=h _ (List.mem_singleton.2 rfl)
  have en:name=[101,114,114,111,114]:=(Option.some.inj e1).symm
  subst en
  obtain rfl:=Option.some.inj (Tryz.rt.symm.trans e2)
  have hm:ty ∈ (List.range 359).filter fun t=>Tryz.prog.rowNamed t [101,114,114,111,114]:=List.mem_filter.2 ⟨List.mem_range.2 (by rw [<- Tryz.nTypes];exact e3),e4⟩
  rw [Tryz.oneRow] at hm
  obtain rfl:=List.mem_singleton.1 hm
  have hh:typeHandle Tryz.prog 96=.pointer (some ⟨3,96,none⟩):=by kernel_rfl
  rw [hh] at e5
  unfold Gh
  simpa using World.var?_cell Tryz.et e5 0
def handPut:Obj->Obj
  | .cells _ t frozen=>.cells #[.iface 239 (.agg #[.pointer (some ⟨3,96,none⟩)])] t frozen
  | o=>o
def laidOn (w0:World):World:={ w0 with heap:=w0.heap.modify 0 handPut }
end Go.Proofs.YtohachldbpejpaaGreatDoor
