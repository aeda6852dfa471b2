/- The landed code's NextEpoch. -/
import Derived.Test.YthehfkafcdociaaGreatDoorZyLgFreed
set_option maxRecDepth 20000
set_option maxHeartbeats 1000000
namespace Go.Proofs.YthehfkafcdociaaGreatDoor
open Go.RowKit
set_option linter.unusedVariables false
theorem implBehindL_any (e:Int) (v:Value) (l:List Ac) (w:World) (hr:RdA w v l) (hl:l.length<=4000000) (hall:∀ a ∈ l,a.2.2.2.2.length<=4000000) :
    Calls Tryz.prog 104 #[lgV e v] w fun en w'=>∃ v',en=.returned (lgV (wrap64 (e+1)) v')/\OwnA w.heap.size w' v' (l.map (frA (wrap64 (e+1))))/\Below w.heap.size w w':=by
  obtain ⟨av,cv,rfl⟩:=hr.shape
  simp only [lgV] at *
  obtain ⟨w2,hw2⟩:∃ w2,(w.alloc (.cells #[.int .i64 e,.slice av l.length cv] 36)).alloc (.cells #[.int .i64 0,.slice none 0 0] 36)=w2:=⟨_,rfl⟩
  have hs2:w2.heap.size=w.heap.size+2:=by rw [<- hw2];simp
  have hb2:Below w.heap.size w w2:=by rw [<- hw2];exact ((Below.refl _ w).alloc (Nat.le_refl _) _).alloc (by simp) _
  have k2:Blk w2 (w.heap.size+1) 36 [.int .i64 0,.slice none 0 0]:=by
    rw [<- hw2]
    have h:=Blk.new (w.alloc (.cells #[.int .i64 e,.slice av l.length cv] 36)) 36 [.int .i64 0,.slice none 0 0]
    simp only [World.size_alloc] at h
    exact h
  have k1:Blk w2 w.heap.size 36 [.int .i64 e,.slice av l.length cv]:=by
    rw [<- hw2]
    exact (Blk.new w 36 [.int .i64 e,.slice av l.length cv]).alloc _
  have c0:=k1.cell 0
  have c1:=k1.cell 1
  simp only [List.getElem?_cons_zero,List.getElem?_cons_succ] at c0 c1
  have HC:=hide (implCopiedLg_any e _ l w2 (hr.below hb2 (Nat.le_refl _)) hl hall)
  simp only [lgV] at HC
  have Hb2:=hide hb2
  have K2:=hide k2
  have Hall:=hide hall
  clear hr hb2 k1 k2 hall
  go_enter Tryz.func104,Tryz.ntmps104
  go_wp2_with fail
  refine HC.out.mono ?_
  rintro en w3 ⟨v3,rfl,ho3,hb3⟩
  have hB3:=Hb2.out.trans (hb3.mono Hb2.out.size)
  have hs3:=hb3.size
  have k3:=K2.out.below hb3 (by omega)
  obtain ⟨g,cap,Z,rfl,hZ,hG⟩:=ho3.rowG
  have hgl:=hG.lt
  obtain ⟨w4,hw4⟩:∃ w4,w3.alloc (.cells #[.int .i64 (wrap64 (e+1)),.slice (some ⟨g,0,none⟩) l.length cap] 36)=w4:=⟨_,rfl⟩
  have m4:Blk w4 w3.heap.size 36 [.int .i64 (wrap64 (e+1)),.slice (some ⟨g,0,none⟩) l.length cap]:=by rw [<- hw4];exact Blk.new w3 _ _
  have k4:Blk w4 (w.heap.size+1) 36 [.int .i64 0,.slice none 0 0]:=by rw [<- hw4];exact k3.alloc _
  have hB4:Below w.heap.size w w4:=by rw [<- hw4];exact hB3.alloc hB3.size _
  have hG4:RowG w2.heap.size w4 g l.length cap Z:=by
    rw [<- hw4]
    exact hG.below ((Below.refl w3.heap.size w3).alloc (Nat.le_refl _) _) (Nat.le_refl _)
  have hs4:w4.heap.size=w3.heap.size+1:=by rw [<- hw4];simp
  have d0:=m4.cell 0
  have d1:=m4.cell 1
  simp only [List.getElem?_cons_zero,List.getElem?_cons_succ] at d0 d1
  have M4:=hide m4
  have K4:=hide k4
  have HB4:=hide hB4
  have HG4:=hide hG4
  have HZ:=hide hZ
  clear m4 k4 hB4 hG4 hZ hG hb3 hB3 k3 ho3 HC c0 c1 hw2
  go_wp2
  go_loopw [15] (fun iv wr=>∃ (k:Nat) (Z:List (Ac × Value)),k<=l.length/\iv=.int .i64 (k:Int)/\Z.map (·.1)=frK (wrap64 (e+1)) l k/\RowG (w.heap.size+2) wr g l.length cap Z/\Blk wr w3.heap.size 36 [.int .i64 (wrap64 (e+1)),.slice (some ⟨g,0,none⟩) l.length cap]/\Blk wr (w.heap.size+1) 36 [.int .i64 0,.slice none 0 0]/\Below w.heap.size w wr) (fun iv _=>l.length - (intOf iv).toNat)
  case atStart=>exact ⟨0,Z,by omega,rfl,by rw [frK_zero];exact HZ.out,by rw [<- hs2];exact HG4.out,M4.out,K4.out,HB4.out⟩
  case round =>
    obtain ⟨k,Y,hk,rfl,hY,hG,m,kr,hb⟩:=hrel
    clear M4 K4 HB4 HG4 HZ d0 d1 hw4
    have hYl:=hG.len
    have hcap:=hG.caps
    by_cases hlt:k < l.length
    · have hkY:k < Y.length:=by omega
      have hYk:Y[k].1=l[k]:=by rw [fst_get hY k hkY (by rw [frK_len];exact hlt),frK_at _ _ _ hlt]
      obtain ⟨c0,c1,c2,c3,c4⟩:=hG.at k hkY
      have hown:=hG.lvs.own k hkY
      have hlen:=Hall.out l[k] (List.getElem_mem _)
      have Hnx:=hide (frK_next (wrap64 (e+1)) l k hlt)
      rw [<- hYk] at Hnx hlen
      have hshape:=hown.rd.shape
      obtain ⟨q,hq⟩:∃ q,Y[k]=q:=⟨_,rfl⟩
      rw [hq] at c0 c1 c2 c3 c4 hown hlen Hnx hshape
      obtain ⟨⟨nm,fr,no,st,ls⟩,lv⟩:=q
      simp only at c0 c1 c2 c3 c4 hown hlen Hnx hshape
      obtain ⟨av',cv',rfl⟩:=hshape
      have hli:(k:Int) < (l.length:Int):=by omega
      have hgl:=hG.lt
      obtain ⟨w5,hw5⟩:∃ w5,wr.alloc (.cells #[.string nm,.int .i64 fr,.int .i64 no,.int .i64 st,.slice av' ls.length cv'] 122)=w5:=⟨_,rfl⟩
      have hb5:Below wr.heap.size wr w5.drew:=by rw [<- hw5];exact ((Below.refl _ wr).alloc (Nat.le_refl _) _).drew
      have m5:Blk w5.drew w3.heap.size 36 [.int .i64 (wrap64 (e+1)),.slice (some ⟨g,0,none⟩) l.length cap]:=m.below hb5 m.lt
      have kr5:Blk w5.drew (w.heap.size+1) 36 [.int .i64 0,.slice none 0 0]:=kr.below hb5 kr.lt
      have n5:Blk w5.drew wr.heap.size 122 [.string nm,.int .i64 fr,.int .i64 no,.int .i64 st,.slice av' ls.length cv']:=by rw [<- hw5];exact Blk.new wr _ _
      have hG5:=hG.below hb5 (Nat.le_refl _)
      have ho5:=hown.below hb5 (Nat.le_refl _)
      have hB5:=hb.trans (hb5.mono hb.size)
      have HF:=hide (implFreed_any (nm,fr,no,st,ls) (.slice av' ls.length cv') (wrap64 (e+1)) w5.drew ho5.rd hlen)
      simp only [acV,frA] at HF
      have hml:=m.lt
      have hmb:=hb.size
      have Hm5:=hide m5
      have Hkr5:=hide kr5
      have Hn5:=hide n5
      have HG5:=hide hG5
      have HB5:=hide hB5
      have HQ:=hide hq
      have HSx:Hid (∀ W,Blk W w3.heap.size 36 [.int .i64 (wrap64 (e+1)),.slice (some ⟨g,0,none⟩) l.length cap]->Blk W wr.heap.size 122 [.string nm,.int .i64 fr,.int .i64 no,.int .i64 st,.slice av' ls.length cv']->W.cell? ⟨w3.heap.size,0,none⟩=some (.int .i64 (wrap64 (e+1)))/\W.cell? ⟨w3.heap.size,1,none⟩=some (.slice (some ⟨g,0,none⟩) l.length cap)/\W.cell? ⟨wr.heap.size,0,none⟩=some (.string nm)/\W.cell? ⟨wr.heap.size,1,none⟩=some (.int .i64 fr)/\W.cell? ⟨wr.heap.size,2,none⟩=some (.int .i64 no)/\W.cell? ⟨wr.heap.size,3,none⟩=some (.int .i64 st)/\W.cell? ⟨wr.heap.size,4,none⟩=some (.slice av' ls.length cv')):=hide (fun W h1 h2=>⟨h1.cell 0,h1.cell 1,h2.cell 0,h2.cell 1,h2.cell 2,h2.cell 3,h2.cell 4⟩)
      have hS5:=HSx.out _ m5 n5
      clear hq hG hown hb m kr m5 kr5 n5 hG5 ho5 hB5
      go_wp2
      go_region_held_law (fun w'=>w'.cell? ⟨w3.heap.size,0,none⟩=some (.int .i64 (wrap64 (e+1)))/\w'.cell? ⟨w3.heap.size,1,none⟩=some (.slice (some ⟨g,0,none⟩) l.length cap)/\w'.cell? ⟨wr.heap.size,0,none⟩=some (.string nm)/\w'.cell? ⟨wr.heap.size,1,none⟩=some (.int .i64 fr)/\w'.cell? ⟨wr.heap.size,2,none⟩=some (.int .i64 no)/\w'.cell? ⟨wr.heap.size,3,none⟩=some (.int .i64 st)/\w'.cell? ⟨wr.heap.size,4,none⟩=some (.slice av' ls.length cv')) (first | with_reducible exact hS5 | with_reducible exact hS6 | with_reducible exact HSx.out _ (Hm6.out.other5 _ _ _ _ _ _ _ (by omega)) (Hn6.out.other5 _ _ _ _ _ _ _ (by omega))) ((go_at_call 132;refine HF.out.mono ?_;rintro en w6 ⟨lv',rfl,ho6,hb6⟩;have hsh:=ho6.rd.shape;obtain ⟨a6,cv6,hv6⟩:=hsh;subst hv6;have Hm6:=hide (Hm5.out.below hb6 Hm5.out.lt);have Hn6:=hide (Hn5.out.below hb6 Hn5.out.lt);have HG6:=hide (HG5.out.below hb6 (Nat.le_refl _));have hS6:=HSx.out _ Hm6.out Hn6.out;have hat6:=HG6.out.at k hkY;rw [HQ.out] at hat6;have q0:=hat6.c0;have q1:=hat6.c1;have q2:=hat6.c2;have q3:=hat6.c3;have q4:=hat6.c4;simp only at q0 q1 q2 q3 q4;have f0:=HG6.out.frozen (k * 5);have f1:=HG6.out.frozen (k * 5+1);have f2:=HG6.out.frozen (k * 5+2);have f3:=HG6.out.frozen (k * 5+3);have f4:=HG6.out.frozen (k * 5+4);clear hat6))
      have hge6:=ho6.ge
      have hz5:w5.drew.heap.size=wr.heap.size+1:=by rw [<- hw5];simp
      have HP:=hide (HG6.out.put5 k hkY ((nm,frF (wrap64 (e+1)) fr ls,no,st,stL (wrap64 (e+1)) ls),.slice a6 (stL (wrap64 (e+1)) ls).length cv6) (ho6.mono (by omega)) (fun b hb=>by have:=hge6 b hb;omega) (fun i hi _ b hb e=>by have:=(HG5.out.lvs.own i hi).lt b hb;have:=hge6 b e;omega))
      have HB6:=hide (below_set5 (HB5.out.trans (hb6.mono HB5.out.size)) g (k * 5) (.string nm) (.int .i64 (frF (wrap64 (e+1)) fr ls)) (.int .i64 no) (.int .i64 st) (.slice a6 (stL (wrap64 (e+1)) ls).length cv6) (by omega))
      have Hm7:=hide (Hm6.out.other5 g (k * 5) (.string nm) (.int .i64 (frF (wrap64 (e+1)) fr ls)) (.int .i64 no) (.int .i64 st) (.slice a6 (stL (wrap64 (e+1)) ls).length cv6) (by omega))
      have Hk7:=hide ((Hkr5.out.below hb6 Hkr5.out.lt).other5 g (k * 5) (.string nm) (.int .i64 (frF (wrap64 (e+1)) fr ls)) (.int .i64 no) (.int .i64 st) (.slice a6 (stL (wrap64 (e+1)) ls).length cv6) (by omega))
      have HY2:Hid ((Y.set k ((nm,frF (wrap64 (e+1)) fr ls,no,st,stL (wrap64 (e+1)) ls),.slice a6 (stL (wrap64 (e+1)) ls).length cv6)).map (·.1)=frK (wrap64 (e+1)) l (k+1)):=hide (by rw [fst_set,hY];exact Hnx.out)
      clear ho6 hb6 hS6 hS5 HG6 Hm6 Hn6 hge6
      go_wp2
      go_roundw
      case rel=>exact ⟨k+1,_,by omega,by go_num,HY2.out,HP.out,Hm7.out,Hk7.out,HB6.out⟩
      case measure=>simp [intOf];omega
    · have ek:k=l.length:=by omega
      subst ek
      rw [frK_all] at hY
      have hG:=RowG.own hG
      rw [hY] at hG
      have d0:=m.cell 0
      have d1:=m.cell 1
      have r0:=kr.cell 0
      have r1:=kr.cell 1
      have g0:=kr.frozen 0
      have g1:=kr.frozen 1
      simp only [List.getElem?_cons_zero,List.getElem?_cons_succ] at d0 d1 r0 r1
      have hml:=m.lt
      have Ho:=hide (((hG.older (g:=w.heap.size+1) (by omega) 0 (.int .i64 (wrap64 (e+1)))).older (g:=w.heap.size+1) (by omega) 1 (.slice (some ⟨g,0,none⟩) l.length cap)).mono (show w.heap.size<=_ by omega))
      have HB:=hide ((hb.setCell (p:=⟨w.heap.size+1,0,none⟩) (show w.heap.size<=w.heap.size+1 by omega) (.int .i64 (wrap64 (e+1)))).setCell (p:=⟨w.heap.size+1,1,none⟩) (show w.heap.size<=w.heap.size+1 by omega) (.slice (some ⟨g,0,none⟩) l.length cap))
      clear hG hb m kr
      go_wp2
      refine bodyPost_ret (v:=.agg #[.int .i64 (wrap64 (e+1)),.slice (some ⟨g,0,none⟩) l.length cap]) (by simp [results,Tryz.f104,go_sem,r0,r1]) rfl ?_
      exact ⟨_,rfl,Ho.out,HB.out⟩
theorem implNext_any (e:Int) (v:Value) (l:List Ac) (w:World) (hr:RdA w v l) (hl:l.length<=4000000) (hall:∀ a ∈ l,a.1.size<=maxLen/\a.2.2.2.2.length<=4000000) :
    Calls Tryz.prog 62 #[lgV e v] w fun en w'=>∃ v',en=.returned (lgV (neA e l).1 v')/\OwnA w.heap.size w' v' (neA e l).2/\Below w.heap.size w w':=by
  obtain ⟨av,cv,rfl⟩:=hr.shape
  have hall2:∀ a ∈ l,a.2.2.2.2.length<=4000000:=fun a ha=>(hall a ha).2
  have hfa:=fr_all (wrap64 (e+1)) l hall
  obtain ⟨w2,hw2⟩:∃ w2,(w.alloc (.cells #[.int .i64 e,.slice av l.length cv] 36)).alloc (.cells #[.int .i64 0,.slice none 0 0] 36)=w2:=⟨_,rfl⟩
  have hs2:w2.heap.size=w.heap.size+2:=by rw [<- hw2];simp
  have hb2:Below w.heap.size w w2:=by rw [<- hw2];exact ((Below.refl _ w).alloc (Nat.le_refl _) _).alloc (by simp) _
  have k1:Blk w2 w.heap.size 36 [.int .i64 e,.slice av l.length cv]:=by
    rw [<- hw2]
    exact (Blk.new w 36 [.int .i64 e,.slice av l.length cv]).alloc _
  have k2:Blk w2 (w.heap.size+1) 36 [.int .i64 0,.slice none 0 0]:=by
    rw [<- hw2]
    have h:=Blk.new (w.alloc (.cells #[.int .i64 e,.slice av l.length cv] 36)) 36 [.int .i64 0,.slice none 0 0]
    simp only [World.size_alloc] at h
    exact h
  have c0:=k1.cell 0
  have c1:=k1.cell 1
  simp only [List.getElem?_cons_zero,List.getElem?_cons_succ] at c0 c1
  have r2:=hr.below hb2 (Nat.le_refl _)
  have HC:=hide (implBehindL_any e _ l w2 r2 hl hall2)
  have HO:=hide (fun w hr=>implLedgerOk_any e (.slice av l.length cv) l w hr hl hall)
  have HN:=hide (fun v w hr=>implLedgerOk_any (wrap64 (e+1)) v (l.map (frA (wrap64 (e+1)))) w hr (by simpa using hl) hfa)
  have HD:=hide (fun w hr=>implCopiedLg_any e (.slice av l.length cv) l w hr hl hall2)
  simp only [lgV] at HC HO HN HD ⊢
  have Hb2:=hide hb2
  have K1:=hide k1
  have K2:=hide k2
  have Hr2:=hide r2
  clear hr hb2 k1 k2 hall hall2 hfa r2
  go_enter Tryz.func62,Tryz.ntmps62
  go_wp2_with fail
  refine HC.out.mono ?_
  rintro en w3 ⟨v3,rfl,ho3,hb3⟩
  have hB3:=Hb2.out.trans (hb3.mono Hb2.out.size)
  have hs3:=hb3.size
  obtain ⟨a3,cv3,rfl⟩:=ho3.rd.shape
  obtain ⟨n,hn⟩:∃ n,(l.map (frA (wrap64 (e+1)))).length=n:=⟨_,rfl⟩
  rw [hn] at ho3
  obtain ⟨w4,hw4⟩:∃ w4,w3.alloc (.cells #[.int .i64 (wrap64 (e+1)),.slice a3 n cv3] 36)=w4:=⟨_,rfl⟩
  have b4:Below w3.heap.size w3 w4:=by rw [<- hw4];exact (Below.refl _ w3).alloc (Nat.le_refl _) _
  have hB4:Below w.heap.size w w4:=hB3.trans (b4.mono hB3.size)
  have n4:Blk w4 w3.heap.size 36 [.int .i64 (wrap64 (e+1)),.slice a3 n cv3]:=by rw [<- hw4];exact Blk.new w3 _ _
  have k14:=(K1.out.below hb3 K1.out.lt).below b4 (K1.out.below hb3 K1.out.lt).lt
  have k24:=(K2.out.below hb3 K2.out.lt).below b4 (K2.out.below hb3 K2.out.lt).lt
  have o4:=ho3.below b4 (Nat.le_refl _)
  have r4:=(Hr2.out.below hb3 (Nat.le_refl _)).below b4 (Nat.le_refl _)
  have hs4:w4.heap.size=w3.heap.size+1:=by rw [<- hw4];simp
  rw [hn]
  have d0:=k14.cell 0
  have d1:=k14.cell 1
  simp only [List.getElem?_cons_zero,List.getElem?_cons_succ] at d0 d1
  have Hno:Hid (lgB e l=false->neA e l=(e,l)):=hide neA_old
  have Hno2:Hid (lgB (wrap64 (e+1)) (l.map (frA (wrap64 (e+1))))=false->neA e l=(e,l)):=hide neA_new
  have Hyes:Hid (lgB e l=true->lgB (wrap64 (e+1)) (l.map (frA (wrap64 (e+1))))=true->neA e l=(wrap64 (e+1),l.map (frA (wrap64 (e+1))))):=hide neA_yes
  clear c0 c1 K1 K2 HC hb3 hB3 ho3 b4 Hr2
  go_wp2_with fail
  refine (HO.out _ r4).mono ?_
  rintro en w5 ⟨rfl,hb5⟩
  have hB5:Below w.heap.size w w5:=hB4.trans (hb5.mono hB4.size)
  have k15:=k14.below hb5 k14.lt
  have k25:=k24.below hb5 k24.lt
  have n5:=n4.below hb5 n4.lt
  have o5:=o4.below hb5 (Nat.le_refl _)
  have r5:=r4.below hb5 (Nat.le_refl _)
  clear d0 d1 k14 k24 n4 o4 r4 hB4
  cases h1:lgB e l
  · have Hne:=hide (Hno.out h1)
    have d0:=k15.cell 0
    have d1:=k15.cell 1
    simp only [List.getElem?_cons_zero,List.getElem?_cons_succ] at d0 d1
    clear Hno Hno2 Hyes h1
    go_wp2_with fail
    refine (HD.out _ r5).mono ?_
    rintro en w6 ⟨v6,rfl,ho6,hb6⟩
    have k26:=k25.below hb6 k25.lt
    obtain ⟨a6,cv6,rfl⟩:=ho6.rd.shape
    have r0:=k26.cell 0
    have r1:=k26.cell 1
    have g0:=k26.frozen 0
    have g1:=k26.frozen 1
    simp only [List.getElem?_cons_zero,List.getElem?_cons_succ] at r0 r1
    have hz5:=hb5.size
    have Ho:=hide (((ho6.older (g:=w.heap.size+1) (by omega) 0 (.int .i64 e)).older (g:=w.heap.size+1) (by omega) 1 (.slice a6 l.length cv6)).mono (show w.heap.size<=_ by omega))
    have HB:=hide (((hB5.trans (hb6.mono hB5.size)).setCell (p:=⟨w.heap.size+1,0,none⟩) (show w.heap.size<=w.heap.size+1 by omega) (.int .i64 e)).setCell (p:=⟨w.heap.size+1,1,none⟩) (show w.heap.size<=w.heap.size+1 by omega) (.slice a6 l.length cv6))
    clear ho6 hb6 k26
    go_wp2
    refine bodyPost_ret (v:=.agg #[.int .i64 e,.slice a6 l.length cv6]) (by simp [results,Tryz.f62,go_sem,r0,r1]) rfl ?_
    rw [Hne.out]
    exact ⟨_,rfl,Ho.out,HB.out⟩
  · have d0:=n5.cell 0
    have d1:=n5.cell 1
    simp only [List.getElem?_cons_zero,List.getElem?_cons_succ] at d0 d1
    have Hyes:=hide (Hyes.out h1)
    clear Hno h1
    go_wp2_with fail
    refine (HN.out _ _ o5.rd).mono ?_
    rintro en w7 ⟨rfl,hb7⟩
    have hB7:Below w.heap.size w w7:=hB5.trans (hb7.mono hB5.size)
    have k17:=k15.below hb7 k15.lt
    have k27:=k25.below hb7 k25.lt
    have n7:=n5.below hb7 n5.lt
    have o7:=o5.below hb7 (Nat.le_refl _)
    have r7:=r5.below hb7 (Nat.le_refl _)
    have hz7:=hb7.size
    clear d0 d1 k15 k25 n5 o5 r5
    cases h2:lgB (wrap64 (e+1)) (l.map (frA (wrap64 (e+1))))
    · have Hne:=hide (Hno2.out h2)
      have d0:=k17.cell 0
      have d1:=k17.cell 1
      simp only [List.getElem?_cons_zero,List.getElem?_cons_succ] at d0 d1
      clear Hno2 Hyes h2
      go_wp2_with fail
      refine (HD.out _ r7).mono ?_
      rintro en w6 ⟨v6,rfl,ho6,hb6⟩
      have k26:=k27.below hb6 k27.lt
      obtain ⟨a6,cv6,rfl⟩:=ho6.rd.shape
      have r0:=k26.cell 0
      have r1:=k26.cell 1
      have g0:=k26.frozen 0
      have g1:=k26.frozen 1
      simp only [List.getElem?_cons_zero,List.getElem?_cons_succ] at r0 r1
      have hz5:=hb5.size
      have Ho:=hide (((ho6.older (g:=w.heap.size+1) (by omega) 0 (.int .i64 e)).older (g:=w.heap.size+1) (by omega) 1 (.slice a6 l.length cv6)).mono (show w.heap.size<=_ by omega))
      have HB:=hide (((hB7.trans (hb6.mono hB7.size)).setCell (p:=⟨w.heap.size+1,0,none⟩) (show w.heap.size<=w.heap.size+1 by omega) (.int .i64 e)).setCell (p:=⟨w.heap.size+1,1,none⟩) (show w.heap.size<=w.heap.size+1 by omega) (.slice a6 l.length cv6))
      clear ho6 hb6 k26
      go_wp2
      refine bodyPost_ret (v:=.agg #[.int .i64 e,.slice a6 l.length cv6]) (by simp [results,Tryz.f62,go_sem,r0,r1]) rfl ?_
      rw [Hne.out]
      exact ⟨_,rfl,Ho.out,HB.out⟩
    · have Hne:=hide (Hyes.out h2)
      have d0:=n7.cell 0
      have d1:=n7.cell 1
      have r0:=k27.cell 0
      have r1:=k27.cell 1
      have g0:=k27.frozen 0
      have g1:=k27.frozen 1
      simp only [List.getElem?_cons_zero,List.getElem?_cons_succ] at d0 d1 r0 r1
      have hz5:=hb5.size
      have Ho:=hide (((o7.older (g:=w.heap.size+1) (by omega) 0 (.int .i64 (wrap64 (e+1)))).older (g:=w.heap.size+1) (by omega) 1 (.slice a3 n cv3)).mono (show w.heap.size<=_ by omega))
      have HB:=hide ((hB7.setCell (p:=⟨w.heap.size+1,0,none⟩) (show w.heap.size<=w.heap.size+1 by omega) (.int .i64 (wrap64 (e+1)))).setCell (p:=⟨w.heap.size+1,1,none⟩) (show w.heap.size<=w.heap.size+1 by omega) (.slice a3 n cv3))
      clear Hno2 Hyes h2 o7 r7 k17 k27 n7
      go_wp2
      refine bodyPost_ret (v:=.agg #[.int .i64 (wrap64 (e+1)),.slice a3 n cv3]) (by simp [results,Tryz.f62,go_sem,r0,r1]) rfl ?_
      rw [Hne.out]
      exact ⟨_,rfl,Ho.out,HB.out⟩
end Go.Proofs.YthehfkafcdociaaGreatDoor
