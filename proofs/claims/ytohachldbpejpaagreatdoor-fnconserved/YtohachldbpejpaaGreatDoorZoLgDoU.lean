/- The model's order by which what is at stake leaves, done. -/
import Derived.Test.YtohachldbpejpaaGreatDoorZoLgDoS
set_option maxRecDepth 20000
set_option maxHeartbeats 2000000
namespace Go.Proofs.YtohachldbpejpaaGreatDoor
open Go.RowKit
set_option linter.unusedVariables false
theorem specDoU_any (e:Int) (v:Value) (l:List Ac) (t:Tx5) (k:Nat) (w:World) (hr:RdA w v l) (hl:l.length<=3999999) (hall:∀ a ∈ l,a.1.size<=maxLen/\a.2.2.2.2.length<=3999999) (hkd:t.1=3) (hk:k < l.length) (hasc:AscA l) :
    Calls Tryz.prog 156 #[lgV e v,txV t,.int .i64 (k:Int)] w fun en w'=>∃ v',en=.returned (lgV e v')/\OwnA w.heap.size w' v' (doA e t l k)/\Below w.heap.size w w':=by
  obtain ⟨av,cv,rfl⟩:=hr.shape
  have hall2:∀ a ∈ l,a.2.2.2.2.length<=4000000:=fun a ha=>by have:=hall a ha;omega
  obtain ⟨kd,fm,tO,am,nc⟩:=t
  obtain ⟨w1,hw1⟩:∃ w1,w.alloc (.cells #[.int .i64 e,.slice av l.length cv] 26)=w1:=⟨_,rfl⟩
  obtain ⟨w2,hw2⟩:∃ w2,w1.alloc (.cells #[.int .i64 kd,.string fm,.string tO,.int .i64 am,.int .i64 nc] 35)=w2:=⟨_,rfl⟩
  obtain ⟨w3,hw3⟩:∃ w3,w2.alloc (.cells #[.int .i64 0,.slice none 0 0] 26)=w3:=⟨_,rfl⟩
  have s1:w1.heap.size=w.heap.size+1:=by rw [<- hw1];simp
  have s2:w2.heap.size=w.heap.size+1+1:=by rw [<- hw2];simp;omega
  have s3:w3.heap.size=w.heap.size+1+1+1:=by rw [<- hw3];simp;omega
  have hB3:Below w.heap.size w w3:=by rw [<- hw3,<- hw2,<- hw1];exact (((Below.refl _ w).alloc (Nat.le_refl _) _).alloc (by simp) _).alloc (by simp;omega) _
  have kL:Blk w3 w.heap.size 26 [.int .i64 e,.slice av l.length cv]:=by rw [<- hw3,<- hw2,<- hw1];exact ((Blk.new w _ _).alloc _).alloc _
  have kT:Blk w3 (w.heap.size+1) 35 [.int .i64 kd,.string fm,.string tO,.int .i64 am,.int .i64 nc]:=by
    rw [<- hw3,<- hw2,<- s1]
    exact (Blk.new w1 _ _).alloc _
  have kR:Blk w3 (w.heap.size+1+1) 26 [.int .i64 0,.slice none 0 0]:=by rw [<- hw3,<- s2];exact Blk.new w2 _ _
  have HD:=hide (specL6Copy_any e (.slice av l.length cv) l w3 (hr.below hB3 (Nat.le_refl _)) (by omega) hall2)
  have Hall:=hide hall
  have Hasc:=hide hasc
  simp only [lgV,txV] at HD ⊢
  have l0:=kL.cell 0
  have l1:=kL.cell 1
  simp only [List.getElem?_cons_zero,List.getElem?_cons_succ] at l0 l1
  clear hall hall2 hasc hr
  go_enter Tryz.func156,Tryz.ntmps156
  go_wp2_with fail
  refine HD.out.mono ?_
  rintro en w4 ⟨v4,rfl,o4,hb4⟩
  have hB4:Below w.heap.size w w4:=hB3.trans (hb4.mono hB3.size)
  replace kL:=kL.below hb4 kL.lt
  replace kT:=kT.below hb4 kT.lt
  replace kR:=kR.below hb4 kR.lt
  obtain ⟨g,cap,Z,rfl,hZ,hG⟩:=o4.rowG
  have hgl:=hG.lt
  have hlo:∀ i (hi:i < Z.length) r,Z[i].2.ownBlock=some r->r < w4.heap.size:=fun i hi r hr=>(hG.lvs.own i hi).lt r hr
  obtain ⟨w5,hw5⟩:∃ w5,w4.alloc (.cells #[.int .i64 e,.slice (some ⟨g,0,none⟩) l.length cap] 26)=w5:=⟨_,rfl⟩
  have hb5:Below w4.heap.size w4 w5:=by rw [<- hw5];exact (Below.refl _ w4).alloc (Nat.le_refl _) _
  have kF:Blk w5 w4.heap.size 26 [.int .i64 e,.slice (some ⟨g,0,none⟩) l.length cap]:=by rw [<- hw5];exact Blk.new w4 _ _
  have s5:w5.heap.size=w4.heap.size+1:=by rw [<- hw5];simp
  have hB5:Below w.heap.size w w5:=hB4.trans (hb5.mono hB4.size)
  replace kL:=kL.below hb5 kL.lt
  replace kT:=kT.below hb5 kT.lt
  replace kR:=kR.below hb5 kR.lt
  have hG5:=hG.below hb5 (Nat.le_refl _)
  have hkZ:k < Z.length:=by have:=hG5.len;omega
  have hZk:Z[k].1=l[k]:=fst_get hZ k hkZ hk
  have hlen:=Hall.out l[k] (List.getElem_mem _)
  obtain ⟨c0,c1,c2,c3,c4⟩:=hG5.at k hkZ
  have hown:=hG5.lvs.own k hkZ
  have hshape:=hown.rd.shape
  obtain ⟨q,hq⟩:∃ q,Z[k]=q:=⟨_,rfl⟩
  have hlk:l[k]=q.1:=by rw [<- hZk,hq]
  rw [<- hZk] at hlen
  rw [hq] at c0 c1 c2 c3 c4 hown hshape hlen
  obtain ⟨⟨nm,fr,no,st,ls⟩,lv⟩:=q
  simp only at c0 c1 c2 c3 c4 hown hshape hlen hlk
  obtain ⟨av',cv',rfl⟩:=hshape
  have hki:(k:Int) < (l.length:Int):=by omega
  have hcap:=hG5.caps
  have f0:=kF.cell 0
  have f1:=kF.cell 1
  have t0:=kT.cell 0
  have t2:=kT.cell 2
  have t3:=kT.cell 3
  have l0:=kL.cell 0
  have q1:=hG5.frozen (k * 5+1)
  have q2:=hG5.frozen (k * 5+2)
  have q3:=hG5.frozen (k * 5+3)
  have q4:=hG5.frozen (k * 5+4)
  simp only [List.getElem?_cons_zero,List.getElem?_cons_succ] at f0 f1 t0 t2 t3 l0
  have hiS:∀ q:Ac × Value,k < (Z.set k q).length:=fun q=>by simpa using hkZ
  obtain ⟨w6,hw6⟩:∃ w6,w5.setCell ⟨g,k * 5+2,none⟩ (.int .i64 (wrap64 (no+1)))=w6:=⟨_,rfl⟩
  have hG6:RowG w3.heap.size w6 g l.length cap (Z.set k ((nm,fr,wrap64 (no+1),st,ls),.slice av' ls.length cv')):=by
    rw [<- hw6]
    exact hG5.put k hkZ 2 (by omega) _ _ (by rw [hq];rfl) (by rw [hq];rfl)
  have m6:∀ {B:Nat} {t:TypeId} {cs:List Value},Blk w5 B t cs->B ≠ g->Blk w6 B t cs:=fun h hne=>by rw [<- hw6];exact h.other _ _ _ hne
  have kT6:=m6 kT (by omega)
  have kR6:=m6 kR (by omega)
  have kF6:=m6 kF (by omega)
  have kL6:=m6 kL (by omega)
  have hB6:Below w.heap.size w w6:=by rw [<- hw6];exact hB5.setCell (p:=⟨g,k * 5+2,none⟩) (show w.heap.size<=g by omega) _
  obtain ⟨d0,d1,d2,d3,d4⟩:=hG6.at k (hiS _)
  rw [set_get] at d0 d1 d2 d3 d4
  have e0:=kF6.cell 0
  have e1:=kF6.cell 1
  have u0:=kT6.cell 0
  have u2:=kT6.cell 2
  have u3:=kT6.cell 3
  have y0:=kL6.cell 0
  have p1:=hG6.frozen (k * 5+1)
  have p3:=hG6.frozen (k * 5+3)
  have p4:=hG6.frozen (k * 5+4)
  simp only [List.getElem?_cons_zero,List.getElem?_cons_succ] at d0 d1 d2 d3 d4 e0 e1 u0 u2 u3 y0
  have HG6:=hide hG6
  have KT6:=hide kT6
  have KR6:=hide kR6
  have KF6:=hide kF6
  have KL6:=hide kL6
  have HB6:=hide hB6
  have HZ:=hide hZ
  have Hlk:=hide hlk
  have z6:w6.heap.size=w5.heap.size:=by rw [<- hw6];simp
  have z4:=hb4.size
  clear hG6 kT6 kR6 kF6 kL6 hB6 hG5 kT kR kF kL hB5 hG o4 m6 hZ hlk hown HD
  obtain rfl:kd=3:=hkd
  have hG6:=HG6.out
  have kT6:=KT6.out
  have kR6:=KR6.out
  have kF6:=KF6.out
  have kL6:=KL6.out
  have hB6:=HB6.out
  obtain ⟨w7,hw7⟩:∃ w7,(w6.setCell ⟨g,k * 5+3,none⟩ (.int .i64 (wrap64 (st - am)))).drew=w7:=⟨_,rfl⟩
  have hG7:RowG w3.heap.size w7 g l.length cap (Z.set k ((nm,fr,wrap64 (no+1),wrap64 (st - am),ls),.slice av' ls.length cv')):=by
    have h:=hG6.put k (hiS _) 3 (by omega) (.int .i64 (wrap64 (st - am))) ((nm,fr,wrap64 (no+1),wrap64 (st - am),ls),.slice av' ls.length cv') (by rw [set_get];rfl) (by rw [set_get];rfl)
    rw [List.set_set] at h
    rw [<- hw7]
    exact h.below (Below.refl _ _).drew (Nat.le_refl _)
  have m7:∀ {B:Nat} {t:TypeId} {cs:List Value},Blk w6 B t cs->B ≠ g->Blk w7 B t cs:=fun h hne=>by rw [<- hw7];have hh:=h.other g (k * 5+3) (.int .i64 (wrap64 (st - am))) hne;exact hh
  have kT7:=m7 kT6 (by omega)
  have kR7:=m7 kR6 (by omega)
  have kF7:=m7 kF6 (by omega)
  have kL7:=m7 kL6 (by omega)
  have hB7:Below w.heap.size w w7:=by rw [<- hw7];exact (hB6.setCell (p:=⟨g,k * 5+3,none⟩) (show w.heap.size<=g by omega) _).drew
  have z7:w7.heap.size=w6.heap.size:=by rw [<- hw7];simp
  obtain ⟨v0,v1,v2,v3,v4⟩:=hG7.at k (hiS _)
  rw [set_get] at v0 v1 v2 v3 v4
  have x4:=hG7.frozen (k * 5+4)
  have u13:=kT7.cell 3
  have y10:=kL7.cell 0
  simp only [List.getElem?_cons_zero,List.getElem?_cons_succ] at v0 v1 v2 v3 v4 u13 y10
  go_wp2
  refine region_tail 8 (by kernel_rfl) (by kernel_rfl) ?_
  simp only [List.take_succ_cons,List.take_zero,List.drop_succ_cons,List.drop_zero]
  repeat still_step
  refine wpStill_nil ?_
  have hown7:=hG7.lvs.own k (hiS _)
  rw [set_get] at hown7
  have hwr:wrap64 (e+2)=IntKind.i64.wrap (e+2):=by rw [IntKind.wrap_i64];unfold wrap64;rfl
  have HLv:Hid (∀ W,Below w7.heap.size w7 W->Calls Tryz.prog 202 #[.slice av' ls.length cv',.int .i64 am,.int .i64 (IntKind.i64.wrap (e+2))] W fun en w'=>∃ v',en=.returned v'/\OwnL W.heap.size w' v' (lvP am (wrap64 (e+2)) ls)/\Below W.heap.size W w'/\Below w7.heap.size w7 w'/\w7.heap.size<=W.heap.size):=hide (fun W hb=>hwr ▸ (specL6Leave_any (.slice av' ls.length cv') ls am (wrap64 (e+2)) W (hown7.rd.below hb (Nat.le_refl _)) (by omega)).mono (fun en w' ⟨v',h1,h2,h3⟩=>⟨v',h1,h2,h3,hb.trans (h3.mono hb.size),hb.size⟩))
  have HG7:=hide hG7
  have KR7:=hide kR7
  have KF7:=hide kF7
  have HB7:=hide hB7
  clear hwr hG6 hG7 kT6 kT7 kR6 kR7 kF6 kF7 kL6 kL7 hB6 hB7 m7 hown7
  go_wp2
  go_region_law ((go_simp;go_at_call 202;refine (HLv.out _ (by first | exact Below.refl _ _ | exact (Below.refl _ _).drew | exact below_drewN (Below.refl _ _) _)).mono ?_;rintro en w8 ⟨v8,rfl,o8,hb8,b8,z8⟩;have hsh:=o8.rd.shape;obtain ⟨a8,c8,hv8⟩:=hsh;subst hv8;have hG8:=HG7.out.below b8 (Nat.le_refl _);have x8:=(hG8.at k (hiS _)).c4;rw [set_get] at x8;have x8f:=hG8.frozen (k * 5+4);simp only at x8))
  all_goals
    have hge:=o8.ge
    have zz7:w7.drew.heap.size=w7.heap.size:=rfl
    have hG9:=hG8.putL k (hiS _) ((nm,fr,wrap64 (no+1),wrap64 (st - am),lvP am (wrap64 (e+2)) ls),.slice a8 (lvP am (wrap64 (e+2)) ls).length c8) (by rw [set_get];rfl) (o8.mono (by omega)) (fun r hr=>by have:=hge r hr;omega) (fun i hi hik r hr e=>by have h3:=(HG7.out.lvs.own i hi).lt r hr;have:=hge r e;omega)
    rw [List.set_set] at hG9
    have kR8:=KR7.out.below b8 KR7.out.lt
    have kF8:=KF7.out.below b8 KF7.out.lt
    have hB8:=HB7.out.trans (b8.mono HB7.out.size)
    obtain ⟨w9,hw9⟩:∃ w9,w8.setCell ⟨g,k * 5+4,none⟩ (.slice a8 (lvP am (wrap64 (e+2)) ls).length c8)=w9:=⟨_,rfl⟩
    have kR9:Blk w9 (w.heap.size+1+1) 26 [.int .i64 0,.slice none 0 0]:=by rw [<- hw9];exact kR8.other _ _ _ (by omega)
    have kF9:Blk w9 w4.heap.size 26 [.int .i64 e,.slice (some ⟨g,0,none⟩) l.length cap]:=by rw [<- hw9];exact kF8.other _ _ _ (by omega)
    have hB9:Below w.heap.size w w9:=by rw [<- hw9];exact hB8.setCell (p:=⟨g,k * 5+4,none⟩) (show w.heap.size<=g by omega) _
    rw [hw9] at hG9
    have o9:=hG9.own
    have hdo:l.set k (nm,fr,wrap64 (no+1),wrap64 (st - am),lvP am (wrap64 (e+2)) ls)=doA e (3,fm,tO,am,nc) l k:=by
      unfold doA
      rw [if_neg (show ¬ (3:Int)=1 by decide),getD_at l k hk,Hlk.out]
      rfl
    rw [fst_set,HZ.out,hdo] at o9
    have r0:=kR9.cell 0
    have r1:=kR9.cell 1
    have g0:=kR9.frozen 0
    have g1:=kR9.frozen 1
    have i0:=kF9.cell 0
    have i1:=kF9.cell 1
    simp only [List.getElem?_cons_zero,List.getElem?_cons_succ] at r0 r1 i0 i1
    have HBx:=hide ((hB9.setCell (p:=⟨w.heap.size+1+1,0,none⟩) (show w.heap.size<=w.heap.size+1+1 by omega) (.int .i64 e)).setCell (p:=⟨w.heap.size+1+1,1,none⟩) (show w.heap.size<=w.heap.size+1+1 by omega) (.slice (some ⟨g,0,none⟩) l.length cap))
    have HOx:=hide (((o9.older (g:=w.heap.size+1+1) (by omega) 0 (.int .i64 e)).older (g:=w.heap.size+1+1) (by omega) 1 (.slice (some ⟨g,0,none⟩) l.length cap)).mono (show w.heap.size<=_ by omega))
    rw [hw9]
    clear hG8 hG9 kR8 kF8 hB8 kR9 kF9 hB9 o8 o9 hdo hge x8 x8f v0 v1 v2 v3 v4 hw9
    go_wp2
    refine bodyPost_ret (v:=.agg #[.int .i64 e,.slice (some ⟨g,0,none⟩) l.length cap]) (by simp [results,Tryz.f156,go_sem,r0,r1]) rfl ?_
    exact ⟨_,rfl,HOx.out,HBx.out⟩
theorem specDo_any (e:Int) (v:Value) (l:List Ac) (t:Tx5) (k:Nat) (w:World) (hr:RdA w v l) (hl:l.length<=3999999) (hall:∀ a ∈ l,a.1.size<=maxLen/\a.2.2.2.2.length<=3999999) (hkd:t.1=1\/t.1=2\/t.1=3) (hk:k < l.length) (hasc:AscA l) :
    Calls Tryz.prog 156 #[lgV e v,txV t,.int .i64 (k:Int)] w fun en w'=>∃ v',en=.returned (lgV e v')/\OwnA w.heap.size w' v' (doA e t l k)/\Below w.heap.size w w':=by
  rcases hkd with h | h | h
  · exact specDoPB_any e v l t k w hr hl hall (.inl h) hk hasc
  · exact specDoPB_any e v l t k w hr hl hall (.inr h) hk hasc
  · exact specDoU_any e v l t k w hr hl hall h hk hasc
end Go.Proofs.YtohachldbpejpaaGreatDoor
