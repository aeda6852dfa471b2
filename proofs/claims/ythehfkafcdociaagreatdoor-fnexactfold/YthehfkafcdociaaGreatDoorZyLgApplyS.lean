/- The model's Apply. -/
import Derived.Test.YthehfkafcdociaaGreatDoorZyLgDoS
set_option maxRecDepth 20000
set_option maxHeartbeats 3000000
namespace Go.Proofs.YthehfkafcdociaaGreatDoor
open Go.RowKit
set_option linter.unusedVariables false
theorem specDoU_any (e:Int) (v:Value) (l:List Ac) (t:Tx5) (k:Nat) (w:World) (hr:RdA w v l) (hl:l.length<=3999999) (hall:∀ a ∈ l,a.1.size<=maxLen/\a.2.2.2.2.length<=3999999) (hkd:t.1=3) (hk:k < l.length) (hasc:AscA l) :
    Calls Tryz.prog 90 #[lgV e v,txV t,.int .i64 (k:Int)] w fun en w'=>∃ v',en=.returned (lgV e v')/\OwnA w.heap.size w' v' (doA e t l k)/\Below w.heap.size w w':=by
  obtain ⟨av,cv,rfl⟩:=hr.shape
  have hall2:∀ a ∈ l,a.2.2.2.2.length<=4000000:=fun a ha=>by have:=hall a ha;omega
  obtain ⟨kd,fm,tO,am,nc⟩:=t
  obtain ⟨w1,hw1⟩:∃ w1,w.alloc (.cells #[.int .i64 e,.slice av l.length cv] 36)=w1:=⟨_,rfl⟩
  obtain ⟨w2,hw2⟩:∃ w2,w1.alloc (.cells #[.int .i64 kd,.string fm,.string tO,.int .i64 am,.int .i64 nc] 117)=w2:=⟨_,rfl⟩
  obtain ⟨w3,hw3⟩:∃ w3,w2.alloc (.cells #[.int .i64 0,.slice none 0 0] 36)=w3:=⟨_,rfl⟩
  have s1:w1.heap.size=w.heap.size+1:=by rw [<- hw1];simp
  have s2:w2.heap.size=w.heap.size+1+1:=by rw [<- hw2];simp;omega
  have s3:w3.heap.size=w.heap.size+1+1+1:=by rw [<- hw3];simp;omega
  have hB3:Below w.heap.size w w3:=by rw [<- hw3,<- hw2,<- hw1];exact (((Below.refl _ w).alloc (Nat.le_refl _) _).alloc (by simp) _).alloc (by simp;omega) _
  have kL:Blk w3 w.heap.size 36 [.int .i64 e,.slice av l.length cv]:=by rw [<- hw3,<- hw2,<- hw1];exact ((Blk.new w _ _).alloc _).alloc _
  have kT:Blk w3 (w.heap.size+1) 117 [.int .i64 kd,.string fm,.string tO,.int .i64 am,.int .i64 nc]:=by
    rw [<- hw3,<- hw2,<- s1]
    exact (Blk.new w1 _ _).alloc _
  have kR:Blk w3 (w.heap.size+1+1) 36 [.int .i64 0,.slice none 0 0]:=by rw [<- hw3,<- s2];exact Blk.new w2 _ _
  have HD:=hide (specL6Copy_any e (.slice av l.length cv) l w3 (hr.below hB3 (Nat.le_refl _)) (by omega) hall2)
  have Hall:=hide hall
  have Hasc:=hide hasc
  simp only [lgV,txV] at HD ⊢
  have l0:=kL.cell 0
  have l1:=kL.cell 1
  simp only [List.getElem?_cons_zero,List.getElem?_cons_succ] at l0 l1
  clear hall hall2 hasc hr
  go_enter Tryz.func90,Tryz.ntmps90
  go_wp2_with fail
  refine HD.out.mono ?_
  rintro en w4 ⟨v4,rfl,o4,hb4⟩
  have hB4:Below w.heap.size w w4:=hB3.trans (hb4.mono hB3.size)
  replace kL:=kL.below hb4 kL.lt
  replace kT:=kT.below hb4 kT.lt
  replace kR:=kR.below hb4 kR.lt
  obtain ⟨g,cap,Z,rfl,hZ,hG⟩:=o4.rowG
  have hgl:=hG.lt
  have hlo:∀ i (hi:i < Z.length) r,Z[i].2.ownBlock=some r->r < w4.heap.size:=fun i hi r hr=>(hG.lvs.own i hi).lt r hr
  obtain ⟨w5,hw5⟩:∃ w5,w4.alloc (.cells #[.int .i64 e,.slice (some ⟨g,0,none⟩) l.length cap] 36)=w5:=⟨_,rfl⟩
  have hb5:Below w4.heap.size w4 w5:=by rw [<- hw5];exact (Below.refl _ w4).alloc (Nat.le_refl _) _
  have kF:Blk w5 w4.heap.size 36 [.int .i64 e,.slice (some ⟨g,0,none⟩) l.length cap]:=by rw [<- hw5];exact Blk.new w4 _ _
  have s5:w5.heap.size=w4.heap.size+1:=by rw [<- hw5];simp
  have hB5:Below w.heap.size w w5:=hB4.trans (hb5.mono hB4.size)
  replace kL:=kL.below hb5 kL.lt
  replace kT:=kT.below hb5 kT.lt
  replace kR:=kR.below hb5 kR.lt
  have hG5:=hG.below hb5 (Nat.le_refl _)
  have hkZ:k < Z.length:=by have:=hG5.len;omega
  have hZk:Z[k].1=l[k]:=fst_get hZ k hkZ hk
  have hlen:=Hall.out l[k] (List.getElem_mem _)
  obtain ⟨c0,c1,c2,c3,c4⟩:=hG5.at k hkZ
  have hown:=hG5.lvs.own k hkZ
  have hshape:=hown.rd.shape
  obtain ⟨q,hq⟩:∃ q,Z[k]=q:=⟨_,rfl⟩
  have hlk:l[k]=q.1:=by rw [<- hZk,hq]
  rw [<- hZk] at hlen
  rw [hq] at c0 c1 c2 c3 c4 hown hshape hlen
  obtain ⟨⟨nm,fr,no,st,ls⟩,lv⟩:=q
  simp only at c0 c1 c2 c3 c4 hown hshape hlen hlk
  obtain ⟨av',cv',rfl⟩:=hshape
  have hki:(k:Int) < (l.length:Int):=by omega
  have hcap:=hG5.caps
  have f0:=kF.cell 0
  have f1:=kF.cell 1
  have t0:=kT.cell 0
  have t2:=kT.cell 2
  have t3:=kT.cell 3
  have l0:=kL.cell 0
  have q1:=hG5.frozen (k * 5+1)
  have q2:=hG5.frozen (k * 5+2)
  have q3:=hG5.frozen (k * 5+3)
  have q4:=hG5.frozen (k * 5+4)
  simp only [List.getElem?_cons_zero,List.getElem?_cons_succ] at f0 f1 t0 t2 t3 l0
  have hiS:∀ q:Ac × Value,k < (Z.set k q).length:=fun q=>by simpa using hkZ
  obtain ⟨w6,hw6⟩:∃ w6,w5.setCell ⟨g,k * 5+2,none⟩ (.int .i64 (wrap64 (no+1)))=w6:=⟨_,rfl⟩
  have hG6:RowG w3.heap.size w6 g l.length cap (Z.set k ((nm,fr,wrap64 (no+1),st,ls),.slice av' ls.length cv')):=by
    rw [<- hw6]
    exact hG5.put k hkZ 2 (by omega) _ _ (by rw [hq];rfl) (by rw [hq];rfl)
  have m6:∀ {B:Nat} {t:TypeId} {cs:List Value},Blk w5 B t cs->B ≠ g->Blk w6 B t cs:=fun h hne=>by rw [<- hw6];exact h.other _ _ _ hne
  have kT6:=m6 kT (by omega)
  have kR6:=m6 kR (by omega)
  have kF6:=m6 kF (by omega)
  have kL6:=m6 kL (by omega)
  have hB6:Below w.heap.size w w6:=by rw [<- hw6];exact hB5.setCell (p:=⟨g,k * 5+2,none⟩) (show w.heap.size<=g by omega) _
  obtain ⟨d0,d1,d2,d3,d4⟩:=hG6.at k (hiS _)
  rw [set_get] at d0 d1 d2 d3 d4
  have e0:=kF6.cell 0
  have e1:=kF6.cell 1
  have u0:=kT6.cell 0
  have u2:=kT6.cell 2
  have u3:=kT6.cell 3
  have y0:=kL6.cell 0
  have p1:=hG6.frozen (k * 5+1)
  have p3:=hG6.frozen (k * 5+3)
  have p4:=hG6.frozen (k * 5+4)
  simp only [List.getElem?_cons_zero,List.getElem?_cons_succ] at d0 d1 d2 d3 d4 e0 e1 u0 u2 u3 y0
  have HG6:=hide hG6
  have KT6:=hide kT6
  have KR6:=hide kR6
  have KF6:=hide kF6
  have KL6:=hide kL6
  have HB6:=hide hB6
  have HZ:=hide hZ
  have Hlk:=hide hlk
  have z6:w6.heap.size=w5.heap.size:=by rw [<- hw6];simp
  have z4:=hb4.size
  clear hG6 kT6 kR6 kF6 kL6 hB6 hG5 kT kR kF kL hB5 hG o4 m6 hZ hlk hown HD
  obtain rfl:kd=3:=hkd
  have hG6:=HG6.out
  have kT6:=KT6.out
  have kR6:=KR6.out
  have kF6:=KF6.out
  have kL6:=KL6.out
  have hB6:=HB6.out
  obtain ⟨w7,hw7⟩:∃ w7,(w6.setCell ⟨g,k * 5+3,none⟩ (.int .i64 (wrap64 (st - am)))).drew=w7:=⟨_,rfl⟩
  have hG7:RowG w3.heap.size w7 g l.length cap (Z.set k ((nm,fr,wrap64 (no+1),wrap64 (st - am),ls),.slice av' ls.length cv')):=by
    have h:=hG6.put k (hiS _) 3 (by omega) (.int .i64 (wrap64 (st - am))) ((nm,fr,wrap64 (no+1),wrap64 (st - am),ls),.slice av' ls.length cv') (by rw [set_get];rfl) (by rw [set_get];rfl)
    rw [List.set_set] at h
    rw [<- hw7]
    exact h.below (Below.refl _ _).drew (Nat.le_refl _)
  have m7:∀ {B:Nat} {t:TypeId} {cs:List Value},Blk w6 B t cs->B ≠ g->Blk w7 B t cs:=fun h hne=>by rw [<- hw7];have hh:=h.other g (k * 5+3) (.int .i64 (wrap64 (st - am))) hne;exact hh
  have kT7:=m7 kT6 (by omega)
  have kR7:=m7 kR6 (by omega)
  have kF7:=m7 kF6 (by omega)
  have kL7:=m7 kL6 (by omega)
  have hB7:Below w.heap.size w w7:=by rw [<- hw7];exact (hB6.setCell (p:=⟨g,k * 5+3,none⟩) (show w.heap.size<=g by omega) _).drew
  have z7:w7.heap.size=w6.heap.size:=by rw [<- hw7];simp
  obtain ⟨v0,v1,v2,v3,v4⟩:=hG7.at k (hiS _)
  rw [set_get] at v0 v1 v2 v3 v4
  have x4:=hG7.frozen (k * 5+4)
  have u13:=kT7.cell 3
  have y10:=kL7.cell 0
  simp only [List.getElem?_cons_zero,List.getElem?_cons_succ] at v0 v1 v2 v3 v4 u13 y10
  go_wp2
  refine region_tail 8 (by kernel_rfl) (by kernel_rfl) ?_
  simp only [List.take_succ_cons,List.take_zero,List.drop_succ_cons,List.drop_zero]
  repeat still_step
  refine wpStill_nil ?_
  have hown7:=hG7.lvs.own k (hiS _)
  rw [set_get] at hown7
  have hwr:wrap64 (e+2)=IntKind.i64.wrap (e+2):=by rw [IntKind.wrap_i64];unfold wrap64;rfl
  have HLv:Hid (∀ W,Below w7.heap.size w7 W->Calls Tryz.prog 123 #[.slice av' ls.length cv',.int .i64 am,.int .i64 (IntKind.i64.wrap (e+2))] W fun en w'=>∃ v',en=.returned v'/\OwnL W.heap.size w' v' (lvP am (wrap64 (e+2)) ls)/\Below W.heap.size W w'/\Below w7.heap.size w7 w'/\w7.heap.size<=W.heap.size):=hide (fun W hb=>hwr ▸ (specL6Leave_any (.slice av' ls.length cv') ls am (wrap64 (e+2)) W (hown7.rd.below hb (Nat.le_refl _)) (by omega)).mono (fun en w' ⟨v',h1,h2,h3⟩=>⟨v',h1,h2,h3,hb.trans (h3.mono hb.size),hb.size⟩))
  have HG7:=hide hG7
  have KR7:=hide kR7
  have KF7:=hide kF7
  have HB7:=hide hB7
  clear hwr hG6 hG7 kT6 kT7 kR6 kR7 kF6 kF7 kL6 kL7 hB6 hB7 m7 hown7
  go_wp2
  go_region_law ((go_simp;go_at_call 123;refine (HLv.out _ (by first | exact Below.refl _ _ | exact (Below.refl _ _).drew | exact below_drewN (Below.refl _ _) _)).mono ?_;rintro en w8 ⟨v8,rfl,o8,hb8,b8,z8⟩;have hsh:=o8.rd.shape;obtain ⟨a8,c8,hv8⟩:=hsh;subst hv8;have hG8:=HG7.out.below b8 (Nat.le_refl _);have x8:=(hG8.at k (hiS _)).c4;rw [set_get] at x8;have x8f:=hG8.frozen (k * 5+4);simp only at x8))
  all_goals
    have hge:=o8.ge
    have zz7:w7.drew.heap.size=w7.heap.size:=rfl
    have hG9:=hG8.putL k (hiS _) ((nm,fr,wrap64 (no+1),wrap64 (st - am),lvP am (wrap64 (e+2)) ls),.slice a8 (lvP am (wrap64 (e+2)) ls).length c8) (by rw [set_get];rfl) (o8.mono (by omega)) (fun r hr=>by have:=hge r hr;omega) (fun i hi hik r hr e=>by have h3:=(HG7.out.lvs.own i hi).lt r hr;have:=hge r e;omega)
    rw [List.set_set] at hG9
    have kR8:=KR7.out.below b8 KR7.out.lt
    have kF8:=KF7.out.below b8 KF7.out.lt
    have hB8:=HB7.out.trans (b8.mono HB7.out.size)
    obtain ⟨w9,hw9⟩:∃ w9,w8.setCell ⟨g,k * 5+4,none⟩ (.slice a8 (lvP am (wrap64 (e+2)) ls).length c8)=w9:=⟨_,rfl⟩
    have kR9:Blk w9 (w.heap.size+1+1) 36 [.int .i64 0,.slice none 0 0]:=by rw [<- hw9];exact kR8.other _ _ _ (by omega)
    have kF9:Blk w9 w4.heap.size 36 [.int .i64 e,.slice (some ⟨g,0,none⟩) l.length cap]:=by rw [<- hw9];exact kF8.other _ _ _ (by omega)
    have hB9:Below w.heap.size w w9:=by rw [<- hw9];exact hB8.setCell (p:=⟨g,k * 5+4,none⟩) (show w.heap.size<=g by omega) _
    rw [hw9] at hG9
    have o9:=hG9.own
    have hdo:l.set k (nm,fr,wrap64 (no+1),wrap64 (st - am),lvP am (wrap64 (e+2)) ls)=doA e (3,fm,tO,am,nc) l k:=by
      unfold doA
      rw [if_neg (show ¬ (3:Int)=1 by decide),getD_at l k hk,Hlk.out]
      rfl
    rw [fst_set,HZ.out,hdo] at o9
    have r0:=kR9.cell 0
    have r1:=kR9.cell 1
    have g0:=kR9.frozen 0
    have g1:=kR9.frozen 1
    have i0:=kF9.cell 0
    have i1:=kF9.cell 1
    simp only [List.getElem?_cons_zero,List.getElem?_cons_succ] at r0 r1 i0 i1
    have HBx:=hide ((hB9.setCell (p:=⟨w.heap.size+1+1,0,none⟩) (show w.heap.size<=w.heap.size+1+1 by omega) (.int .i64 e)).setCell (p:=⟨w.heap.size+1+1,1,none⟩) (show w.heap.size<=w.heap.size+1+1 by omega) (.slice (some ⟨g,0,none⟩) l.length cap))
    have HOx:=hide (((o9.older (g:=w.heap.size+1+1) (by omega) 0 (.int .i64 e)).older (g:=w.heap.size+1+1) (by omega) 1 (.slice (some ⟨g,0,none⟩) l.length cap)).mono (show w.heap.size<=_ by omega))
    rw [hw9]
    clear hG8 hG9 kR8 kF8 hB8 kR9 kF9 hB9 o8 o9 hdo hge x8 x8f v0 v1 v2 v3 v4 hw9
    go_wp2
    refine bodyPost_ret (v:=.agg #[.int .i64 e,.slice (some ⟨g,0,none⟩) l.length cap]) (by simp [results,Tryz.f90,go_sem,r0,r1]) rfl ?_
    exact ⟨_,rfl,HOx.out,HBx.out⟩
theorem specDo_any (e:Int) (v:Value) (l:List Ac) (t:Tx5) (k:Nat) (w:World) (hr:RdA w v l) (hl:l.length<=3999999) (hall:∀ a ∈ l,a.1.size<=maxLen/\a.2.2.2.2.length<=3999999) (hkd:t.1=1\/t.1=2\/t.1=3) (hk:k < l.length) (hasc:AscA l) :
    Calls Tryz.prog 90 #[lgV e v,txV t,.int .i64 (k:Int)] w fun en w'=>∃ v',en=.returned (lgV e v')/\OwnA w.heap.size w' v' (doA e t l k)/\Below w.heap.size w w':=by
  rcases hkd with h | h | h
  · exact specDoPB_any e v l t k w hr hl hall (.inl h) hk hasc
  · exact specDoPB_any e v l t k w hr hl hall (.inr h) hk hasc
  · exact specDoU_any e v l t k w hr hl hall h hk hasc
theorem doA_len (e:Int) (t:Tx5) (l:List Ac) (k:Nat):(doA e t l k).length<=l.length+1:=by
  unfold doA
  split
  · refine Nat.le_trans (insA_len _ _) (by simp)
  · simp
theorem doA_mem {e:Int} {t:Tx5} {l:List Ac} {k:Nat} (ht:t.2.2.1.size<=maxLen) (hk:k < l.length) (h:∀ a ∈ l,a.1.size<=maxLen/\a.2.2.2.2.length<=3999999):∀ a ∈ doA e t l k,a.1.size<=maxLen/\a.2.2.2.2.length<=4000000:=by
  have hL : ∀ a ∈ l.set k (gvA e t (l.getD k ac0)),a.1.size<=maxLen/\a.2.2.2.2.length<=4000000:=fun a ha=>by
    rcases List.mem_or_eq_of_mem_set ha with h' | h'
    · have:=h a h';omega
    · have h1:=h l[k] (List.getElem_mem _)
      have h2:(gvA e t l[k]).2.2.2.2.length<=l[k].2.2.2.2.length+1:=by
        unfold gvA
        split
        · simp
        · split
          · simp
          · exact lvP_len _ _ _
      subst h'
      rw [getD_at l k hk,gvA_name]
      omega
  unfold doA
  split
  · intro a ha
    rcases insA_mem _ _ _ ha with rfl | ha
    · refine ⟨by rw [aftA_name];exact ht,?_⟩
      unfold aftA
      cases hg:getA t.2.2.1 (l.set k (gvA e t (l.getD k ac0))) with
      | none=>simp
      | some b=>exact (hL b (getA_some hg).2).2
    · exact hL a ha
  · exact hL
theorem specApply_any (e:Int) (v:Value) (l:List Ac) (t:Tx5) (w:World) (hr:RdA w v l) (hl:l.length<=3999999) (hall:∀ a ∈ l,a.1.size<=maxLen/\a.2.2.2.2.length<=3999999) (hf:t.2.1.size<=maxLen) (ht:t.2.2.1.size<=maxLen) :
    Calls Tryz.prog 53 #[lgV e v,txV t] w fun en w'=>∃ v',en=.returned (.tuple #[lgV e v',.int .i64 (apA e l t).2])/\OwnA w.heap.size w' v' (apA e l t).1/\Below w.heap.size w w':=by
  obtain ⟨av,cv,rfl⟩:=hr.shape
  have hall1:∀ a ∈ l,a.1.size<=maxLen/\a.2.2.2.2.length<=4000000:=fun a ha=>by have:=hall a ha;omega
  have hall2:∀ a ∈ l,a.2.2.2.2.length<=4000000:=fun a ha=>(hall1 a ha).2
  obtain ⟨kd,fm,tO,am,nc⟩:=t
  obtain ⟨w1,hw1⟩:∃ w1,w.alloc (.cells #[.int .i64 e,.slice av l.length cv] 36)=w1:=⟨_,rfl⟩
  obtain ⟨w2,hw2⟩:∃ w2,w1.alloc (.cells #[.int .i64 kd,.string fm,.string tO,.int .i64 am,.int .i64 nc] 117)=w2:=⟨_,rfl⟩
  obtain ⟨w3,hw3⟩:∃ w3,w2.alloc (.cells #[.int .i64 0,.slice none 0 0] 36)=w3:=⟨_,rfl⟩
  have s1:w1.heap.size=w.heap.size+1:=by rw [<- hw1];simp
  have s2:w2.heap.size=w.heap.size+1+1:=by rw [<- hw2];simp;omega
  have s3:w3.heap.size=w.heap.size+1+1+1:=by rw [<- hw3];simp;omega
  have hB3:Below w.heap.size w w3:=by rw [<- hw3,<- hw2,<- hw1];exact (((Below.refl _ w).alloc (Nat.le_refl _) _).alloc (by simp) _).alloc (by simp;omega) _
  have kL:Blk w3 w.heap.size 36 [.int .i64 e,.slice av l.length cv]:=by rw [<- hw3,<- hw2,<- hw1];exact ((Blk.new w _ _).alloc _).alloc _
  have kT:Blk w3 (w.heap.size+1) 117 [.int .i64 kd,.string fm,.string tO,.int .i64 am,.int .i64 nc]:=by
    rw [<- hw3,<- hw2,<- s1]
    exact (Blk.new w1 _ _).alloc _
  have kR:Blk w3 (w.heap.size+1+1) 36 [.int .i64 0,.slice none 0 0]:=by rw [<- hw3,<- s2];exact Blk.new w2 _ _
  have HO:=hide (fun V m W h (h1:m.length<=4000000) h2=>specLedgerOk_any e V m W h h1 h2)
  have HX:=hide (fun W=>specTxOk_any (kd,fm,tO,am,nc) W hf ht)
  have HD:=hide (fun W h=>specL6Copy_any e (.slice av l.length cv) l W h (by omega) hall2)
  have HA:=hide (fun W h=>specAcctAt_any (.slice av l.length cv) l fm W h (by omega))
  have Hr:=hide hr
  have Hall:=hide hall
  have Hall1:=hide hall1
  simp only [lgV,txV] at HO HX HD ⊢
  have l0:=kL.cell 0
  have l1:=kL.cell 1
  simp only [List.getElem?_cons_zero,List.getElem?_cons_succ] at l0 l1
  clear hr hall hall1 hall2
  go_enter Tryz.func53,Tryz.ntmps53
  go_wp2_with fail
  refine (HD.out _ (Hr.out.below hB3 (Nat.le_refl _))).mono ?_
  rintro en w4 ⟨v4,rfl,o4,hb4⟩
  have hB4:Below w.heap.size w w4:=hB3.trans (hb4.mono hB3.size)
  replace kL:=kL.below hb4 kL.lt
  replace kT:=kT.below hb4 kT.lt
  replace kR:=kR.below hb4 kR.lt
  obtain ⟨a4,c4,rfl⟩:=o4.rd.shape
  obtain ⟨w5,hw5⟩:∃ w5,w4.alloc (.cells #[.int .i64 e,.slice a4 l.length c4] 36)=w5:=⟨_,rfl⟩
  have hb5:Below w4.heap.size w4 w5:=by rw [<- hw5];exact (Below.refl _ w4).alloc (Nat.le_refl _) _
  have kF:Blk w5 w4.heap.size 36 [.int .i64 e,.slice a4 l.length c4]:=by rw [<- hw5];exact Blk.new w4 _ _
  have s5:w5.heap.size=w4.heap.size+1:=by rw [<- hw5];simp
  have hB5:Below w.heap.size w w5:=hB4.trans (hb5.mono hB4.size)
  replace kL:=kL.below hb5 kL.lt
  replace kT:=kT.below hb5 kT.lt
  replace kR:=kR.below hb5 kR.lt
  replace o4:=o4.below hb5 (Nat.le_refl _)
  have l0:=kL.cell 0
  have l1:=kL.cell 1
  simp only [List.getElem?_cons_zero,List.getElem?_cons_succ] at l0 l1
  go_wp2_with fail
  refine (HO.out _ l _ (Hr.out.below hB5 (Nat.le_refl _)) (by omega) Hall1.out).mono ?_
  rintro en w6 ⟨rfl,hb6⟩
  have hB6:Below w.heap.size w w6:=hB5.trans (hb6.mono hB5.size)
  replace kL:=kL.below hb6 kL.lt
  replace kT:=kT.below hb6 kT.lt
  replace kR:=kR.below hb6 kR.lt
  replace kF:=kF.below hb6 kF.lt
  replace o4:=o4.below hb6 (Nat.le_refl _)
  clear l0 l1
  have z4:=hb4.size
  cases h1:lgB e l
  · have Hap:=hide (apA_form (e:=e) (l:=l) (t:=(kd,fm,tO,am,nc)) (by rw [h1];rfl))
    have r0:=kR.cell 0
    have r1:=kR.cell 1
    have g0:=kR.frozen 0
    have g1:=kR.frozen 1
    have i0:=kF.cell 0
    have i1:=kF.cell 1
    simp only [List.getElem?_cons_zero,List.getElem?_cons_succ] at r0 r1 i0 i1
    have HBx:=hide ((hB6.setCell (p:=⟨w.heap.size+1+1,0,none⟩) (show w.heap.size<=w.heap.size+1+1 by omega) (.int .i64 e)).setCell (p:=⟨w.heap.size+1+1,1,none⟩) (show w.heap.size<=w.heap.size+1+1 by omega) (.slice a4 l.length c4))
    have HOx:=hide (((o4.older (g:=w.heap.size+1+1) (by omega) 0 (.int .i64 e)).older (g:=w.heap.size+1+1) (by omega) 1 (.slice a4 l.length c4)).mono (show w.heap.size<=_ by omega))
    clear h1
    go_wp2
    refine bodyPost_ret (v:=.tuple #[.agg #[.int .i64 e,.slice a4 l.length c4],.int .i64 1]) (by simp [results,Tryz.f53,go_sem,r0,r1]) rfl ?_
    rw [Hap.out]
    exact ⟨_,rfl,HOx.out,HBx.out⟩
  · have H1 := hide h1
    clear h1
    have t0:=kT.cell 0
    have t1:=kT.cell 1
    have t2:=kT.cell 2
    have t3:=kT.cell 3
    have t4:=kT.cell 4
    simp only [List.getElem?_cons_zero,List.getElem?_cons_succ] at t0 t1 t2 t3 t4
    go_wp2_with fail
    refine (HX.out _).mono ?_
    rintro en w7 ⟨rfl,hb7⟩
    have hB7:Below w.heap.size w w7:=hB6.trans (hb7.mono hB6.size)
    replace kL:=kL.below hb7 kL.lt
    replace kT:=kT.below hb7 kT.lt
    replace kR:=kR.below hb7 kR.lt
    replace kF:=kF.below hb7 kF.lt
    replace o4:=o4.below hb7 (Nat.le_refl _)
    clear t0 t1 t2 t3 t4
    cases h2:txB (kd,fm,tO,am,nc)
    · have Hap:=hide (apA_form (e:=e) (l:=l) (t:=(kd,fm,tO,am,nc)) (by rw [H1.out,h2];rfl))
      clear h2
      have r0:=kR.cell 0
      have r1:=kR.cell 1
      have g0:=kR.frozen 0
      have g1:=kR.frozen 1
      have i0:=kF.cell 0
      have i1:=kF.cell 1
      simp only [List.getElem?_cons_zero,List.getElem?_cons_succ] at r0 r1 i0 i1
      have HBx:=hide ((hB7.setCell (p:=⟨w.heap.size+1+1,0,none⟩) (show w.heap.size<=w.heap.size+1+1 by omega) (.int .i64 e)).setCell (p:=⟨w.heap.size+1+1,1,none⟩) (show w.heap.size<=w.heap.size+1+1 by omega) (.slice a4 l.length c4))
      have HOx:=hide (((o4.older (g:=w.heap.size+1+1) (by omega) 0 (.int .i64 e)).older (g:=w.heap.size+1+1) (by omega) 1 (.slice a4 l.length c4)).mono (show w.heap.size<=_ by omega))
      go_wp2
      refine bodyPost_ret (v:=.tuple #[.agg #[.int .i64 e,.slice a4 l.length c4],.int .i64 1]) (by simp [results,Tryz.f53,go_sem,r0,r1]) rfl ?_
      rw [Hap.out]
      exact ⟨_,rfl,HOx.out,HBx.out⟩
    · have H2 : Hid ((lgB e l && txB (kd,fm,tO,am,nc))=true):=hide (by rw [H1.out,h2];rfl)
      have Hx:=hide h2
      have l1:=kL.cell 1
      have t1:=kT.cell 1
      simp only [List.getElem?_cons_zero,List.getElem?_cons_succ] at l1 t1
      clear h2 HX HD
      go_wp2_with fail
      refine (HA.out _ (Hr.out.below hB7 (Nat.le_refl _))).mono ?_
      rintro en w8 ⟨rfl,hb8⟩
      have hB8:Below w.heap.size w w8:=hB7.trans (hb8.mono hB7.size)
      replace kL:=kL.below hb8 kL.lt
      replace kT:=kT.below hb8 kT.lt
      replace kR:=kR.below hb8 kR.lt
      replace kF:=kF.below hb8 kF.lt
      replace o4:=o4.below hb8 (Nat.le_refl _)
      clear l1 t1
      rcases at_cases l fm with hat | ⟨k,hk,hat,hkn,hkb⟩
      · have Hap:=hide (apA_none (t:=(kd,fm,tO,am,nc)) H2.out (by show atA l fm < 0;rw [hat];decide))
        rw [hat]
        have r0:=kR.cell 0
        have r1:=kR.cell 1
        have g0:=kR.frozen 0
        have g1:=kR.frozen 1
        have i0:=kF.cell 0
        have i1:=kF.cell 1
        simp only [List.getElem?_cons_zero,List.getElem?_cons_succ] at r0 r1 i0 i1
        have HBx:=hide ((hB8.setCell (p:=⟨w.heap.size+1+1,0,none⟩) (show w.heap.size<=w.heap.size+1+1 by omega) (.int .i64 e)).setCell (p:=⟨w.heap.size+1+1,1,none⟩) (show w.heap.size<=w.heap.size+1+1 by omega) (.slice a4 l.length c4))
        have HOx:=hide (((o4.older (g:=w.heap.size+1+1) (by omega) 0 (.int .i64 e)).older (g:=w.heap.size+1+1) (by omega) 1 (.slice a4 l.length c4)).mono (show w.heap.size<=_ by omega))
        go_wp2
        refine bodyPost_ret (v:=.tuple #[.agg #[.int .i64 e,.slice a4 l.length c4],.int .i64 2]) (by simp [results,Tryz.f53,go_sem,r0,r1]) rfl ?_
        rw [Hap.out]
        exact ⟨_,rfl,HOx.out,HBx.out⟩
      · rw [hat]
        have hrd8:=Hr.out.below hB8 (Nat.le_refl _)
        obtain ⟨b,off,lv,hav,hc1,hc2,hbw,hatk,hrl⟩:∃ b off lv,av=some ⟨b,off,none⟩/\l.length<=cv/\cv<=maxLen/\b < w8.heap.size/\AcAt w8 b (off+k * 5) l[k] lv/\RdL w8 lv l[k].2.2.2.2:=by
          rcases hrd8 with ⟨a',cap',e1,e2,-⟩ | ⟨b,off,cap',h0,e1,h1,h2,h3,h4⟩
          · rw [e2] at hk;simp at hk
          · simp only [Value.slice.injEq,true_and] at e1
            obtain ⟨rfl,rfl⟩:=e1
            obtain ⟨lv,q1,q2⟩:=h4 k hk
            exact ⟨b,off,lv,rfl,h1,h2,h3,q1,q2⟩
        subst hav
        have hgd:l.getD k ac0=l[k]:=getD_at l k hk
        have Htp:=hide (tx_parts Hx.out)
        obtain ⟨x0,x1,x2,x3,x4⟩:=hatk
        have hshape:=hrl.shape
        obtain ⟨q,hq⟩:∃ q,l[k]=q:=⟨_,rfl⟩
        rw [hq] at x0 x1 x2 x3 hgd hshape
        obtain ⟨nm,fr,no,st,ls⟩:=q
        simp only at x0 x1 x2 x3 hgd hshape Htp
        obtain ⟨av',cv',rfl⟩:=hshape
        have hki:(k:Int) < (l.length:Int):=by omega
        obtain ⟨w9,hw9⟩:∃ w9,w8.alloc (.cells #[.string nm,.int .i64 fr,.int .i64 no,.int .i64 st,.slice av' ls.length cv'] 122)=w9:=⟨_,rfl⟩
        have hb9:Below w8.heap.size w8 w9:=by rw [<- hw9];exact (Below.refl _ w8).alloc (Nat.le_refl _) _
        have kA:Blk w9 w8.heap.size 122 [.string nm,.int .i64 fr,.int .i64 no,.int .i64 st,.slice av' ls.length cv']:=by rw [<- hw9];exact Blk.new w8 _ _
        have l1:=kL.cell 1
        simp only [List.getElem?_cons_zero,List.getElem?_cons_succ] at l1
        have Kl8:=kL
        have hB9:Below w.heap.size w w9:=hB8.trans (hb9.mono hB8.size)
        replace kL:=kL.below hb9 kL.lt
        replace kT:=kT.below hb9 kT.lt
        replace kR:=kR.below hb9 kR.lt
        replace kF:=kF.below hb9 kF.lt
        replace o4:=o4.below hb9 (Nat.le_refl _)
        have zR:=kR.lt
        have a0:=kA.cell 0
        have a1:=kA.cell 1
        have a2:=kA.cell 2
        have a3:=kA.cell 3
        have a4':=kA.cell 4
        have t0:=kT.cell 0
        have t1:=kT.cell 1
        have t2:=kT.cell 2
        have t3:=kT.cell 3
        have t4:=kT.cell 4
        simp only [List.getElem?_cons_zero,List.getElem?_cons_succ] at a0 a1 a2 a3 a4' t0 t1 t2 t3 t4
        by_cases hk3:kd=3
        · subst hk3
          have Hsp:Hid (hasA (3,fm,tO,am,nc) (nm,fr,no,st,ls)=st):=hide (by unfold hasA;exact if_pos rfl)
          by_cases hn:no=nc
          · have hnq:(no != nc)=false:=by rw [hn];simp
            by_cases hs:st < am
            · have Hap:=hide (apA_short (t:=(3,fm,tO,am,nc)) H2.out hat (by rw [hgd];exact hn) (by rw [hgd,Hsp.out];exact hs))
              clear hn
              have r0:=kR.cell 0
              have r1:=kR.cell 1
              have g0:=kR.frozen 0
              have g1:=kR.frozen 1
              have i0:=kF.cell 0
              have i1:=kF.cell 1
              simp only [List.getElem?_cons_zero,List.getElem?_cons_succ] at r0 r1 i0 i1
              have HBx:=hide ((hB9.setCell (p:=⟨w.heap.size+1+1,0,none⟩) (show w.heap.size<=w.heap.size+1+1 by omega) (.int .i64 e)).setCell (p:=⟨w.heap.size+1+1,1,none⟩) (show w.heap.size<=w.heap.size+1+1 by omega) (.slice a4 l.length c4))
              have HOx:=hide (((o4.older (g:=w.heap.size+1+1) (by omega) 0 (.int .i64 e)).older (g:=w.heap.size+1+1) (by omega) 1 (.slice a4 l.length c4)).mono (show w.heap.size<=_ by omega))
              go_wp2
              refine bodyPost_ret (v:=.tuple #[.agg #[.int .i64 e,.slice a4 l.length c4],.int .i64 4]) (by simp [results,Tryz.f53,go_sem,r0,r1]) rfl ?_
              rw [Hap.out]
              exact ⟨_,rfl,HOx.out,HBx.out⟩
            · have Hful:=hide (apA_full (t:=(3,fm,tO,am,nc)) H2.out hat (by rw [hgd];exact hn) (by rw [hgd,Hsp.out];exact hs))
              have Hgoo:=hide (apA_good (t:=(3,fm,tO,am,nc)) H2.out hat (by rw [hgd];exact hn) (by rw [hgd,Hsp.out];exact hs))
              have HDo:=hide (specDo_any e (.slice (some ⟨b,off,none⟩) l.length cv) l (3,fm,tO,am,nc) k w9 (Hr.out.below hB9 (Nat.le_refl _)) hl Hall.out Htp.out.2.2.2 hk (asc_of_ok l (lg_acs H1.out)))
              have HDl:=hide (doA_len e (3,fm,tO,am,nc) l k)
              have HDm:=hide (doA_mem (e:=e) (t:=(3,fm,tO,am,nc)) (l:=l) (k:=k) ht hk Hall.out)
              generalize doA e (3,fm,tO,am,nc) l k=D at HDo Hful Hgoo HDl HDm
              simp only [lgV,txV] at HDo
              have l0:=kL.cell 0
              have l1:=kL.cell 1
              simp only [List.getElem?_cons_zero,List.getElem?_cons_succ] at l0 l1
              clear hn
              go_wp2_with fail
              refine HDo.out.mono ?_
              rintro en w10 ⟨v10,rfl,o10,hb10⟩
              have hB10:Below w.heap.size w w10:=hB9.trans (hb10.mono hB9.size)
              replace kR:=kR.below hb10 kR.lt
              replace kF:=kF.below hb10 kF.lt
              replace o4:=o4.below hb10 (Nat.le_refl _)
              obtain ⟨a10,c10,rfl⟩:=o10.rd.shape
              obtain ⟨w11,hw11⟩:∃ w11,w10.alloc (.cells #[.int .i64 e,.slice a10 D.length c10] 36)=w11:=⟨_,rfl⟩
              have hb11:Below w10.heap.size w10 w11:=by rw [<- hw11];exact (Below.refl _ w10).alloc (Nat.le_refl _) _
              have kG:Blk w11 w10.heap.size 36 [.int .i64 e,.slice a10 D.length c10]:=by rw [<- hw11];exact Blk.new w10 _ _
              have hB11:Below w.heap.size w w11:=hB10.trans (hb11.mono hB10.size)
              replace kR:=kR.below hb11 kR.lt
              replace kF:=kF.below hb11 kF.lt
              replace o4:=o4.below hb11 (Nat.le_refl _)
              replace o10:=o10.below hb11 (Nat.le_refl _)
              have j0:=kG.cell 0
              have j1:=kG.cell 1
              simp only [List.getElem?_cons_zero,List.getElem?_cons_succ] at j0 j1
              have z9:=hB9.size
              go_wp2_with fail
              refine (HO.out _ D _ o10.rd (by have:=HDl.out;omega) HDm.out).mono ?_
              rintro en w12 ⟨rfl,hb12⟩
              have hB12:Below w.heap.size w w12:=hB11.trans (hb12.mono hB11.size)
              replace kR:=kR.below hb12 kR.lt
              replace kF:=kF.below hb12 kF.lt
              replace kG:=kG.below hb12 kG.lt
              replace o4:=o4.below hb12 (Nat.le_refl _)
              replace o10:=o10.below hb12 (Nat.le_refl _)
              clear j0 j1 l0 l1 t0 t1 t2 t3 t4 a0 a1 a2 a3 a4'
              cases h5:lgB e D
              · have Hap:=hide (Hful.out h5)
                clear h5
                have r0:=kR.cell 0
                have r1:=kR.cell 1
                have g0:=kR.frozen 0
                have g1:=kR.frozen 1
                have i0:=kF.cell 0
                have i1:=kF.cell 1
                simp only [List.getElem?_cons_zero,List.getElem?_cons_succ] at r0 r1 i0 i1
                have HBx:=hide ((hB12.setCell (p:=⟨w.heap.size+1+1,0,none⟩) (show w.heap.size<=w.heap.size+1+1 by omega) (.int .i64 e)).setCell (p:=⟨w.heap.size+1+1,1,none⟩) (show w.heap.size<=w.heap.size+1+1 by omega) (.slice a4 l.length c4))
                have HOx:=hide (((o4.older (g:=w.heap.size+1+1) (by omega) 0 (.int .i64 e)).older (g:=w.heap.size+1+1) (by omega) 1 (.slice a4 l.length c4)).mono (show w.heap.size<=_ by omega))
                go_wp2
                refine bodyPost_ret (v:=.tuple #[.agg #[.int .i64 e,.slice a4 l.length c4],.int .i64 5]) (by simp [results,Tryz.f53,go_sem,r0,r1]) rfl ?_
                rw [Hap.out]
                exact ⟨_,rfl,HOx.out,HBx.out⟩
              · have Hap:=hide (Hgoo.out h5)
                clear h5
                have r0:=kR.cell 0
                have r1:=kR.cell 1
                have g0:=kR.frozen 0
                have g1:=kR.frozen 1
                have i0:=kG.cell 0
                have i1:=kG.cell 1
                simp only [List.getElem?_cons_zero,List.getElem?_cons_succ] at r0 r1 i0 i1
                have HBx:=hide ((hB12.setCell (p:=⟨w.heap.size+1+1,0,none⟩) (show w.heap.size<=w.heap.size+1+1 by omega) (.int .i64 e)).setCell (p:=⟨w.heap.size+1+1,1,none⟩) (show w.heap.size<=w.heap.size+1+1 by omega) (.slice a10 D.length c10))
                have HOx:=hide (((o10.older (g:=w.heap.size+1+1) (by omega) 0 (.int .i64 e)).older (g:=w.heap.size+1+1) (by omega) 1 (.slice a10 D.length c10)).mono (show w.heap.size<=_ by omega))
                go_wp2
                refine bodyPost_ret (v:=.tuple #[.agg #[.int .i64 e,.slice a10 D.length c10],.int .i64 0]) (by simp [results,Tryz.f53,go_sem,r0,r1]) rfl ?_
                rw [Hap.out]
                exact ⟨_,rfl,HOx.out,HBx.out⟩
          · have Hap:=hide (apA_nonce (t:=(3,fm,tO,am,nc)) H2.out hat (by rw [hgd];exact hn))
            have hnq:(no != nc)=true:=by rw [bne_iff_ne];exact hn
            clear hn
            have r0:=kR.cell 0
            have r1:=kR.cell 1
            have g0:=kR.frozen 0
            have g1:=kR.frozen 1
            have i0:=kF.cell 0
            have i1:=kF.cell 1
            simp only [List.getElem?_cons_zero,List.getElem?_cons_succ] at r0 r1 i0 i1
            have HBx:=hide ((hB9.setCell (p:=⟨w.heap.size+1+1,0,none⟩) (show w.heap.size<=w.heap.size+1+1 by omega) (.int .i64 e)).setCell (p:=⟨w.heap.size+1+1,1,none⟩) (show w.heap.size<=w.heap.size+1+1 by omega) (.slice a4 l.length c4))
            have HOx:=hide (((o4.older (g:=w.heap.size+1+1) (by omega) 0 (.int .i64 e)).older (g:=w.heap.size+1+1) (by omega) 1 (.slice a4 l.length c4)).mono (show w.heap.size<=_ by omega))
            go_wp2
            refine bodyPost_ret (v:=.tuple #[.agg #[.int .i64 e,.slice a4 l.length c4],.int .i64 3]) (by simp [results,Tryz.f53,go_sem,r0,r1]) rfl ?_
            rw [Hap.out]
            exact ⟨_,rfl,HOx.out,HBx.out⟩
        · have hkq:(kd == 3)=false:=by rw [beq_eq_false_iff_ne];exact hk3
          have Hk3:=hide hk3
          have Hsp:Hid (hasA (kd,fm,tO,am,nc) (nm,fr,no,st,ls)=fr):=hide (by unfold hasA;exact if_neg hk3)
          clear hk3
          by_cases hn:no=nc
          · have hnq:(no != nc)=false:=by rw [hn];simp
            by_cases hs:fr < am
            · have Hap:=hide (apA_short (t:=(kd,fm,tO,am,nc)) H2.out hat (by rw [hgd];exact hn) (by rw [hgd,Hsp.out];exact hs))
              clear hn
              have r0:=kR.cell 0
              have r1:=kR.cell 1
              have g0:=kR.frozen 0
              have g1:=kR.frozen 1
              have i0:=kF.cell 0
              have i1:=kF.cell 1
              simp only [List.getElem?_cons_zero,List.getElem?_cons_succ] at r0 r1 i0 i1
              have HBx:=hide ((hB9.setCell (p:=⟨w.heap.size+1+1,0,none⟩) (show w.heap.size<=w.heap.size+1+1 by omega) (.int .i64 e)).setCell (p:=⟨w.heap.size+1+1,1,none⟩) (show w.heap.size<=w.heap.size+1+1 by omega) (.slice a4 l.length c4))
              have HOx:=hide (((o4.older (g:=w.heap.size+1+1) (by omega) 0 (.int .i64 e)).older (g:=w.heap.size+1+1) (by omega) 1 (.slice a4 l.length c4)).mono (show w.heap.size<=_ by omega))
              go_wp2
              refine bodyPost_ret (v:=.tuple #[.agg #[.int .i64 e,.slice a4 l.length c4],.int .i64 4]) (by simp [results,Tryz.f53,go_sem,r0,r1]) rfl ?_
              rw [Hap.out]
              exact ⟨_,rfl,HOx.out,HBx.out⟩
            · have Hful:=hide (apA_full (t:=(kd,fm,tO,am,nc)) H2.out hat (by rw [hgd];exact hn) (by rw [hgd,Hsp.out];exact hs))
              have Hgoo:=hide (apA_good (t:=(kd,fm,tO,am,nc)) H2.out hat (by rw [hgd];exact hn) (by rw [hgd,Hsp.out];exact hs))
              have HDo:=hide (specDo_any e (.slice (some ⟨b,off,none⟩) l.length cv) l (kd,fm,tO,am,nc) k w9 (Hr.out.below hB9 (Nat.le_refl _)) hl Hall.out Htp.out.2.2.2 hk (asc_of_ok l (lg_acs H1.out)))
              have HDl:=hide (doA_len e (kd,fm,tO,am,nc) l k)
              have HDm:=hide (doA_mem (e:=e) (t:=(kd,fm,tO,am,nc)) (l:=l) (k:=k) ht hk Hall.out)
              generalize doA e (kd,fm,tO,am,nc) l k=D at HDo Hful Hgoo HDl HDm
              simp only [lgV,txV] at HDo
              have l0:=kL.cell 0
              have l1:=kL.cell 1
              simp only [List.getElem?_cons_zero,List.getElem?_cons_succ] at l0 l1
              clear hn
              go_wp2_with fail
              refine HDo.out.mono ?_
              rintro en w10 ⟨v10,rfl,o10,hb10⟩
              have hB10:Below w.heap.size w w10:=hB9.trans (hb10.mono hB9.size)
              replace kR:=kR.below hb10 kR.lt
              replace kF:=kF.below hb10 kF.lt
              replace o4:=o4.below hb10 (Nat.le_refl _)
              obtain ⟨a10,c10,rfl⟩:=o10.rd.shape
              obtain ⟨w11,hw11⟩:∃ w11,w10.alloc (.cells #[.int .i64 e,.slice a10 D.length c10] 36)=w11:=⟨_,rfl⟩
              have hb11:Below w10.heap.size w10 w11:=by rw [<- hw11];exact (Below.refl _ w10).alloc (Nat.le_refl _) _
              have kG:Blk w11 w10.heap.size 36 [.int .i64 e,.slice a10 D.length c10]:=by rw [<- hw11];exact Blk.new w10 _ _
              have hB11:Below w.heap.size w w11:=hB10.trans (hb11.mono hB10.size)
              replace kR:=kR.below hb11 kR.lt
              replace kF:=kF.below hb11 kF.lt
              replace o4:=o4.below hb11 (Nat.le_refl _)
              replace o10:=o10.below hb11 (Nat.le_refl _)
              have j0:=kG.cell 0
              have j1:=kG.cell 1
              simp only [List.getElem?_cons_zero,List.getElem?_cons_succ] at j0 j1
              have z9:=hB9.size
              go_wp2_with fail
              refine (HO.out _ D _ o10.rd (by have:=HDl.out;omega) HDm.out).mono ?_
              rintro en w12 ⟨rfl,hb12⟩
              have hB12:Below w.heap.size w w12:=hB11.trans (hb12.mono hB11.size)
              replace kR:=kR.below hb12 kR.lt
              replace kF:=kF.below hb12 kF.lt
              replace kG:=kG.below hb12 kG.lt
              replace o4:=o4.below hb12 (Nat.le_refl _)
              replace o10:=o10.below hb12 (Nat.le_refl _)
              clear j0 j1 l0 l1 t0 t1 t2 t3 t4 a0 a1 a2 a3 a4'
              cases h5:lgB e D
              · have Hap:=hide (Hful.out h5)
                clear h5
                have r0:=kR.cell 0
                have r1:=kR.cell 1
                have g0:=kR.frozen 0
                have g1:=kR.frozen 1
                have i0:=kF.cell 0
                have i1:=kF.cell 1
                simp only [List.getElem?_cons_zero,List.getElem?_cons_succ] at r0 r1 i0 i1
                have HBx:=hide ((hB12.setCell (p:=⟨w.heap.size+1+1,0,none⟩) (show w.heap.size<=w.heap.size+1+1 by omega) (.int .i64 e)).setCell (p:=⟨w.heap.size+1+1,1,none⟩) (show w.heap.size<=w.heap.size+1+1 by omega) (.slice a4 l.length c4))
                have HOx:=hide (((o4.older (g:=w.heap.size+1+1) (by omega) 0 (.int .i64 e)).older (g:=w.heap.size+1+1) (by omega) 1 (.slice a4 l.length c4)).mono (show w.heap.size<=_ by omega))
                go_wp2
                refine bodyPost_ret (v:=.tuple #[.agg #[.int .i64 e,.slice a4 l.length c4],.int .i64 5]) (by simp [results,Tryz.f53,go_sem,r0,r1]) rfl ?_
                rw [Hap.out]
                exact ⟨_,rfl,HOx.out,HBx.out⟩
              · have Hap:=hide (Hgoo.out h5)
                clear h5
                have r0:=kR.cell 0
                have r1:=kR.cell 1
                have g0:=kR.frozen 0
                have g1:=kR.frozen 1
                have i0:=kG.cell 0
                have i1:=kG.cell 1
                simp only [List.getElem?_cons_zero,List.getElem?_cons_succ] at r0 r1 i0 i1
                have HBx:=hide ((hB12.setCell (p:=⟨w.heap.size+1+1,0,none⟩) (show w.heap.size<=w.heap.size+1+1 by omega) (.int .i64 e)).setCell (p:=⟨w.heap.size+1+1,1,none⟩) (show w.heap.size<=w.heap.size+1+1 by omega) (.slice a10 D.length c10))
                have HOx:=hide (((o10.older (g:=w.heap.size+1+1) (by omega) 0 (.int .i64 e)).older (g:=w.heap.size+1+1) (by omega) 1 (.slice a10 D.length c10)).mono (show w.heap.size<=_ by omega))
                go_wp2
                refine bodyPost_ret (v:=.tuple #[.agg #[.int .i64 e,.slice a10 D.length c10],.int .i64 0]) (by simp [results,Tryz.f53,go_sem,r0,r1]) rfl ?_
                rw [Hap.out]
                exact ⟨_,rfl,HOx.out,HBx.out⟩
          · have Hap:=hide (apA_nonce (t:=(kd,fm,tO,am,nc)) H2.out hat (by rw [hgd];exact hn))
            have hnq:(no != nc)=true:=by rw [bne_iff_ne];exact hn
            clear hn
            have r0:=kR.cell 0
            have r1:=kR.cell 1
            have g0:=kR.frozen 0
            have g1:=kR.frozen 1
            have i0:=kF.cell 0
            have i1:=kF.cell 1
            simp only [List.getElem?_cons_zero,List.getElem?_cons_succ] at r0 r1 i0 i1
            have HBx:=hide ((hB9.setCell (p:=⟨w.heap.size+1+1,0,none⟩) (show w.heap.size<=w.heap.size+1+1 by omega) (.int .i64 e)).setCell (p:=⟨w.heap.size+1+1,1,none⟩) (show w.heap.size<=w.heap.size+1+1 by omega) (.slice a4 l.length c4))
            have HOx:=hide (((o4.older (g:=w.heap.size+1+1) (by omega) 0 (.int .i64 e)).older (g:=w.heap.size+1+1) (by omega) 1 (.slice a4 l.length c4)).mono (show w.heap.size<=_ by omega))
            go_wp2
            refine bodyPost_ret (v:=.tuple #[.agg #[.int .i64 e,.slice a4 l.length c4],.int .i64 3]) (by simp [results,Tryz.f53,go_sem,r0,r1]) rfl ?_
            rw [Hap.out]
            exact ⟨_,rfl,HOx.out,HBx.out⟩
end Go.Proofs.YthehfkafcdociaaGreatDoor
