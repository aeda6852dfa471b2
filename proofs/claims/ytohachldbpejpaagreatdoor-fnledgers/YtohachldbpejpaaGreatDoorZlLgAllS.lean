/- The model's orders one behind the other. -/
import Derived.Test.YtohachldbpejpaaGreatDoorZlLgDoS
set_option maxRecDepth 20000
set_option maxHeartbeats 4000000
namespace Go.Proofs.YtohachldbpejpaaGreatDoor
open Go.RowKit
set_option linter.unusedVariables false
theorem specDoU_any (e:Int) (v:Value) (l:List Ac) (t:Tx5) (k:Nat) (w:World) (hr:RdA w v l) (hl:l.length<=3999999) (hall:∀ a ∈ l,a.1.size<=maxLen/\a.2.2.2.2.length<=3999999) (hkd:t.1=3) (hk:k < l.length) (hasc:AscA l) :
    Calls Tryz.prog 156 #[lgV e v,txV t,.int .i64 (k:Int)] w fun en w'=>∃ v',en=.returned (lgV e v')/\OwnA w.heap.size w' v' (doA e t l k)/\Below w.heap.size w w':=by
  obtain ⟨av,cv,rfl⟩:=hr.shape
  have hall2:∀ a ∈ l,a.2.2.2.2.length<=4000000:=fun a ha=>by have:=hall a ha;omega
  obtain ⟨kd,fm,tO,am,nc⟩:=t
  obtain ⟨w1,hw1⟩:∃ w1,w.alloc (.cells #[.int .i64 e,.slice av l.length cv] 26)=w1:=⟨_,rfl⟩
  obtain ⟨w2,hw2⟩:∃ w2,w1.alloc (.cells #[.int .i64 kd,.string fm,.string tO,.int .i64 am,.int .i64 nc] 35)=w2:=⟨_,rfl⟩
  obtain ⟨w3,hw3⟩:∃ w3,w2.alloc (.cells #[.int .i64 0,.slice none 0 0] 26)=w3:=⟨_,rfl⟩
  have s1:w1.heap.size=w.heap.size+1:=by rw [<- hw1];simp
  have s2:w2.heap.size=w.heap.size+1+1:=by rw [<- hw2];simp;omega
  have s3:w3.heap.size=w.heap.size+1+1+1:=by rw [<- hw3];simp;omega
  have hB3:Below w.heap.size w w3:=by rw [<- hw3,<- hw2,<- hw1];exact (((Below.refl _ w).alloc (Nat.le_refl _) _).alloc (by simp) _).alloc (by simp;omega) _
  have kL:Blk w3 w.heap.size 26 [.int .i64 e,.slice av l.length cv]:=by rw [<- hw3,<- hw2,<- hw1];exact ((Blk.new w _ _).alloc _).alloc _
  have kT:Blk w3 (w.heap.size+1) 35 [.int .i64 kd,.string fm,.string tO,.int .i64 am,.int .i64 nc]:=by
    rw [<- hw3,<- hw2,<- s1]
    exact (Blk.new w1 _ _).alloc _
  have kR:Blk w3 (w.heap.size+1+1) 26 [.int .i64 0,.slice none 0 0]:=by rw [<- hw3,<- s2];exact Blk.new w2 _ _
  have HD:=hide (specL6Copy_any e (.slice av l.length cv) l w3 (hr.below hB3 (Nat.le_refl _)) (by omega) hall2)
  have Hall:=hide hall
  have Hasc:=hide hasc
  simp only [lgV,txV] at HD ⊢
  have l0:=kL.cell 0
  have l1:=kL.cell 1
  simp only [List.getElem?_cons_zero,List.getElem?_cons_succ] at l0 l1
  clear hall hall2 hasc hr
  go_enter Tryz.func156,Tryz.ntmps156
  go_wp2_with fail
  refine HD.out.mono ?_
  rintro en w4 ⟨v4,rfl,o4,hb4⟩
  have hB4:Below w.heap.size w w4:=hB3.trans (hb4.mono hB3.size)
  replace kL:=kL.below hb4 kL.lt
  replace kT:=kT.below hb4 kT.lt
  replace kR:=kR.below hb4 kR.lt
  obtain ⟨g,cap,Z,rfl,hZ,hG⟩:=o4.rowG
  have hgl:=hG.lt
  have hlo:∀ i (hi:i < Z.length) r,Z[i].2.ownBlock=some r->r < w4.heap.size:=fun i hi r hr=>(hG.lvs.own i hi).lt r hr
  obtain ⟨w5,hw5⟩:∃ w5,w4.alloc (.cells #[.int .i64 e,.slice (some ⟨g,0,none⟩) l.length cap] 26)=w5:=⟨_,rfl⟩
  have hb5:Below w4.heap.size w4 w5:=by rw [<- hw5];exact (Below.refl _ w4).alloc (Nat.le_refl _) _
  have kF:Blk w5 w4.heap.size 26 [.int .i64 e,.slice (some ⟨g,0,none⟩) l.length cap]:=by rw [<- hw5];exact Blk.new w4 _ _
  have s5:w5.heap.size=w4.heap.size+1:=by rw [<- hw5];simp
  have hB5:Below w.heap.size w w5:=hB4.trans (hb5.mono hB4.size)
  replace kL:=kL.below hb5 kL.lt
  replace kT:=kT.below hb5 kT.lt
  replace kR:=kR.below hb5 kR.lt
  have hG5:=hG.below hb5 (Nat.le_refl _)
  have hkZ:k < Z.length:=by have:=hG5.len;omega
  have hZk:Z[k].1=l[k]:=fst_get hZ k hkZ hk
  have hlen:=Hall.out l[k] (List.getElem_mem _)
  obtain ⟨c0,c1,c2,c3,c4⟩:=hG5.at k hkZ
  have hown:=hG5.lvs.own k hkZ
  have hshape:=hown.rd.shape
  obtain ⟨q,hq⟩:∃ q,Z[k]=q:=⟨_,rfl⟩
  have hlk:l[k]=q.1:=by rw [<- hZk,hq]
  rw [<- hZk] at hlen
  rw [hq] at c0 c1 c2 c3 c4 hown hshape hlen
  obtain ⟨⟨nm,fr,no,st,ls⟩,lv⟩:=q
  simp only at c0 c1 c2 c3 c4 hown hshape hlen hlk
  obtain ⟨av',cv',rfl⟩:=hshape
  have hki:(k:Int) < (l.length:Int):=by omega
  have hcap:=hG5.caps
  have f0:=kF.cell 0
  have f1:=kF.cell 1
  have t0:=kT.cell 0
  have t2:=kT.cell 2
  have t3:=kT.cell 3
  have l0:=kL.cell 0
  have q1:=hG5.frozen (k * 5+1)
  have q2:=hG5.frozen (k * 5+2)
  have q3:=hG5.frozen (k * 5+3)
  have q4:=hG5.frozen (k * 5+4)
  simp only [List.getElem?_cons_zero,List.getElem?_cons_succ] at f0 f1 t0 t2 t3 l0
  have hiS:∀ q:Ac × Value,k < (Z.set k q).length:=fun q=>by simpa using hkZ
  obtain ⟨w6,hw6⟩:∃ w6,w5.setCell ⟨g,k * 5+2,none⟩ (.int .i64 (wrap64 (no+1)))=w6:=⟨_,rfl⟩
  have hG6:RowG w3.heap.size w6 g l.length cap (Z.set k ((nm,fr,wrap64 (no+1),st,ls),.slice av' ls.length cv')):=by
    rw [<- hw6]
    exact hG5.put k hkZ 2 (by omega) _ _ (by rw [hq];rfl) (by rw [hq];rfl)
  have m6:∀ {B:Nat} {t:TypeId} {cs:List Value},Blk w5 B t cs->B ≠ g->Blk w6 B t cs:=fun h hne=>by rw [<- hw6];exact h.other _ _ _ hne
  have kT6:=m6 kT (by omega)
  have kR6:=m6 kR (by omega)
  have kF6:=m6 kF (by omega)
  have kL6:=m6 kL (by omega)
  have hB6:Below w.heap.size w w6:=by rw [<- hw6];exact hB5.setCell (p:=⟨g,k * 5+2,none⟩) (show w.heap.size<=g by omega) _
  obtain ⟨d0,d1,d2,d3,d4⟩:=hG6.at k (hiS _)
  rw [set_get] at d0 d1 d2 d3 d4
  have e0:=kF6.cell 0
  have e1:=kF6.cell 1
  have u0:=kT6.cell 0
  have u2:=kT6.cell 2
  have u3:=kT6.cell 3
  have y0:=kL6.cell 0
  have p1:=hG6.frozen (k * 5+1)
  have p3:=hG6.frozen (k * 5+3)
  have p4:=hG6.frozen (k * 5+4)
  simp only [List.getElem?_cons_zero,List.getElem?_cons_succ] at d0 d1 d2 d3 d4 e0 e1 u0 u2 u3 y0
  have HG6:=hide hG6
  have KT6:=hide kT6
  have KR6:=hide kR6
  have KF6:=hide kF6
  have KL6:=hide kL6
  have HB6:=hide hB6
  have HZ:=hide hZ
  have Hlk:=hide hlk
  have z6:w6.heap.size=w5.heap.size:=by rw [<- hw6];simp
  have z4:=hb4.size
  clear hG6 kT6 kR6 kF6 kL6 hB6 hG5 kT kR kF kL hB5 hG o4 m6 hZ hlk hown HD
  obtain rfl:kd=3:=hkd
  have hG6:=HG6.out
  have kT6:=KT6.out
  have kR6:=KR6.out
  have kF6:=KF6.out
  have kL6:=KL6.out
  have hB6:=HB6.out
  obtain ⟨w7,hw7⟩:∃ w7,(w6.setCell ⟨g,k * 5+3,none⟩ (.int .i64 (wrap64 (st - am)))).drew=w7:=⟨_,rfl⟩
  have hG7:RowG w3.heap.size w7 g l.length cap (Z.set k ((nm,fr,wrap64 (no+1),wrap64 (st - am),ls),.slice av' ls.length cv')):=by
    have h:=hG6.put k (hiS _) 3 (by omega) (.int .i64 (wrap64 (st - am))) ((nm,fr,wrap64 (no+1),wrap64 (st - am),ls),.slice av' ls.length cv') (by rw [set_get];rfl) (by rw [set_get];rfl)
    rw [List.set_set] at h
    rw [<- hw7]
    exact h.below (Below.refl _ _).drew (Nat.le_refl _)
  have m7:∀ {B:Nat} {t:TypeId} {cs:List Value},Blk w6 B t cs->B ≠ g->Blk w7 B t cs:=fun h hne=>by rw [<- hw7];have hh:=h.other g (k * 5+3) (.int .i64 (wrap64 (st - am))) hne;exact hh
  have kT7:=m7 kT6 (by omega)
  have kR7:=m7 kR6 (by omega)
  have kF7:=m7 kF6 (by omega)
  have kL7:=m7 kL6 (by omega)
  have hB7:Below w.heap.size w w7:=by rw [<- hw7];exact (hB6.setCell (p:=⟨g,k * 5+3,none⟩) (show w.heap.size<=g by omega) _).drew
  have z7:w7.heap.size=w6.heap.size:=by rw [<- hw7];simp
  obtain ⟨v0,v1,v2,v3,v4⟩:=hG7.at k (hiS _)
  rw [set_get] at v0 v1 v2 v3 v4
  have x4:=hG7.frozen (k * 5+4)
  have u13:=kT7.cell 3
  have y10:=kL7.cell 0
  simp only [List.getElem?_cons_zero,List.getElem?_cons_succ] at v0 v1 v2 v3 v4 u13 y10
  go_wp2
  refine region_tail 8 (by kernel_rfl) (by kernel_rfl) ?_
  simp only [List.take_succ_cons,List.take_zero,List.drop_succ_cons,List.drop_zero]
  repeat still_step
  refine wpStill_nil ?_
  have hown7:=hG7.lvs.own k (hiS _)
  rw [set_get] at hown7
  have hwr:wrap64 (e+2)=IntKind.i64.wrap (e+2):=by rw [IntKind.wrap_i64];unfold wrap64;rfl
  have HLv:Hid (∀ W,Below w7.heap.size w7 W->Calls Tryz.prog 202 #[.slice av' ls.length cv',.int .i64 am,.int .i64 (IntKind.i64.wrap (e+2))] W fun en w'=>∃ v',en=.returned v'/\OwnL W.heap.size w' v' (lvP am (wrap64 (e+2)) ls)/\Below W.heap.size W w'/\Below w7.heap.size w7 w'/\w7.heap.size<=W.heap.size):=hide (fun W hb=>hwr ▸ (specL6Leave_any (.slice av' ls.length cv') ls am (wrap64 (e+2)) W (hown7.rd.below hb (Nat.le_refl _)) (by omega)).mono (fun en w' ⟨v',h1,h2,h3⟩=>⟨v',h1,h2,h3,hb.trans (h3.mono hb.size),hb.size⟩))
  have HG7:=hide hG7
  have KR7:=hide kR7
  have KF7:=hide kF7
  have HB7:=hide hB7
  clear hwr hG6 hG7 kT6 kT7 kR6 kR7 kF6 kF7 kL6 kL7 hB6 hB7 m7 hown7
  go_wp2
  go_region_law ((go_simp;go_at_call 202;refine (HLv.out _ (by first | exact Below.refl _ _ | exact (Below.refl _ _).drew | exact below_drewN (Below.refl _ _) _)).mono ?_;rintro en w8 ⟨v8,rfl,o8,hb8,b8,z8⟩;have hsh:=o8.rd.shape;obtain ⟨a8,c8,hv8⟩:=hsh;subst hv8;have hG8:=HG7.out.below b8 (Nat.le_refl _);have x8:=(hG8.at k (hiS _)).c4;rw [set_get] at x8;have x8f:=hG8.frozen (k * 5+4);simp only at x8))
  all_goals
    have hge:=o8.ge
    have zz7:w7.drew.heap.size=w7.heap.size:=rfl
    have hG9:=hG8.putL k (hiS _) ((nm,fr,wrap64 (no+1),wrap64 (st - am),lvP am (wrap64 (e+2)) ls),.slice a8 (lvP am (wrap64 (e+2)) ls).length c8) (by rw [set_get];rfl) (o8.mono (by omega)) (fun r hr=>by have:=hge r hr;omega) (fun i hi hik r hr e=>by have h3:=(HG7.out.lvs.own i hi).lt r hr;have:=hge r e;omega)
    rw [List.set_set] at hG9
    have kR8:=KR7.out.below b8 KR7.out.lt
    have kF8:=KF7.out.below b8 KF7.out.lt
    have hB8:=HB7.out.trans (b8.mono HB7.out.size)
    obtain ⟨w9,hw9⟩:∃ w9,w8.setCell ⟨g,k * 5+4,none⟩ (.slice a8 (lvP am (wrap64 (e+2)) ls).length c8)=w9:=⟨_,rfl⟩
    have kR9:Blk w9 (w.heap.size+1+1) 26 [.int .i64 0,.slice none 0 0]:=by rw [<- hw9];exact kR8.other _ _ _ (by omega)
    have kF9:Blk w9 w4.heap.size 26 [.int .i64 e,.slice (some ⟨g,0,none⟩) l.length cap]:=by rw [<- hw9];exact kF8.other _ _ _ (by omega)
    have hB9:Below w.heap.size w w9:=by rw [<- hw9];exact hB8.setCell (p:=⟨g,k * 5+4,none⟩) (show w.heap.size<=g by omega) _
    rw [hw9] at hG9
    have o9:=hG9.own
    have hdo:l.set k (nm,fr,wrap64 (no+1),wrap64 (st - am),lvP am (wrap64 (e+2)) ls)=doA e (3,fm,tO,am,nc) l k:=by
      unfold doA
      rw [if_neg (show ¬ (3:Int)=1 by decide),getD_at l k hk,Hlk.out]
      rfl
    rw [fst_set,HZ.out,hdo] at o9
    have r0:=kR9.cell 0
    have r1:=kR9.cell 1
    have g0:=kR9.frozen 0
    have g1:=kR9.frozen 1
    have i0:=kF9.cell 0
    have i1:=kF9.cell 1
    simp only [List.getElem?_cons_zero,List.getElem?_cons_succ] at r0 r1 i0 i1
    have HBx:=hide ((hB9.setCell (p:=⟨w.heap.size+1+1,0,none⟩) (show w.heap.size<=w.heap.size+1+1 by omega) (.int .i64 e)).setCell (p:=⟨w.heap.size+1+1,1,none⟩) (show w.heap.size<=w.heap.size+1+1 by omega) (.slice (some ⟨g,0,none⟩) l.length cap))
    have HOx:=hide (((o9.older (g:=w.heap.size+1+1) (by omega) 0 (.int .i64 e)).older (g:=w.heap.size+1+1) (by omega) 1 (.slice (some ⟨g,0,none⟩) l.length cap)).mono (show w.heap.size<=_ by omega))
    rw [hw9]
    clear hG8 hG9 kR8 kF8 hB8 kR9 kF9 hB9 o8 o9 hdo hge x8 x8f v0 v1 v2 v3 v4 hw9
    go_wp2
    refine bodyPost_ret (v:=.agg #[.int .i64 e,.slice (some ⟨g,0,none⟩) l.length cap]) (by simp [results,Tryz.f156,go_sem,r0,r1]) rfl ?_
    exact ⟨_,rfl,HOx.out,HBx.out⟩
theorem specDo_any (e:Int) (v:Value) (l:List Ac) (t:Tx5) (k:Nat) (w:World) (hr:RdA w v l) (hl:l.length<=3999999) (hall:∀ a ∈ l,a.1.size<=maxLen/\a.2.2.2.2.length<=3999999) (hkd:t.1=1\/t.1=2\/t.1=3) (hk:k < l.length) (hasc:AscA l) :
    Calls Tryz.prog 156 #[lgV e v,txV t,.int .i64 (k:Int)] w fun en w'=>∃ v',en=.returned (lgV e v')/\OwnA w.heap.size w' v' (doA e t l k)/\Below w.heap.size w w':=by
  rcases hkd with h | h | h
  · exact specDoPB_any e v l t k w hr hl hall (.inl h) hk hasc
  · exact specDoPB_any e v l t k w hr hl hall (.inr h) hk hasc
  · exact specDoU_any e v l t k w hr hl hall h hk hasc
theorem doA_len (e:Int) (t:Tx5) (l:List Ac) (k:Nat):(doA e t l k).length<=l.length+1:=by
  unfold doA
  split
  · refine Nat.le_trans (insA_len _ _) (by simp)
  · simp
theorem doA_mem {e:Int} {t:Tx5} {l:List Ac} {k:Nat} (ht:t.2.2.1.size<=maxLen) (hk:k < l.length) (h:∀ a ∈ l,a.1.size<=maxLen/\a.2.2.2.2.length<=3999999):∀ a ∈ doA e t l k,a.1.size<=maxLen/\a.2.2.2.2.length<=4000000:=by
  have hL : ∀ a ∈ l.set k (gvA e t (l.getD k ac0)),a.1.size<=maxLen/\a.2.2.2.2.length<=4000000:=fun a ha=>by
    rcases List.mem_or_eq_of_mem_set ha with h' | h'
    · have:=h a h';omega
    · have h1:=h l[k] (List.getElem_mem _)
      have h2:(gvA e t l[k]).2.2.2.2.length<=l[k].2.2.2.2.length+1:=by
        unfold gvA
        split
        · simp
        · split
          · simp
          · exact lvP_len _ _ _
      subst h'
      rw [getD_at l k hk,gvA_name]
      omega
  unfold doA
  split
  · intro a ha
    rcases insA_mem _ _ _ ha with rfl | ha
    · refine ⟨by rw [aftA_name];exact ht,?_⟩
      unfold aftA
      cases hg:getA t.2.2.1 (l.set k (gvA e t (l.getD k ac0))) with
      | none=>simp
      | some b=>exact (hL b (getA_some hg).2).2
    · exact hL a ha
  · exact hL
theorem specApply_any (e:Int) (v:Value) (l:List Ac) (t:Tx5) (w:World) (hr:RdA w v l) (hl:l.length<=3999999) (hall:∀ a ∈ l,a.1.size<=maxLen/\a.2.2.2.2.length<=3999999) (hf:t.2.1.size<=maxLen) (ht:t.2.2.1.size<=maxLen) :
    Calls Tryz.prog 95 #[lgV e v,txV t] w fun en w'=>∃ v',en=.returned (.tuple #[lgV e v',.int .i64 (apA e l t).2])/\OwnA w.heap.size w' v' (apA e l t).1/\Below w.heap.size w w':=by
  obtain ⟨av,cv,rfl⟩:=hr.shape
  have hall1:∀ a ∈ l,a.1.size<=maxLen/\a.2.2.2.2.length<=4000000:=fun a ha=>by have:=hall a ha;omega
  have hall2:∀ a ∈ l,a.2.2.2.2.length<=4000000:=fun a ha=>(hall1 a ha).2
  obtain ⟨kd,fm,tO,am,nc⟩:=t
  obtain ⟨w1,hw1⟩:∃ w1,w.alloc (.cells #[.int .i64 e,.slice av l.length cv] 26)=w1:=⟨_,rfl⟩
  obtain ⟨w2,hw2⟩:∃ w2,w1.alloc (.cells #[.int .i64 kd,.string fm,.string tO,.int .i64 am,.int .i64 nc] 35)=w2:=⟨_,rfl⟩
  obtain ⟨w3,hw3⟩:∃ w3,w2.alloc (.cells #[.int .i64 0,.slice none 0 0] 26)=w3:=⟨_,rfl⟩
  have s1:w1.heap.size=w.heap.size+1:=by rw [<- hw1];simp
  have s2:w2.heap.size=w.heap.size+1+1:=by rw [<- hw2];simp;omega
  have s3:w3.heap.size=w.heap.size+1+1+1:=by rw [<- hw3];simp;omega
  have hB3:Below w.heap.size w w3:=by rw [<- hw3,<- hw2,<- hw1];exact (((Below.refl _ w).alloc (Nat.le_refl _) _).alloc (by simp) _).alloc (by simp;omega) _
  have kL:Blk w3 w.heap.size 26 [.int .i64 e,.slice av l.length cv]:=by rw [<- hw3,<- hw2,<- hw1];exact ((Blk.new w _ _).alloc _).alloc _
  have kT:Blk w3 (w.heap.size+1) 35 [.int .i64 kd,.string fm,.string tO,.int .i64 am,.int .i64 nc]:=by
    rw [<- hw3,<- hw2,<- s1]
    exact (Blk.new w1 _ _).alloc _
  have kR:Blk w3 (w.heap.size+1+1) 26 [.int .i64 0,.slice none 0 0]:=by rw [<- hw3,<- s2];exact Blk.new w2 _ _
  have HO:=hide (fun V m W h (h1:m.length<=4000000) h2=>specLedgerOk_any e V m W h h1 h2)
  have HX:=hide (fun W=>specTxOk_any (kd,fm,tO,am,nc) W hf ht)
  have HD:=hide (fun W h=>specL6Copy_any e (.slice av l.length cv) l W h (by omega) hall2)
  have HA:=hide (fun W h=>specAcctAt_any (.slice av l.length cv) l fm W h (by omega))
  have Hr:=hide hr
  have Hall:=hide hall
  have Hall1:=hide hall1
  simp only [lgV,txV] at HO HX HD ⊢
  have l0:=kL.cell 0
  have l1:=kL.cell 1
  simp only [List.getElem?_cons_zero,List.getElem?_cons_succ] at l0 l1
  clear hr hall hall1 hall2
  go_enter Tryz.func95,Tryz.ntmps95
  go_wp2_with fail
  refine (HD.out _ (Hr.out.below hB3 (Nat.le_refl _))).mono ?_
  rintro en w4 ⟨v4,rfl,o4,hb4⟩
  have hB4:Below w.heap.size w w4:=hB3.trans (hb4.mono hB3.size)
  replace kL:=kL.below hb4 kL.lt
  replace kT:=kT.below hb4 kT.lt
  replace kR:=kR.below hb4 kR.lt
  obtain ⟨a4,c4,rfl⟩:=o4.rd.shape
  obtain ⟨w5,hw5⟩:∃ w5,w4.alloc (.cells #[.int .i64 e,.slice a4 l.length c4] 26)=w5:=⟨_,rfl⟩
  have hb5:Below w4.heap.size w4 w5:=by rw [<- hw5];exact (Below.refl _ w4).alloc (Nat.le_refl _) _
  have kF:Blk w5 w4.heap.size 26 [.int .i64 e,.slice a4 l.length c4]:=by rw [<- hw5];exact Blk.new w4 _ _
  have s5:w5.heap.size=w4.heap.size+1:=by rw [<- hw5];simp
  have hB5:Below w.heap.size w w5:=hB4.trans (hb5.mono hB4.size)
  replace kL:=kL.below hb5 kL.lt
  replace kT:=kT.below hb5 kT.lt
  replace kR:=kR.below hb5 kR.lt
  replace o4:=o4.below hb5 (Nat.le_refl _)
  have l0:=kL.cell 0
  have l1:=kL.cell 1
  simp only [List.getElem?_cons_zero,List.getElem?_cons_succ] at l0 l1
  go_wp2_with fail
  refine (HO.out _ l _ (Hr.out.below hB5 (Nat.le_refl _)) (by omega) Hall1.out).mono ?_
  rintro en w6 ⟨rfl,hb6⟩
  have hB6:Below w.heap.size w w6:=hB5.trans (hb6.mono hB5.size)
  replace kL:=kL.below hb6 kL.lt
  replace kT:=kT.below hb6 kT.lt
  replace kR:=kR.below hb6 kR.lt
  replace kF:=kF.below hb6 kF.lt
  replace o4:=o4.below hb6 (Nat.le_refl _)
  clear l0 l1
  have z4:=hb4.size
  cases h1:lgB e l
  · have Hap:=hide (apA_form (e:=e) (l:=l) (t:=(kd,fm,tO,am,nc)) (by rw [h1];rfl))
    have r0:=kR.cell 0
    have r1:=kR.cell 1
    have g0:=kR.frozen 0
    have g1:=kR.frozen 1
    have i0:=kF.cell 0
    have i1:=kF.cell 1
    simp only [List.getElem?_cons_zero,List.getElem?_cons_succ] at r0 r1 i0 i1
    have HBx:=hide ((hB6.setCell (p:=⟨w.heap.size+1+1,0,none⟩) (show w.heap.size<=w.heap.size+1+1 by omega) (.int .i64 e)).setCell (p:=⟨w.heap.size+1+1,1,none⟩) (show w.heap.size<=w.heap.size+1+1 by omega) (.slice a4 l.length c4))
    have HOx:=hide (((o4.older (g:=w.heap.size+1+1) (by omega) 0 (.int .i64 e)).older (g:=w.heap.size+1+1) (by omega) 1 (.slice a4 l.length c4)).mono (show w.heap.size<=_ by omega))
    clear h1
    go_wp2
    refine bodyPost_ret (v:=.tuple #[.agg #[.int .i64 e,.slice a4 l.length c4],.int .i64 1]) (by simp [results,Tryz.f95,go_sem,r0,r1]) rfl ?_
    rw [Hap.out]
    exact ⟨_,rfl,HOx.out,HBx.out⟩
  · have H1 := hide h1
    clear h1
    have t0:=kT.cell 0
    have t1:=kT.cell 1
    have t2:=kT.cell 2
    have t3:=kT.cell 3
    have t4:=kT.cell 4
    simp only [List.getElem?_cons_zero,List.getElem?_cons_succ] at t0 t1 t2 t3 t4
    go_wp2_with fail
    refine (HX.out _).mono ?_
    rintro en w7 ⟨rfl,hb7⟩
    have hB7:Below w.heap.size w w7:=hB6.trans (hb7.mono hB6.size)
    replace kL:=kL.below hb7 kL.lt
    replace kT:=kT.below hb7 kT.lt
    replace kR:=kR.below hb7 kR.lt
    replace kF:=kF.below hb7 kF.lt
    replace o4:=o4.below hb7 (Nat.le_refl _)
    clear t0 t1 t2 t3 t4
    cases h2:txB (kd,fm,tO,am,nc)
    · have Hap:=hide (apA_form (e:=e) (l:=l) (t:=(kd,fm,tO,am,nc)) (by rw [H1.out,h2];rfl))
      clear h2
      have r0:=kR.cell 0
      have r1:=kR.cell 1
      have g0:=kR.frozen 0
      have g1:=kR.frozen 1
      have i0:=kF.cell 0
      have i1:=kF.cell 1
      simp only [List.getElem?_cons_zero,List.getElem?_cons_succ] at r0 r1 i0 i1
      have HBx:=hide ((hB7.setCell (p:=⟨w.heap.size+1+1,0,none⟩) (show w.heap.size<=w.heap.size+1+1 by omega) (.int .i64 e)).setCell (p:=⟨w.heap.size+1+1,1,none⟩) (show w.heap.size<=w.heap.size+1+1 by omega) (.slice a4 l.length c4))
      have HOx:=hide (((o4.older (g:=w.heap.size+1+1) (by omega) 0 (.int .i64 e)).older (g:=w.heap.size+1+1) (by omega) 1 (.slice a4 l.length c4)).mono (show w.heap.size<=_ by omega))
      go_wp2
      refine bodyPost_ret (v:=.tuple #[.agg #[.int .i64 e,.slice a4 l.length c4],.int .i64 1]) (by simp [results,Tryz.f95,go_sem,r0,r1]) rfl ?_
      rw [Hap.out]
      exact ⟨_,rfl,HOx.out,HBx.out⟩
    · have H2 : Hid ((lgB e l && txB (kd,fm,tO,am,nc))=true):=hide (by rw [H1.out,h2];rfl)
      have Hx:=hide h2
      have l1:=kL.cell 1
      have t1:=kT.cell 1
      simp only [List.getElem?_cons_zero,List.getElem?_cons_succ] at l1 t1
      clear h2 HX HD
      go_wp2_with fail
      refine (HA.out _ (Hr.out.below hB7 (Nat.le_refl _))).mono ?_
      rintro en w8 ⟨rfl,hb8⟩
      have hB8:Below w.heap.size w w8:=hB7.trans (hb8.mono hB7.size)
      replace kL:=kL.below hb8 kL.lt
      replace kT:=kT.below hb8 kT.lt
      replace kR:=kR.below hb8 kR.lt
      replace kF:=kF.below hb8 kF.lt
      replace o4:=o4.below hb8 (Nat.le_refl _)
      clear l1 t1
      rcases at_cases l fm with hat | ⟨k,hk,hat,hkn,hkb⟩
      · have Hap:=hide (apA_none (t:=(kd,fm,tO,am,nc)) H2.out (by show atA l fm < 0;rw [hat];decide))
        rw [hat]
        have r0:=kR.cell 0
        have r1:=kR.cell 1
        have g0:=kR.frozen 0
        have g1:=kR.frozen 1
        have i0:=kF.cell 0
        have i1:=kF.cell 1
        simp only [List.getElem?_cons_zero,List.getElem?_cons_succ] at r0 r1 i0 i1
        have HBx:=hide ((hB8.setCell (p:=⟨w.heap.size+1+1,0,none⟩) (show w.heap.size<=w.heap.size+1+1 by omega) (.int .i64 e)).setCell (p:=⟨w.heap.size+1+1,1,none⟩) (show w.heap.size<=w.heap.size+1+1 by omega) (.slice a4 l.length c4))
        have HOx:=hide (((o4.older (g:=w.heap.size+1+1) (by omega) 0 (.int .i64 e)).older (g:=w.heap.size+1+1) (by omega) 1 (.slice a4 l.length c4)).mono (show w.heap.size<=_ by omega))
        go_wp2
        refine bodyPost_ret (v:=.tuple #[.agg #[.int .i64 e,.slice a4 l.length c4],.int .i64 2]) (by simp [results,Tryz.f95,go_sem,r0,r1]) rfl ?_
        rw [Hap.out]
        exact ⟨_,rfl,HOx.out,HBx.out⟩
      · rw [hat]
        have hrd8:=Hr.out.below hB8 (Nat.le_refl _)
        obtain ⟨b,off,lv,hav,hc1,hc2,hbw,hatk,hrl⟩:∃ b off lv,av=some ⟨b,off,none⟩/\l.length<=cv/\cv<=maxLen/\b < w8.heap.size/\AcAt w8 b (off+k * 5) l[k] lv/\RdL w8 lv l[k].2.2.2.2:=by
          rcases hrd8 with ⟨a',cap',e1,e2,-⟩ | ⟨b,off,cap',h0,e1,h1,h2,h3,h4⟩
          · rw [e2] at hk;simp at hk
          · simp only [Value.slice.injEq,true_and] at e1
            obtain ⟨rfl,rfl⟩:=e1
            obtain ⟨lv,q1,q2⟩:=h4 k hk
            exact ⟨b,off,lv,rfl,h1,h2,h3,q1,q2⟩
        subst hav
        have hgd:l.getD k ac0=l[k]:=getD_at l k hk
        have Htp:=hide (tx_parts Hx.out)
        obtain ⟨x0,x1,x2,x3,x4⟩:=hatk
        have hshape:=hrl.shape
        obtain ⟨q,hq⟩:∃ q,l[k]=q:=⟨_,rfl⟩
        rw [hq] at x0 x1 x2 x3 hgd hshape
        obtain ⟨nm,fr,no,st,ls⟩:=q
        simp only at x0 x1 x2 x3 hgd hshape Htp
        obtain ⟨av',cv',rfl⟩:=hshape
        have hki:(k:Int) < (l.length:Int):=by omega
        obtain ⟨w9,hw9⟩:∃ w9,w8.alloc (.cells #[.string nm,.int .i64 fr,.int .i64 no,.int .i64 st,.slice av' ls.length cv'] 105)=w9:=⟨_,rfl⟩
        have hb9:Below w8.heap.size w8 w9:=by rw [<- hw9];exact (Below.refl _ w8).alloc (Nat.le_refl _) _
        have kA:Blk w9 w8.heap.size 105 [.string nm,.int .i64 fr,.int .i64 no,.int .i64 st,.slice av' ls.length cv']:=by rw [<- hw9];exact Blk.new w8 _ _
        have l1:=kL.cell 1
        simp only [List.getElem?_cons_zero,List.getElem?_cons_succ] at l1
        have Kl8:=kL
        have hB9:Below w.heap.size w w9:=hB8.trans (hb9.mono hB8.size)
        replace kL:=kL.below hb9 kL.lt
        replace kT:=kT.below hb9 kT.lt
        replace kR:=kR.below hb9 kR.lt
        replace kF:=kF.below hb9 kF.lt
        replace o4:=o4.below hb9 (Nat.le_refl _)
        have zR:=kR.lt
        have a0:=kA.cell 0
        have a1:=kA.cell 1
        have a2:=kA.cell 2
        have a3:=kA.cell 3
        have a4':=kA.cell 4
        have t0:=kT.cell 0
        have t1:=kT.cell 1
        have t2:=kT.cell 2
        have t3:=kT.cell 3
        have t4:=kT.cell 4
        simp only [List.getElem?_cons_zero,List.getElem?_cons_succ] at a0 a1 a2 a3 a4' t0 t1 t2 t3 t4
        by_cases hk3:kd=3
        · subst hk3
          have Hsp:Hid (hasA (3,fm,tO,am,nc) (nm,fr,no,st,ls)=st):=hide (by unfold hasA;exact if_pos rfl)
          by_cases hn:no=nc
          · have hnq:(no != nc)=false:=by rw [hn];simp
            by_cases hs:st < am
            · have Hap:=hide (apA_short (t:=(3,fm,tO,am,nc)) H2.out hat (by rw [hgd];exact hn) (by rw [hgd,Hsp.out];exact hs))
              clear hn
              have r0:=kR.cell 0
              have r1:=kR.cell 1
              have g0:=kR.frozen 0
              have g1:=kR.frozen 1
              have i0:=kF.cell 0
              have i1:=kF.cell 1
              simp only [List.getElem?_cons_zero,List.getElem?_cons_succ] at r0 r1 i0 i1
              have HBx:=hide ((hB9.setCell (p:=⟨w.heap.size+1+1,0,none⟩) (show w.heap.size<=w.heap.size+1+1 by omega) (.int .i64 e)).setCell (p:=⟨w.heap.size+1+1,1,none⟩) (show w.heap.size<=w.heap.size+1+1 by omega) (.slice a4 l.length c4))
              have HOx:=hide (((o4.older (g:=w.heap.size+1+1) (by omega) 0 (.int .i64 e)).older (g:=w.heap.size+1+1) (by omega) 1 (.slice a4 l.length c4)).mono (show w.heap.size<=_ by omega))
              go_wp2
              refine bodyPost_ret (v:=.tuple #[.agg #[.int .i64 e,.slice a4 l.length c4],.int .i64 4]) (by simp [results,Tryz.f95,go_sem,r0,r1]) rfl ?_
              rw [Hap.out]
              exact ⟨_,rfl,HOx.out,HBx.out⟩
            · have Hful:=hide (apA_full (t:=(3,fm,tO,am,nc)) H2.out hat (by rw [hgd];exact hn) (by rw [hgd,Hsp.out];exact hs))
              have Hgoo:=hide (apA_good (t:=(3,fm,tO,am,nc)) H2.out hat (by rw [hgd];exact hn) (by rw [hgd,Hsp.out];exact hs))
              have HDo:=hide (specDo_any e (.slice (some ⟨b,off,none⟩) l.length cv) l (3,fm,tO,am,nc) k w9 (Hr.out.below hB9 (Nat.le_refl _)) hl Hall.out Htp.out.2.2.2 hk (asc_of_ok l (lg_acs H1.out)))
              have HDl:=hide (doA_len e (3,fm,tO,am,nc) l k)
              have HDm:=hide (doA_mem (e:=e) (t:=(3,fm,tO,am,nc)) (l:=l) (k:=k) ht hk Hall.out)
              generalize doA e (3,fm,tO,am,nc) l k=D at HDo Hful Hgoo HDl HDm
              simp only [lgV,txV] at HDo
              have l0:=kL.cell 0
              have l1:=kL.cell 1
              simp only [List.getElem?_cons_zero,List.getElem?_cons_succ] at l0 l1
              clear hn
              go_wp2_with fail
              refine HDo.out.mono ?_
              rintro en w10 ⟨v10,rfl,o10,hb10⟩
              have hB10:Below w.heap.size w w10:=hB9.trans (hb10.mono hB9.size)
              replace kR:=kR.below hb10 kR.lt
              replace kF:=kF.below hb10 kF.lt
              replace o4:=o4.below hb10 (Nat.le_refl _)
              obtain ⟨a10,c10,rfl⟩:=o10.rd.shape
              obtain ⟨w11,hw11⟩:∃ w11,w10.alloc (.cells #[.int .i64 e,.slice a10 D.length c10] 26)=w11:=⟨_,rfl⟩
              have hb11:Below w10.heap.size w10 w11:=by rw [<- hw11];exact (Below.refl _ w10).alloc (Nat.le_refl _) _
              have kG:Blk w11 w10.heap.size 26 [.int .i64 e,.slice a10 D.length c10]:=by rw [<- hw11];exact Blk.new w10 _ _
              have hB11:Below w.heap.size w w11:=hB10.trans (hb11.mono hB10.size)
              replace kR:=kR.below hb11 kR.lt
              replace kF:=kF.below hb11 kF.lt
              replace o4:=o4.below hb11 (Nat.le_refl _)
              replace o10:=o10.below hb11 (Nat.le_refl _)
              have j0:=kG.cell 0
              have j1:=kG.cell 1
              simp only [List.getElem?_cons_zero,List.getElem?_cons_succ] at j0 j1
              have z9:=hB9.size
              go_wp2_with fail
              refine (HO.out _ D _ o10.rd (by have:=HDl.out;omega) HDm.out).mono ?_
              rintro en w12 ⟨rfl,hb12⟩
              have hB12:Below w.heap.size w w12:=hB11.trans (hb12.mono hB11.size)
              replace kR:=kR.below hb12 kR.lt
              replace kF:=kF.below hb12 kF.lt
              replace kG:=kG.below hb12 kG.lt
              replace o4:=o4.below hb12 (Nat.le_refl _)
              replace o10:=o10.below hb12 (Nat.le_refl _)
              clear j0 j1 l0 l1 t0 t1 t2 t3 t4 a0 a1 a2 a3 a4'
              cases h5:lgB e D
              · have Hap:=hide (Hful.out h5)
                clear h5
                have r0:=kR.cell 0
                have r1:=kR.cell 1
                have g0:=kR.frozen 0
                have g1:=kR.frozen 1
                have i0:=kF.cell 0
                have i1:=kF.cell 1
                simp only [List.getElem?_cons_zero,List.getElem?_cons_succ] at r0 r1 i0 i1
                have HBx:=hide ((hB12.setCell (p:=⟨w.heap.size+1+1,0,none⟩) (show w.heap.size<=w.heap.size+1+1 by omega) (.int .i64 e)).setCell (p:=⟨w.heap.size+1+1,1,none⟩) (show w.heap.size<=w.heap.size+1+1 by omega) (.slice a4 l.length c4))
                have HOx:=hide (((o4.older (g:=w.heap.size+1+1) (by omega) 0 (.int .i64 e)).older (g:=w.heap.size+1+1) (by omega) 1 (.slice a4 l.length c4)).mono (show w.heap.size<=_ by omega))
                go_wp2
                refine bodyPost_ret (v:=.tuple #[.agg #[.int .i64 e,.slice a4 l.length c4],.int .i64 5]) (by simp [results,Tryz.f95,go_sem,r0,r1]) rfl ?_
                rw [Hap.out]
                exact ⟨_,rfl,HOx.out,HBx.out⟩
              · have Hap:=hide (Hgoo.out h5)
                clear h5
                have r0:=kR.cell 0
                have r1:=kR.cell 1
                have g0:=kR.frozen 0
                have g1:=kR.frozen 1
                have i0:=kG.cell 0
                have i1:=kG.cell 1
                simp only [List.getElem?_cons_zero,List.getElem?_cons_succ] at r0 r1 i0 i1
                have HBx:=hide ((hB12.setCell (p:=⟨w.heap.size+1+1,0,none⟩) (show w.heap.size<=w.heap.size+1+1 by omega) (.int .i64 e)).setCell (p:=⟨w.heap.size+1+1,1,none⟩) (show w.heap.size<=w.heap.size+1+1 by omega) (.slice a10 D.length c10))
                have HOx:=hide (((o10.older (g:=w.heap.size+1+1) (by omega) 0 (.int .i64 e)).older (g:=w.heap.size+1+1) (by omega) 1 (.slice a10 D.length c10)).mono (show w.heap.size<=_ by omega))
                go_wp2
                refine bodyPost_ret (v:=.tuple #[.agg #[.int .i64 e,.slice a10 D.length c10],.int .i64 0]) (by simp [results,Tryz.f95,go_sem,r0,r1]) rfl ?_
                rw [Hap.out]
                exact ⟨_,rfl,HOx.out,HBx.out⟩
          · have Hap:=hide (apA_nonce (t:=(3,fm,tO,am,nc)) H2.out hat (by rw [hgd];exact hn))
            have hnq:(no != nc)=true:=by rw [bne_iff_ne];exact hn
            clear hn
            have r0:=kR.cell 0
            have r1:=kR.cell 1
            have g0:=kR.frozen 0
            have g1:=kR.frozen 1
            have i0:=kF.cell 0
            have i1:=kF.cell 1
            simp only [List.getElem?_cons_zero,List.getElem?_cons_succ] at r0 r1 i0 i1
            have HBx:=hide ((hB9.setCell (p:=⟨w.heap.size+1+1,0,none⟩) (show w.heap.size<=w.heap.size+1+1 by omega) (.int .i64 e)).setCell (p:=⟨w.heap.size+1+1,1,none⟩) (show w.heap.size<=w.heap.size+1+1 by omega) (.slice a4 l.length c4))
            have HOx:=hide (((o4.older (g:=w.heap.size+1+1) (by omega) 0 (.int .i64 e)).older (g:=w.heap.size+1+1) (by omega) 1 (.slice a4 l.length c4)).mono (show w.heap.size<=_ by omega))
            go_wp2
            refine bodyPost_ret (v:=.tuple #[.agg #[.int .i64 e,.slice a4 l.length c4],.int .i64 3]) (by simp [results,Tryz.f95,go_sem,r0,r1]) rfl ?_
            rw [Hap.out]
            exact ⟨_,rfl,HOx.out,HBx.out⟩
        · have hkq:(kd == 3)=false:=by rw [beq_eq_false_iff_ne];exact hk3
          have Hk3:=hide hk3
          have Hsp:Hid (hasA (kd,fm,tO,am,nc) (nm,fr,no,st,ls)=fr):=hide (by unfold hasA;exact if_neg hk3)
          clear hk3
          by_cases hn:no=nc
          · have hnq:(no != nc)=false:=by rw [hn];simp
            by_cases hs:fr < am
            · have Hap:=hide (apA_short (t:=(kd,fm,tO,am,nc)) H2.out hat (by rw [hgd];exact hn) (by rw [hgd,Hsp.out];exact hs))
              clear hn
              have r0:=kR.cell 0
              have r1:=kR.cell 1
              have g0:=kR.frozen 0
              have g1:=kR.frozen 1
              have i0:=kF.cell 0
              have i1:=kF.cell 1
              simp only [List.getElem?_cons_zero,List.getElem?_cons_succ] at r0 r1 i0 i1
              have HBx:=hide ((hB9.setCell (p:=⟨w.heap.size+1+1,0,none⟩) (show w.heap.size<=w.heap.size+1+1 by omega) (.int .i64 e)).setCell (p:=⟨w.heap.size+1+1,1,none⟩) (show w.heap.size<=w.heap.size+1+1 by omega) (.slice a4 l.length c4))
              have HOx:=hide (((o4.older (g:=w.heap.size+1+1) (by omega) 0 (.int .i64 e)).older (g:=w.heap.size+1+1) (by omega) 1 (.slice a4 l.length c4)).mono (show w.heap.size<=_ by omega))
              go_wp2
              refine bodyPost_ret (v:=.tuple #[.agg #[.int .i64 e,.slice a4 l.length c4],.int .i64 4]) (by simp [results,Tryz.f95,go_sem,r0,r1]) rfl ?_
              rw [Hap.out]
              exact ⟨_,rfl,HOx.out,HBx.out⟩
            · have Hful:=hide (apA_full (t:=(kd,fm,tO,am,nc)) H2.out hat (by rw [hgd];exact hn) (by rw [hgd,Hsp.out];exact hs))
              have Hgoo:=hide (apA_good (t:=(kd,fm,tO,am,nc)) H2.out hat (by rw [hgd];exact hn) (by rw [hgd,Hsp.out];exact hs))
              have HDo:=hide (specDo_any e (.slice (some ⟨b,off,none⟩) l.length cv) l (kd,fm,tO,am,nc) k w9 (Hr.out.below hB9 (Nat.le_refl _)) hl Hall.out Htp.out.2.2.2 hk (asc_of_ok l (lg_acs H1.out)))
              have HDl:=hide (doA_len e (kd,fm,tO,am,nc) l k)
              have HDm:=hide (doA_mem (e:=e) (t:=(kd,fm,tO,am,nc)) (l:=l) (k:=k) ht hk Hall.out)
              generalize doA e (kd,fm,tO,am,nc) l k=D at HDo Hful Hgoo HDl HDm
              simp only [lgV,txV] at HDo
              have l0:=kL.cell 0
              have l1:=kL.cell 1
              simp only [List.getElem?_cons_zero,List.getElem?_cons_succ] at l0 l1
              clear hn
              go_wp2_with fail
              refine HDo.out.mono ?_
              rintro en w10 ⟨v10,rfl,o10,hb10⟩
              have hB10:Below w.heap.size w w10:=hB9.trans (hb10.mono hB9.size)
              replace kR:=kR.below hb10 kR.lt
              replace kF:=kF.below hb10 kF.lt
              replace o4:=o4.below hb10 (Nat.le_refl _)
              obtain ⟨a10,c10,rfl⟩:=o10.rd.shape
              obtain ⟨w11,hw11⟩:∃ w11,w10.alloc (.cells #[.int .i64 e,.slice a10 D.length c10] 26)=w11:=⟨_,rfl⟩
              have hb11:Below w10.heap.size w10 w11:=by rw [<- hw11];exact (Below.refl _ w10).alloc (Nat.le_refl _) _
              have kG:Blk w11 w10.heap.size 26 [.int .i64 e,.slice a10 D.length c10]:=by rw [<- hw11];exact Blk.new w10 _ _
              have hB11:Below w.heap.size w w11:=hB10.trans (hb11.mono hB10.size)
              replace kR:=kR.below hb11 kR.lt
              replace kF:=kF.below hb11 kF.lt
              replace o4:=o4.below hb11 (Nat.le_refl _)
              replace o10:=o10.below hb11 (Nat.le_refl _)
              have j0:=kG.cell 0
              have j1:=kG.cell 1
              simp only [List.getElem?_cons_zero,List.getElem?_cons_succ] at j0 j1
              have z9:=hB9.size
              go_wp2_with fail
              refine (HO.out _ D _ o10.rd (by have:=HDl.out;omega) HDm.out).mono ?_
              rintro en w12 ⟨rfl,hb12⟩
              have hB12:Below w.heap.size w w12:=hB11.trans (hb12.mono hB11.size)
              replace kR:=kR.below hb12 kR.lt
              replace kF:=kF.below hb12 kF.lt
              replace kG:=kG.below hb12 kG.lt
              replace o4:=o4.below hb12 (Nat.le_refl _)
              replace o10:=o10.below hb12 (Nat.le_refl _)
              clear j0 j1 l0 l1 t0 t1 t2 t3 t4 a0 a1 a2 a3 a4'
              cases h5:lgB e D
              · have Hap:=hide (Hful.out h5)
                clear h5
                have r0:=kR.cell 0
                have r1:=kR.cell 1
                have g0:=kR.frozen 0
                have g1:=kR.frozen 1
                have i0:=kF.cell 0
                have i1:=kF.cell 1
                simp only [List.getElem?_cons_zero,List.getElem?_cons_succ] at r0 r1 i0 i1
                have HBx:=hide ((hB12.setCell (p:=⟨w.heap.size+1+1,0,none⟩) (show w.heap.size<=w.heap.size+1+1 by omega) (.int .i64 e)).setCell (p:=⟨w.heap.size+1+1,1,none⟩) (show w.heap.size<=w.heap.size+1+1 by omega) (.slice a4 l.length c4))
                have HOx:=hide (((o4.older (g:=w.heap.size+1+1) (by omega) 0 (.int .i64 e)).older (g:=w.heap.size+1+1) (by omega) 1 (.slice a4 l.length c4)).mono (show w.heap.size<=_ by omega))
                go_wp2
                refine bodyPost_ret (v:=.tuple #[.agg #[.int .i64 e,.slice a4 l.length c4],.int .i64 5]) (by simp [results,Tryz.f95,go_sem,r0,r1]) rfl ?_
                rw [Hap.out]
                exact ⟨_,rfl,HOx.out,HBx.out⟩
              · have Hap:=hide (Hgoo.out h5)
                clear h5
                have r0:=kR.cell 0
                have r1:=kR.cell 1
                have g0:=kR.frozen 0
                have g1:=kR.frozen 1
                have i0:=kG.cell 0
                have i1:=kG.cell 1
                simp only [List.getElem?_cons_zero,List.getElem?_cons_succ] at r0 r1 i0 i1
                have HBx:=hide ((hB12.setCell (p:=⟨w.heap.size+1+1,0,none⟩) (show w.heap.size<=w.heap.size+1+1 by omega) (.int .i64 e)).setCell (p:=⟨w.heap.size+1+1,1,none⟩) (show w.heap.size<=w.heap.size+1+1 by omega) (.slice a10 D.length c10))
                have HOx:=hide (((o10.older (g:=w.heap.size+1+1) (by omega) 0 (.int .i64 e)).older (g:=w.heap.size+1+1) (by omega) 1 (.slice a10 D.length c10)).mono (show w.heap.size<=_ by omega))
                go_wp2
                refine bodyPost_ret (v:=.tuple #[.agg #[.int .i64 e,.slice a10 D.length c10],.int .i64 0]) (by simp [results,Tryz.f95,go_sem,r0,r1]) rfl ?_
                rw [Hap.out]
                exact ⟨_,rfl,HOx.out,HBx.out⟩
          · have Hap:=hide (apA_nonce (t:=(kd,fm,tO,am,nc)) H2.out hat (by rw [hgd];exact hn))
            have hnq:(no != nc)=true:=by rw [bne_iff_ne];exact hn
            clear hn
            have r0:=kR.cell 0
            have r1:=kR.cell 1
            have g0:=kR.frozen 0
            have g1:=kR.frozen 1
            have i0:=kF.cell 0
            have i1:=kF.cell 1
            simp only [List.getElem?_cons_zero,List.getElem?_cons_succ] at r0 r1 i0 i1
            have HBx:=hide ((hB9.setCell (p:=⟨w.heap.size+1+1,0,none⟩) (show w.heap.size<=w.heap.size+1+1 by omega) (.int .i64 e)).setCell (p:=⟨w.heap.size+1+1,1,none⟩) (show w.heap.size<=w.heap.size+1+1 by omega) (.slice a4 l.length c4))
            have HOx:=hide (((o4.older (g:=w.heap.size+1+1) (by omega) 0 (.int .i64 e)).older (g:=w.heap.size+1+1) (by omega) 1 (.slice a4 l.length c4)).mono (show w.heap.size<=_ by omega))
            go_wp2
            refine bodyPost_ret (v:=.tuple #[.agg #[.int .i64 e,.slice a4 l.length c4],.int .i64 3]) (by simp [results,Tryz.f95,go_sem,r0,r1]) rfl ?_
            rw [Hap.out]
            exact ⟨_,rfl,HOx.out,HBx.out⟩
theorem RdT.at {w:World} {a:Option Addr} {cap i:Nat} {l:List Tx5} (h:RdT w (.slice a l.length cap) l) (hi:i < l.length) :
    ∃ b off,a=some ⟨b,off,none⟩/\l.length<=cap/\cap<=maxLen/\b < w.heap.size/\TxAt w b (off+i * 5) l[i]:=by
  rcases h with ⟨a',cap',e,rfl,-⟩ | ⟨b,off,cap',h0,e,h1,h2,h3,h4⟩
  · simp at hi
  · simp only [Value.slice.injEq,true_and] at e
    obtain ⟨rfl,rfl⟩:=e
    exact ⟨b,off,rfl,h1,h2,h3,h4 i hi⟩
theorem specAll_any (e:Int) (v vt:Value) (l:List Ac) (ts:List Tx5) (w:World) (hr:RdA w v l) (hrt:RdT w vt ts) (hl:l.length<=3999999) (hall:∀ a ∈ l,a.1.size<=maxLen/\a.2.2.2.2.length<=3999999) (hts:ts.length<=4000000) (hta:∀ t ∈ ts,t.2.1.size<=maxLen/\t.2.2.1.size<=maxLen) :
    Calls Tryz.prog 81 #[lgV e v,vt] w fun en w'=>∃ v',en=.returned (.tuple #[lgV e v',.int .i64 ((alA e l ts).2:Int)])/\OwnA w.heap.size w' v' (alA e l ts).1/\Below w.heap.size w w':=by
  obtain ⟨av,cv,rfl⟩:=hr.shape
  obtain ⟨at_,ct,rfl⟩:=hrt.shape
  have hall2:∀ a ∈ l,a.2.2.2.2.length<=4000000:=fun a ha=>by have:=hall a ha;omega
  simp only [lgV] at *
  obtain ⟨w2,hw2⟩:∃ w2,(w.alloc (.cells #[.int .i64 e,.slice av l.length cv] 26)).alloc (.cells #[.int .i64 0,.slice none 0 0] 26)=w2:=⟨_,rfl⟩
  have hs2:w2.heap.size=w.heap.size+2:=by rw [<- hw2];simp
  have hb2:Below w.heap.size w w2:=by rw [<- hw2];exact ((Below.refl _ w).alloc (Nat.le_refl _) _).alloc (by simp) _
  have kA:Blk w2 w.heap.size 26 [.int .i64 e,.slice av l.length cv]:=by
    rw [<- hw2]
    exact (Blk.new w 26 [.int .i64 e,.slice av l.length cv]).below ((Below.refl (w.heap.size+1) _).alloc (by simp) _) (by omega)
  have kR:Blk w2 (w.heap.size+1) 26 [.int .i64 0,.slice none 0 0]:=by
    rw [<- hw2]
    have h:=Blk.new (w.alloc (.cells #[.int .i64 e,.slice av l.length cv] 26)) 26 [.int .i64 0,.slice none 0 0]
    simp only [World.size_alloc] at h
    exact h
  have HC:=hide (specL6Copy_any e (.slice av l.length cv) l w2 (hr.below hb2 (Nat.le_refl _)) (by omega) hall2)
  simp only [lgV] at HC
  have HS2:=hide hs2
  have Hb2:=hide hb2
  have KR:=hide kR
  have Hrt:=hide (hrt.below hb2 (Nat.le_refl _))
  have Hfew:=hide (fun k=>alA_few (e:=e) (ts.take k) hl hall)
  have Hta:=hide hta
  have c0:=kA.cell 0
  have c1:=kA.cell 1
  simp only [List.getElem?_cons_zero,List.getElem?_cons_succ] at c0 c1
  clear hr hrt hb2 kA kR hall hall2 hta hs2
  go_enter Tryz.func81,Tryz.ntmps81
  go_wp2_with fail
  refine HC.out.mono ?_
  rintro en w3 ⟨v3,rfl,o3,hb3⟩
  obtain ⟨a3,c3,rfl⟩:=o3.rd.shape
  obtain ⟨w4,hw4⟩:∃ w4,w3.alloc (.cells #[.int .i64 e,.slice a3 l.length c3] 26)=w4:=⟨_,rfl⟩
  have b4:Below w3.heap.size w3 w4:=by rw [<- hw4];exact (Below.refl _ w3).alloc (Nat.le_refl _) _
  have K4:Hid (Blk w4 w3.heap.size 26 [.int .i64 e,.slice a3 l.length c3]):=hide (by rw [<- hw4];exact Blk.new w3 _ _)
  have X4:=hide (o3.ox.below b4 (Nat.le_refl _))
  have B4:=hide (hb3.trans (b4.mono hb3.size))
  have hz3:=hb3.size
  clear o3 hb3 b4 c0 c1 hw2
  go_wp2
  go_loopw [7,8] (fun nv iv wr=>∃ (i:Nat) (a:Option Addr) (c base hi:Nat),i<=ts.length/\iv=.int .i64 (i:Int)/\nv=.int .i64 ((alA e l (ts.take i)).2:Int)/\Blk wr w3.heap.size 26 [.int .i64 e,.slice a (alA e l (ts.take i)).1.length c]/\OwnX base hi wr (.slice a (alA e l (ts.take i)).1.length c) (alA e l (ts.take i)).1/\w2.heap.size<=base/\(w3.heap.size < base\/hi<=w3.heap.size)/\Below w2.heap.size w2 wr) (fun _ iv _=>ts.length - (intOf iv).toNat)
  case atStart=>exact ⟨0,a3,c3,w2.heap.size,w3.heap.size,by omega,rfl,rfl,K4.out,X4.out,Nat.le_refl _,.inr (Nat.le_refl _),B4.out⟩
  case round =>
    obtain ⟨i,a,c,base,hi,hi1,rfl,rfl,kO,x,hbase,hdis,hb⟩:=hrel
    clear K4 X4 B4 hw4
    have hwr:=hb.size
    have hO:=kO.lt
    have few:=Hfew.out i
    have hnl:=alA_len e l (ts.take i)
    have htk:(ts.take i).length<=ts.length:=by simp;omega
    by_cases hlt:i < ts.length
    · obtain ⟨b,off,rfl,hc1,hc2,hbw,hT⟩:=Hrt.out.at hlt
      have htx:=Hta.out ts[i] (List.getElem_mem _)
      have Hsn:=hide (alA_snoc e l ts i hlt)
      obtain ⟨s,hs⟩:∃ s,alA e l (ts.take i)=s:=⟨_,rfl⟩
      rw [hs] at kO x few hnl Hsn ⊢
      obtain ⟨P,n⟩:=s
      simp only at kO x few hnl ⊢
      have HA:=hide (fun V v h=>specApply_any e v P ts[i] V h few.1 few.2 htx.1 htx.2)
      have Hgd:=hide (alS_good (e:=e) (s:=(P,n)) (t:=ts[i]))
      have Hbd:=hide (alS_bad (e:=e) (s:=(P,n)) (t:=ts[i]))
      have Hsm:=hide (apA_same (e:=e) (l:=P) (t:=ts[i]))
      simp only at Hgd Hbd
      generalize ts[i]=t at hT HA Hgd Hbd Hsm Hsn
      generalize (apA e P t).1=A at HA Hgd Hsm
      generalize (apA e P t).2=C at HA Hgd Hbd Hsm
      obtain ⟨p0,p1,p2,p3,p4⟩:=hT
      have q0:=(hb.cell (p:=⟨b,off+i * 5,none⟩) hbw).trans p0
      have q1:=(hb.cell (p:=⟨b,off+i * 5+1,none⟩) hbw).trans p1
      have q2:=(hb.cell (p:=⟨b,off+i * 5+2,none⟩) hbw).trans p2
      have q3:=(hb.cell (p:=⟨b,off+i * 5+3,none⟩) hbw).trans p3
      have q4:=(hb.cell (p:=⟨b,off+i * 5+4,none⟩) hbw).trans p4
      obtain ⟨kd,fm,tn,am,nc⟩:=t
      simp only [lgV,txV] at q0 q1 q2 q3 q4 HA
      have hbr:b < wr.heap.size:=by omega
      have HS:Hid (∀ V,Below wr.heap.size wr V->(V.cell? ⟨w3.heap.size,0,none⟩=some (.int .i64 e)/\V.cell? ⟨w3.heap.size,1,none⟩=some (.slice a P.length c)/\V.cell? ⟨b,off+i * 5,none⟩=some (.int .i64 kd)/\V.cell? ⟨b,off+i * 5+1,none⟩=some (.string fm)/\V.cell? ⟨b,off+i * 5+2,none⟩=some (.string tn)/\V.cell? ⟨b,off+i * 5+3,none⟩=some (.int .i64 am)/\V.cell? ⟨b,off+i * 5+4,none⟩=some (.int .i64 nc))):=hide (fun V hv=>⟨(kO.below hv kO.lt).cell 0,(kO.below hv kO.lt).cell 1,(hv.cell (p:=⟨b,off+i * 5,none⟩) hbr).trans q0,(hv.cell (p:=⟨b,off+i * 5+1,none⟩) hbr).trans q1,(hv.cell (p:=⟨b,off+i * 5+2,none⟩) hbr).trans q2,(hv.cell (p:=⟨b,off+i * 5+3,none⟩) hbr).trans q3,(hv.cell (p:=⟨b,off+i * 5+4,none⟩) hbr).trans q4⟩)
      have bD:Below wr.heap.size wr wr.drew:=(Below.refl _ wr).drew
      have bE:Below wr.heap.size wr (wr.alloc (.cells #[.int .i64 0,.slice none 0 0] 26)).drew:=((Below.refl _ wr).alloc (Nat.le_refl _) _).drew
      have nE:Blk (wr.alloc (.cells #[.int .i64 0,.slice none 0 0] 26)).drew wr.heap.size 26 [.int .i64 0,.slice none 0 0]:=Blk.new wr 26 [.int .i64 0,.slice none 0 0]
      have rD:=x.rd.below bD (Nat.le_refl _)
      have rE:=x.rd.below bE (Nat.le_refl _)
      have zD:wr.drew.heap.size=wr.heap.size:=rfl
      have zE:(wr.alloc (.cells #[.int .i64 0,.slice none 0 0] 26)).drew.heap.size=wr.heap.size+1:=by simp
      have HL:Hid (∀ (V:World) (v:Value),RdA V v A->∃ a c,v=.slice a A.length c):=hide (fun V v h=>h.shape)
      have hli:(i:Int) < (ts.length:Int):=by omega
      have KO:=hide kO
      have Xx:=hide x
      have Hb:=hide hb
      have hnb:n<=4000000:=by omega
      clear kO x hb p0 p1 p2 p3 p4 q0 q1 q2 q3 q4 few htx hs
      go_upto_region 6 with fail
      go_cut [9,10] (fun sp sc wc=>∃ (B:Nat) (a':Option Addr) (c' base' hi':Nat),sp=.pointer (some ⟨B,0,none⟩)/\sc=.int .i64 C/\Blk wc B 26 [.int .i64 e,.slice a' A.length c']/\OwnX base' hi' wc (.slice a' A.length c') A/\wr.heap.size<=base'/\hi'<=wc.heap.size/\(B < base'\/hi'<=B)/\wr.heap.size<=B/\Below wr.heap.size wr wc)
      case first =>
        go_region_held_law (fun w'=>w'.cell? ⟨w3.heap.size,0,none⟩=some (.int .i64 e)/\w'.cell? ⟨w3.heap.size,1,none⟩=some (.slice a P.length c)/\w'.cell? ⟨b,off+i * 5,none⟩=some (.int .i64 kd)/\w'.cell? ⟨b,off+i * 5+1,none⟩=some (.string fm)/\w'.cell? ⟨b,off+i * 5+2,none⟩=some (.string tn)/\w'.cell? ⟨b,off+i * 5+3,none⟩=some (.int .i64 am)/\w'.cell? ⟨b,off+i * 5+4,none⟩=some (.int .i64 nc)) ((refine HS.out _ ?_;repeat (first | with_reducible exact bD | with_reducible exact bE | with_reducible exact bA | with_reducible exact Below.refl _ _ | refine Below.drew ?_ | refine Below.alloc ?_ (by first | omega | (simp;done) | (simp;omega) | (dsimp only;omega)) _ | refine Below.setCell ?_ (by first | omega | (simp;done) | (simp;omega) | (dsimp only;omega)) _))) ((first
          | (go_at_call 95;with_reducible refine (HA.out wr.drew _ rD).mono ?_;rintro e' wA ⟨vA,rfl,oA,hbA⟩;have bA:=bD.trans (hbA.mono bD.size);have zA:=hbA.size;have xA:=oA.ox;have hsh:=HL.out _ _ xA.rd;obtain ⟨aA,cA,hvA⟩:=hsh;subst hvA)
          | (go_at_call 95;with_reducible refine (HA.out (wr.alloc (.cells #[.int .i64 0,.slice none 0 0] 26)).drew _ rE).mono ?_;rintro e' wA ⟨vA,rfl,oA,hbA⟩;have bA:=bE.trans (hbA.mono bE.size);have zA:=hbA.size;have xA:=oA.ox;have hsh:=HL.out _ _ xA.rd;obtain ⟨aA,cA,hvA⟩:=hsh;subst hvA;have hBlt:=nE.lt;have nb:=nE.below hbA nE.lt;have y0:=nb.cell 0;have y1:=nb.cell 1;have y0f:=nb.frozen 0;have y1f:=nb.frozen 1;simp only [List.getElem?_cons_zero,List.getElem?_cons_succ] at y0 y1)))
        all_goals
          go_wp2_with fail
          go_meet
          case rel =>
            first
              | exact ⟨wA.heap.size,aA,cA,_,wA.heap.size,rfl,rfl,Blk.new wA _ _,xA.below ((Below.refl _ wA).alloc (Nat.le_refl _) _) (Nat.le_refl _),by first | omega | (simp;omega),by simp,.inr (Nat.le_refl _),by omega,bA.alloc (by omega) _⟩
              | exact ⟨_,aA,cA,_,wA.heap.size,rfl,rfl,(nb.set 0 _).set 1 _,(xA.old (by first | omega | (simp;done) | (simp;omega) | (dsimp only;omega)) _ _).old (by first | omega | (simp;done) | (simp;omega) | (dsimp only;omega)) _ _,by first | omega | (simp;omega),by simp,.inl (by first | omega | (simp;done) | (simp;omega) | (dsimp only;omega)),by omega,(bA.setCell (p:=⟨_,0,none⟩) (by dsimp only;omega) _).setCell (p:=⟨_,1,none⟩) (by dsimp only;omega) _⟩
      obtain ⟨w9,rfl⟩:∃ z,z=wc:=⟨_,rfl⟩
      obtain ⟨B9,a9,c9,base9,hi9,rfl,rfl,b9,x9,h9_1,h9_2,h9_3,h9_4,hb9⟩:=hcut
      clear HS bD bE nE rD rE zD zE
      have hB9:=Hb.out.trans (hb9.mono hwr)
      have k9:=KO.out.below hb9 KO.out.lt
      have hO9:=k9.lt
      by_cases hC:C=0
      · have Hs1:=hide (Hsn.out.trans (Hgd.out hC))
        have d0:=b9.cell 0
        have d1:=b9.cell 1
        have o0:=k9.cell 0
        have o1:=k9.cell 1
        have o0f:=k9.frozen 0
        have o1f:=k9.frozen 1
        simp only [List.getElem?_cons_zero,List.getElem?_cons_succ] at d0 d1 o0 o1
        have K9:=hide k9
        have X9:=hide x9
        have HB9:=hide hB9
        clear k9 x9 hB9 hb9 b9 Hgd Hbd Hsm Hsn Xx KO
        subst hC
        go_wp2
        go_roundw
        case rel =>
          refine ⟨i+1,a9,c9,base9,hi9,by omega,by go_num,by rw [Hs1.out];go_num,?_,?_,by omega,.inl (by omega),?_⟩
          · rw [Hs1.out];exact (K9.out.set 0 _).set 1 _
          · rw [Hs1.out];exact (X9.out.old (by omega) _ _).old (by omega) _ _
          · exact (HB9.out.setCell (p:=⟨w3.heap.size,0,none⟩) (show w2.heap.size<=w3.heap.size by omega) _).setCell (p:=⟨w3.heap.size,1,none⟩) (show w2.heap.size<=w3.heap.size by omega) _
        case measure=>simp [intOf];omega
      · have Hs1:=hide (Hsn.out.trans (Hbd.out hC))
        have K9:=hide k9
        have X9:=hide (Xx.out.below hb9 (Nat.le_refl _))
        have HB9:=hide hB9
        have hCb:(C == 0)=false:=by rw [beq_eq_false_iff_ne];exact hC
        clear k9 x9 hB9 hb9 b9 Hgd Hbd Hsm Hsn Xx KO hC
        go_wp2
        go_roundw
        case rel =>
          refine ⟨i+1,a,c,base,hi,by omega,by go_num,by rw [Hs1.out],?_,?_,hbase,hdis,HB9.out⟩
          · rw [Hs1.out];exact K9.out
          · rw [Hs1.out];exact X9.out
        case measure=>simp [intOf];omega
    · have ei:i=ts.length:=by omega
      subst ei
      rw [List.take_length] at kO x ⊢
      obtain ⟨s,hs⟩:∃ s,alA e l ts=s:=⟨_,rfl⟩
      rw [hs] at kO x ⊢
      have Hs:=hide hs
      clear hs
      obtain ⟨P,n⟩:=s
      simp only at kO x ⊢
      have kR:=KR.out.below hb KR.out.lt
      have d0:=kO.cell 0
      have d1:=kO.cell 1
      have r0:=kR.cell 0
      have r1:=kR.cell 1
      have r0f:=kR.frozen 0
      have r1f:=kR.frozen 1
      simp only [List.getElem?_cons_zero,List.getElem?_cons_succ] at d0 d1 r0 r1
      have hs2:=HS2.out
      have X9:=hide (((x.old (b:=w.heap.size+1) (by omega) 0 (.int .i64 e)).old (b:=w.heap.size+1) (by omega) 1 (.slice a P.length c)).own.mono (show w.heap.size<=base by omega))
      have HB9:=hide (((Hb2.out.trans (hb.mono Hb2.out.size)).setCell (p:=⟨w.heap.size+1,0,none⟩) (show w.heap.size<=w.heap.size+1 by omega) (.int .i64 e)).setCell (p:=⟨w.heap.size+1,1,none⟩) (show w.heap.size<=w.heap.size+1 by omega) (.slice a P.length c))
      clear kO x hb kR hs2
      go_wp2
      refine bodyPost_ret (v:=.tuple #[.agg #[.int .i64 e,.slice a P.length c],.int .i64 (n:Int)]) (by simp [results,Tryz.f81,go_sem,r0,r1]) rfl ?_
      rw [Hs.out]
      exact ⟨_,rfl,X9.out,HB9.out⟩
end Go.Proofs.YtohachldbpejpaaGreatDoor
