/- The model's order done. -/
import Derived.StillTailTactics
import Derived.Test.YthehfkafcdociaaGreatDoorZyLgAp
import Derived.Test.YthehfkafcdociaaGreatDoorZyLgFacts
import Derived.Test.YthehfkafcdociaaGreatDoorZyTxOkI
set_option maxRecDepth 20000
set_option maxHeartbeats 1000000
namespace Go.Proofs.YthehfkafcdociaaGreatDoor
open Go.RowKit
theorem region_tail {P:Program} {id:Nat} {Q:Exit->Act->World->Prop} {a:Act} {w:World} {l:List Oper} (n:Nat) (hm:P.follows .mixedOrders=true) (hB:Region.lexTailB .any l.toArray n=true)
    (h:wpStill P l.toArray w.drew (fun a'=>wpList P l.toArray Q (l.drop n) a' w.drew) (l.take n) a):(Code.region id l.toArray true).wp P Q a w:=wp_region_still_tail n hm hB h
end Go.Proofs.YthehfkafcdociaaGreatDoor
namespace Go.Proofs.YthehfkafcdociaaGreatDoor
open Go.RowKit
set_option linter.unusedVariables false
theorem specDoPB_any (e:Int) (v:Value) (l:List Ac) (t:Tx5) (k:Nat) (w:World) (hr:RdA w v l) (hl:l.length<=3999999) (hall:∀ a ∈ l,a.1.size<=maxLen/\a.2.2.2.2.length<=3999999) (hkd:t.1=1\/t.1=2) (hk:k < l.length) (hasc:AscA l) :
    Calls Tryz.prog 90 #[lgV e v,txV t,.int .i64 (k:Int)] w fun en w'=>∃ v',en=.returned (lgV e v')/\OwnA w.heap.size w' v' (doA e t l k)/\Below w.heap.size w w':=by
  obtain ⟨av,cv,rfl⟩:=hr.shape
  have hall2:∀ a ∈ l,a.2.2.2.2.length<=4000000:=fun a ha=>by have:=hall a ha;omega
  obtain ⟨kd,fm,tO,am,nc⟩:=t
  obtain ⟨w1,hw1⟩:∃ w1,w.alloc (.cells #[.int .i64 e,.slice av l.length cv] 36)=w1:=⟨_,rfl⟩
  obtain ⟨w2,hw2⟩:∃ w2,w1.alloc (.cells #[.int .i64 kd,.string fm,.string tO,.int .i64 am,.int .i64 nc] 117)=w2:=⟨_,rfl⟩
  obtain ⟨w3,hw3⟩:∃ w3,w2.alloc (.cells #[.int .i64 0,.slice none 0 0] 36)=w3:=⟨_,rfl⟩
  have s1:w1.heap.size=w.heap.size+1:=by rw [<- hw1];simp
  have s2:w2.heap.size=w.heap.size+1+1:=by rw [<- hw2];simp;omega
  have s3:w3.heap.size=w.heap.size+1+1+1:=by rw [<- hw3];simp;omega
  have hB3:Below w.heap.size w w3:=by rw [<- hw3,<- hw2,<- hw1];exact (((Below.refl _ w).alloc (Nat.le_refl _) _).alloc (by simp) _).alloc (by simp;omega) _
  have kL:Blk w3 w.heap.size 36 [.int .i64 e,.slice av l.length cv]:=by rw [<- hw3,<- hw2,<- hw1];exact ((Blk.new w _ _).alloc _).alloc _
  have kT:Blk w3 (w.heap.size+1) 117 [.int .i64 kd,.string fm,.string tO,.int .i64 am,.int .i64 nc]:=by
    rw [<- hw3,<- hw2,<- s1]
    exact (Blk.new w1 _ _).alloc _
  have kR:Blk w3 (w.heap.size+1+1) 36 [.int .i64 0,.slice none 0 0]:=by rw [<- hw3,<- s2];exact Blk.new w2 _ _
  have HD:=hide (specL6Copy_any e (.slice av l.length cv) l w3 (hr.below hB3 (Nat.le_refl _)) (by omega) hall2)
  have Hall:=hide hall
  have Hasc:=hide hasc
  simp only [lgV,txV] at HD ⊢
  have l0:=kL.cell 0
  have l1:=kL.cell 1
  simp only [List.getElem?_cons_zero,List.getElem?_cons_succ] at l0 l1
  clear hall hall2 hasc hr
  go_enter Tryz.func90,Tryz.ntmps90
  go_wp2_with fail
  refine HD.out.mono ?_
  rintro en w4 ⟨v4,rfl,o4,hb4⟩
  have hB4:Below w.heap.size w w4:=hB3.trans (hb4.mono hB3.size)
  replace kL:=kL.below hb4 kL.lt
  replace kT:=kT.below hb4 kT.lt
  replace kR:=kR.below hb4 kR.lt
  obtain ⟨g,cap,Z,rfl,hZ,hG⟩:=o4.rowG
  have hgl:=hG.lt
  have hlo:∀ i (hi:i < Z.length) r,Z[i].2.ownBlock=some r->r < w4.heap.size:=fun i hi r hr=>(hG.lvs.own i hi).lt r hr
  obtain ⟨w5,hw5⟩:∃ w5,w4.alloc (.cells #[.int .i64 e,.slice (some ⟨g,0,none⟩) l.length cap] 36)=w5:=⟨_,rfl⟩
  have hb5:Below w4.heap.size w4 w5:=by rw [<- hw5];exact (Below.refl _ w4).alloc (Nat.le_refl _) _
  have kF:Blk w5 w4.heap.size 36 [.int .i64 e,.slice (some ⟨g,0,none⟩) l.length cap]:=by rw [<- hw5];exact Blk.new w4 _ _
  have s5:w5.heap.size=w4.heap.size+1:=by rw [<- hw5];simp
  have hB5:Below w.heap.size w w5:=hB4.trans (hb5.mono hB4.size)
  replace kL:=kL.below hb5 kL.lt
  replace kT:=kT.below hb5 kT.lt
  replace kR:=kR.below hb5 kR.lt
  have hG5:=hG.below hb5 (Nat.le_refl _)
  have hkZ:k < Z.length:=by have:=hG5.len;omega
  have hZk:Z[k].1=l[k]:=fst_get hZ k hkZ hk
  have hlen:=Hall.out l[k] (List.getElem_mem _)
  obtain ⟨c0,c1,c2,c3,c4⟩:=hG5.at k hkZ
  have hown:=hG5.lvs.own k hkZ
  have hshape:=hown.rd.shape
  obtain ⟨q,hq⟩:∃ q,Z[k]=q:=⟨_,rfl⟩
  have hlk:l[k]=q.1:=by rw [<- hZk,hq]
  rw [<- hZk] at hlen
  rw [hq] at c0 c1 c2 c3 c4 hown hshape hlen
  obtain ⟨⟨nm,fr,no,st,ls⟩,lv⟩:=q
  simp only at c0 c1 c2 c3 c4 hown hshape hlen hlk
  obtain ⟨av',cv',rfl⟩:=hshape
  have hki:(k:Int) < (l.length:Int):=by omega
  have hcap:=hG5.caps
  have f0:=kF.cell 0
  have f1:=kF.cell 1
  have t0:=kT.cell 0
  have t2:=kT.cell 2
  have t3:=kT.cell 3
  have l0:=kL.cell 0
  have q1:=hG5.frozen (k * 5+1)
  have q2:=hG5.frozen (k * 5+2)
  have q3:=hG5.frozen (k * 5+3)
  have q4:=hG5.frozen (k * 5+4)
  simp only [List.getElem?_cons_zero,List.getElem?_cons_succ] at f0 f1 t0 t2 t3 l0
  have hiS:∀ q:Ac × Value,k < (Z.set k q).length:=fun q=>by simpa using hkZ
  obtain ⟨w6,hw6⟩:∃ w6,w5.setCell ⟨g,k * 5+2,none⟩ (.int .i64 (wrap64 (no+1)))=w6:=⟨_,rfl⟩
  have hG6:RowG w3.heap.size w6 g l.length cap (Z.set k ((nm,fr,wrap64 (no+1),st,ls),.slice av' ls.length cv')):=by
    rw [<- hw6]
    exact hG5.put k hkZ 2 (by omega) _ _ (by rw [hq];rfl) (by rw [hq];rfl)
  have m6:∀ {B:Nat} {t:TypeId} {cs:List Value},Blk w5 B t cs->B ≠ g->Blk w6 B t cs:=fun h hne=>by rw [<- hw6];exact h.other _ _ _ hne
  have kT6:=m6 kT (by omega)
  have kR6:=m6 kR (by omega)
  have kF6:=m6 kF (by omega)
  have kL6:=m6 kL (by omega)
  have hB6:Below w.heap.size w w6:=by rw [<- hw6];exact hB5.setCell (p:=⟨g,k * 5+2,none⟩) (show w.heap.size<=g by omega) _
  obtain ⟨d0,d1,d2,d3,d4⟩:=hG6.at k (hiS _)
  rw [set_get] at d0 d1 d2 d3 d4
  have e0:=kF6.cell 0
  have e1:=kF6.cell 1
  have u0:=kT6.cell 0
  have u2:=kT6.cell 2
  have u3:=kT6.cell 3
  have y0:=kL6.cell 0
  have p1:=hG6.frozen (k * 5+1)
  have p3:=hG6.frozen (k * 5+3)
  have p4:=hG6.frozen (k * 5+4)
  simp only [List.getElem?_cons_zero,List.getElem?_cons_succ] at d0 d1 d2 d3 d4 e0 e1 u0 u2 u3 y0
  have HG6:=hide hG6
  have KT6:=hide kT6
  have KR6:=hide kR6
  have KF6:=hide kF6
  have KL6:=hide kL6
  have HB6:=hide hB6
  have HZ:=hide hZ
  have Hlk:=hide hlk
  have z6:w6.heap.size=w5.heap.size:=by rw [<- hw6];simp
  have z4:=hb4.size
  clear hG6 kT6 kR6 kF6 kL6 hB6 hG5 kT kR kF kL hB5 hG o4 m6 hZ hlk hown HD
  rcases hkd with rfl | rfl
  · obtain ⟨w7,hw7⟩:∃ w7,(w6.setCell ⟨g,k * 5+1,none⟩ (.int .i64 (wrap64 (fr - am)))).drew=w7:=⟨_,rfl⟩
    have hG7:RowG w3.heap.size w7 g l.length cap (Z.set k ((nm,wrap64 (fr - am),wrap64 (no+1),st,ls),.slice av' ls.length cv')):=by
      have h:=HG6.out.put k (hiS _) 1 (by omega) (.int .i64 (wrap64 (fr - am))) ((nm,wrap64 (fr - am),wrap64 (no+1),st,ls),.slice av' ls.length cv') (by rw [set_get];rfl) (by rw [set_get];rfl)
      rw [List.set_set] at h
      rw [<- hw7]
      exact h.below (Below.refl _ _).drew (Nat.le_refl _)
    have m7:∀ {B:Nat} {t:TypeId} {cs:List Value},Blk w6 B t cs->B ≠ g->Blk w7 B t cs:=fun h hne=>by rw [<- hw7];have hh:=h.other g (k * 5+1) (.int .i64 (wrap64 (fr - am))) hne;exact hh
    have kT7:=m7 KT6.out (by omega)
    have kR7:=m7 KR6.out (by omega)
    have kF7:=m7 KF6.out (by omega)
    have hB7:Below w.heap.size w w7:=by rw [<- hw7];exact (HB6.out.setCell (p:=⟨g,k * 5+1,none⟩) (show w.heap.size<=g by omega) _).drew
    have z7:w7.heap.size=w6.heap.size:=by rw [<- hw7];simp
    obtain ⟨L,hL⟩:∃ L,l.set k (gvA e (1,fm,tO,am,nc) l[k])=L:=⟨_,rfl⟩
    have hgv:gvA e (1,fm,tO,am,nc) l[k]=(nm,wrap64 (fr - am),wrap64 (no+1),st,ls):=by rw [Hlk.out];rfl
    have o7:=hG7.own
    rw [fst_set,HZ.out,<- hgv,hL] at o7
    have hLasc:AscA L:=by rw [<- hL];exact ascA_set Hasc.out k _ hk (gvA_name _ _ _)
    have hLl:L.length=l.length:=by rw [<- hL];simp
    have hLall:∀ a ∈ L,a.2.2.2.2.length<=4000000:=fun a ha=>by
      rw [<- hL] at ha
      rcases List.mem_or_eq_of_mem_set ha with h | h
      · have:=Hall.out a h;omega
      · rw [h,hgv];show ls.length<=4000000;omega
    have Hdo:Hid (doA e (1,fm,tO,am,nc) l k=upA tO am (withA L tO)):=hide (by rw [give_eq L tO am hLasc];unfold doA;rw [if_pos rfl,getD_at l k hk,hL])
    have HW:=hide (fun V W h=>specWith_any V L tO W h (by omega) hLall)
    have e10:=kF7.cell 0
    have e11:=kF7.cell 1
    have e1f:=kF7.frozen 1
    have u12:=kT7.cell 2
    have u13:=kT7.cell 3
    simp only [List.getElem?_cons_zero,List.getElem?_cons_succ] at e10 e11 u12 u13
    clear hgv hL hLasc hG7
    go_wp2
    refine region_tail 8 (by kernel_rfl) (by kernel_rfl) ?_
    simp only [List.take_succ_cons,List.take_zero,List.drop_succ_cons,List.drop_zero]
    repeat still_step
    refine wpStill_nil ?_
    go_wp2_with fail
    refine (HW.out _ _ o7.rd).mono ?_
    rintro en w8 ⟨v8,rfl,o8,hb8⟩
    have hB8:=hB7.trans (hb8.mono hB7.size)
    have kT8:=kT7.below hb8 kT7.lt
    have kR8:=kR7.below hb8 kR7.lt
    have kF8:=kF7.below hb8 kF7.lt
    have z8:=hb8.size
    obtain ⟨b,hga⟩:=with_has L tO
    obtain ⟨j,hj,hat,haj,has,hbef⟩:=at_get hga
    have hwl:(withA L tO).length<=4000000:=by have:=withA_len L tO;omega
    have hjs:(withA L tO)[j].1=tO:=by rw [haj];exact has
    obtain ⟨a8,c8,hv8⟩:=o8.rd.shape
    subst hv8
    obtain ⟨w9,hw9⟩:∃ w9,w8.setCell ⟨w4.heap.size,1,none⟩ (.slice a8 (withA L tO).length c8)=w9:=⟨_,rfl⟩
    have o9:OwnA w7.heap.size w9 (.slice a8 (withA L tO).length c8) (withA L tO):=by rw [<- hw9];exact o8.older (by omega) _ _
    have kT9:Blk w9 (w.heap.size+1) 117 [.int .i64 1,.string fm,.string tO,.int .i64 am,.int .i64 nc]:=by rw [<- hw9];exact kT8.other _ _ _ (by omega)
    have kR9:Blk w9 (w.heap.size+1+1) 36 [.int .i64 0,.slice none 0 0]:=by rw [<- hw9];exact kR8.other _ _ _ (by omega)
    have kF9:Blk w9 w4.heap.size 36 [.int .i64 e,.slice a8 (withA L tO).length c8]:=by rw [<- hw9];exact kF8.set 1 _
    have hB9:Below w.heap.size w w9:=by rw [<- hw9];exact hB8.setCell (p:=⟨w4.heap.size,1,none⟩) (show w.heap.size<=w4.heap.size by omega) _
    have z9:w9.heap.size=w8.heap.size:=by rw [<- hw9];simp
    have HA:=hide (specAcctAt_any (.slice a8 (withA L tO).length c8) (withA L tO) tO w9 o9.rd hwl)
    rw [hat] at HA
    have f81:=kF8.cell 1
    have f8f:=kF8.frozen 1
    have f91:=kF9.cell 1
    have t92:=kT9.cell 2
    simp only [List.getElem?_cons_zero,List.getElem?_cons_succ] at f81 f91 t92
    have Hbef:=hide hbef
    clear e10 e11 e1f u12 u13 kT8 kR8 kF8 o8 hB8 hga hat haj has hbef HW
    go_wp2_with fail
    refine HA.out.mono ?_
    rintro en w10 ⟨rfl,hb10⟩
    have hB10:=hB9.trans (hb10.mono hB9.size)
    have kT10:=kT9.below hb10 kT9.lt
    have kR10:=kR9.below hb10 kR9.lt
    have kF10:=kF9.below hb10 kF9.lt
    have z10:=hb10.size
    obtain ⟨h,cap',Y,hY,hv,hrow,hlv⟩:=o9.below hb10 (Nat.le_refl _)
    simp only [Value.slice.injEq,true_and] at hv
    obtain ⟨rfl,rfl⟩:=hv
    have hhl:=World.ownsRow.lt hrow h rfl
    have Hup:=hide (up_row (n:=am) hY hj hjs Hbef.out hrow hlv)
    have hYl:Y.length=(withA L tO).length:=by rw [<- hY];simp
    have hYj:(Y[j]'(by omega)).1=(withA L tO)[j]:=fst_at hY hj
    have x1:w10.cell? ⟨h,j * 5+1,none⟩=some (.int .i64 (withA L tO)[j].2.1):=by
      rw [hrow.cellAt (j * 5+1) (by omega),flat_get 5 (Y.map acC) j 1 (by simp;omega) (acM_sz Y) (by omega)]
      simp [acC,hYj]
    have xf:=hrow.frozenAt (j * 5+1)
    have hji:(j:Int) < ((withA L tO).length:Int):=by omega
    rw [<- Hdo.out] at Hup
    have f10:=kF10.cell 0
    have f11:=kF10.cell 1
    have t13:=kT10.cell 3
    simp only [List.getElem?_cons_zero,List.getElem?_cons_succ] at f10 f11 t13
    clear f81 f8f f91 t92 hY hrow hlv hYl hYj hjs HA o9
    generalize (withA L tO)[j].2.1=X at x1 Hup
    obtain ⟨w11,hw11⟩:∃ w11,(w10.setCell ⟨h,j * 5+1,none⟩ (.int .i64 (wrap64 (X+am)))).drew=w11:=⟨_,rfl⟩
    have o11:OwnA w7.heap.size w11 (.slice (some ⟨h,0,none⟩) (withA L tO).length c8) (doA e (1,fm,tO,am,nc) l k):=by rw [<- hw11];exact Hup.out.below (Below.refl _ _).drew (Nat.le_refl _)
    have kR11:Blk w11 (w.heap.size+1+1) 36 [.int .i64 0,.slice none 0 0]:=by rw [<- hw11];have hh:=kR10.other h (j * 5+1) (.int .i64 (wrap64 (X+am))) (by omega);exact hh
    have kF11:Blk w11 w4.heap.size 36 [.int .i64 e,.slice (some ⟨h,0,none⟩) (withA L tO).length c8]:=by rw [<- hw11];have hh:=kF10.other h (j * 5+1) (.int .i64 (wrap64 (X+am))) (by omega);exact hh
    have hB11:Below w.heap.size w w11:=by rw [<- hw11];exact (hB10.setCell (p:=⟨h,j * 5+1,none⟩) (show w.heap.size<=h by omega) _).drew
    have r0:=kR11.cell 0
    have r1:=kR11.cell 1
    have g0:=kR11.frozen 0
    have g1:=kR11.frozen 1
    have i0:=kF11.cell 0
    have i1:=kF11.cell 1
    simp only [List.getElem?_cons_zero,List.getElem?_cons_succ] at r0 r1 i0 i1
    have HBx:=hide ((hB11.setCell (p:=⟨w.heap.size+1+1,0,none⟩) (show w.heap.size<=w.heap.size+1+1 by omega) (.int .i64 e)).setCell (p:=⟨w.heap.size+1+1,1,none⟩) (show w.heap.size<=w.heap.size+1+1 by omega) (.slice (some ⟨h,0,none⟩) (withA L tO).length c8))
    have HOx:=hide (((o11.older (g:=w.heap.size+1+1) (by omega) 0 (.int .i64 e)).older (g:=w.heap.size+1+1) (by omega) 1 (.slice (some ⟨h,0,none⟩) (withA L tO).length c8)).mono (show w.heap.size<=_ by omega))
    clear kR11 kF11 o11 hB11
    go_wp2
    refine region_tail 12 (by kernel_rfl) (by kernel_rfl) ?_
    simp only [List.take_succ_cons,List.take_zero,List.drop_succ_cons,List.drop_zero]
    repeat still_step
    refine wpStill_nil ?_
    go_wp2
    refine bodyPost_ret (v:=.agg #[.int .i64 e,.slice (some ⟨h,0,none⟩) (withA L tO).length c8]) (by simp [results,Tryz.f90,go_sem,r0,r1]) rfl ?_
    exact ⟨_,rfl,HOx.out,HBx.out⟩
  · skip
    have hG6:=HG6.out
    have kT6:=KT6.out
    have kR6:=KR6.out
    have kF6:=KF6.out
    have kL6:=KL6.out
    have hB6:=HB6.out
    obtain ⟨w7,hw7⟩:∃ w7,(w6.setCell ⟨g,k * 5+1,none⟩ (.int .i64 (wrap64 (fr - am)))).drew=w7:=⟨_,rfl⟩
    have hG7:RowG w3.heap.size w7 g l.length cap (Z.set k ((nm,wrap64 (fr - am),wrap64 (no+1),st,ls),.slice av' ls.length cv')):=by
      have h:=hG6.put k (hiS _) 1 (by omega) (.int .i64 (wrap64 (fr - am))) ((nm,wrap64 (fr - am),wrap64 (no+1),st,ls),.slice av' ls.length cv') (by rw [set_get];rfl) (by rw [set_get];rfl)
      rw [List.set_set] at h
      rw [<- hw7]
      exact h.below (Below.refl _ _).drew (Nat.le_refl _)
    have m7:∀ {B:Nat} {t:TypeId} {cs:List Value},Blk w6 B t cs->B ≠ g->Blk w7 B t cs:=fun h hne=>by rw [<- hw7];have hh:=h.other g (k * 5+1) (.int .i64 (wrap64 (fr - am))) hne;exact hh
    have kT7:=m7 kT6 (by omega)
    have kR7:=m7 kR6 (by omega)
    have kF7:=m7 kF6 (by omega)
    have kL7:=m7 kL6 (by omega)
    have hB7:Below w.heap.size w w7:=by rw [<- hw7];exact (hB6.setCell (p:=⟨g,k * 5+1,none⟩) (show w.heap.size<=g by omega) _).drew
    have z7:w7.heap.size=w6.heap.size:=by rw [<- hw7];simp
    obtain ⟨w8,hw8⟩:∃ w8,(w7.setCell ⟨g,k * 5+3,none⟩ (.int .i64 (wrap64 (st+am)))).drew=w8:=⟨_,rfl⟩
    have hG8:RowG w3.heap.size w8 g l.length cap (Z.set k ((nm,wrap64 (fr - am),wrap64 (no+1),wrap64 (st+am),ls),.slice av' ls.length cv')):=by
      have h:=hG7.put k (hiS _) 3 (by omega) (.int .i64 (wrap64 (st+am))) ((nm,wrap64 (fr - am),wrap64 (no+1),wrap64 (st+am),ls),.slice av' ls.length cv') (by rw [set_get];rfl) (by rw [set_get];rfl)
      rw [List.set_set] at h
      rw [<- hw8]
      exact h.below (Below.refl _ _).drew (Nat.le_refl _)
    have m8:∀ {B:Nat} {t:TypeId} {cs:List Value},Blk w7 B t cs->B ≠ g->Blk w8 B t cs:=fun h hne=>by rw [<- hw8];have hh:=h.other g (k * 5+3) (.int .i64 (wrap64 (st+am))) hne;exact hh
    have kT8:=m8 kT7 (by omega)
    have kR8:=m8 kR7 (by omega)
    have kF8:=m8 kF7 (by omega)
    have kL8:=m8 kL7 (by omega)
    have hB8:Below w.heap.size w w8:=by rw [<- hw8];exact (hB7.setCell (p:=⟨g,k * 5+3,none⟩) (show w.heap.size<=g by omega) _).drew
    have z8:w8.heap.size=w7.heap.size:=by rw [<- hw8];simp
    obtain ⟨v0,v1,v2,v3,v4⟩:=hG7.at k (hiS _)
    rw [set_get] at v0 v1 v2 v3 v4
    have x3:=hG7.frozen (k * 5+3)
    have u13:=kT7.cell 3
    simp only [List.getElem?_cons_zero,List.getElem?_cons_succ] at v0 v1 v2 v3 v4 u13
    have o8:=hG8.own
    rw [fst_set,HZ.out] at o8
    have hdo:l.set k (nm,wrap64 (fr - am),wrap64 (no+1),wrap64 (st+am),ls)=doA e (2,fm,tO,am,nc) l k:=by
      unfold doA
      rw [if_neg (show ¬ (2:Int)=1 by decide),getD_at l k hk,Hlk.out]
      rfl
    rw [hdo] at o8
    have r0:=kR8.cell 0
    have r1:=kR8.cell 1
    have g0:=kR8.frozen 0
    have g1:=kR8.frozen 1
    have i0:=kF8.cell 0
    have i1:=kF8.cell 1
    simp only [List.getElem?_cons_zero,List.getElem?_cons_succ] at r0 r1 i0 i1
    have HBx:=hide ((hB8.setCell (p:=⟨w.heap.size+1+1,0,none⟩) (show w.heap.size<=w.heap.size+1+1 by omega) (.int .i64 e)).setCell (p:=⟨w.heap.size+1+1,1,none⟩) (show w.heap.size<=w.heap.size+1+1 by omega) (.slice (some ⟨g,0,none⟩) l.length cap))
    have HOx:=hide (((o8.older (g:=w.heap.size+1+1) (by omega) 0 (.int .i64 e)).older (g:=w.heap.size+1+1) (by omega) 1 (.slice (some ⟨g,0,none⟩) l.length cap)).mono (show w.heap.size<=_ by omega))
    clear hG6 hG7 hG8 kT6 kT7 kT8 kR6 kR7 kR8 kF6 kF7 kF8 kL6 kL7 kL8 hB6 hB7 hB8 o8 m7 m8
    go_wp2
    refine region_tail 8 (by kernel_rfl) (by kernel_rfl) ?_
    simp only [List.take_succ_cons,List.take_zero,List.drop_succ_cons,List.drop_zero]
    repeat still_step
    refine wpStill_nil ?_
    go_wp2
    refine region_tail 8 (by kernel_rfl) (by kernel_rfl) ?_
    simp only [List.take_succ_cons,List.take_zero,List.drop_succ_cons,List.drop_zero]
    repeat still_step
    refine wpStill_nil ?_
    go_wp2
    refine bodyPost_ret (v:=.agg #[.int .i64 e,.slice (some ⟨g,0,none⟩) l.length cap]) (by simp [results,Tryz.f90,go_sem,r0,r1]) rfl ?_
    exact ⟨_,rfl,HOx.out,HBx.out⟩
end Go.Proofs.YthehfkafcdociaaGreatDoor
