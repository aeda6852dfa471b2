/- The landed code's ledgers that are right, and copies of them. -/
import Derived.Test.YthehfkafcdociaaGreatDoorZyLgOrd
set_option maxRecDepth 20000
set_option maxHeartbeats 4000000
namespace Go.Proofs.YthehfkafcdociaaGreatDoor
open Go.RowKit
set_option linter.unusedVariables false
def dnA (e:Int) (t:Tx5) (l:List Ac) (k:Nat):List Ac × Bool :=
  if t.1=1 then crA (l.set k (gvA e t (l.getD k ac0))) t.2.2.1 t.2.2.2.1 else (l.set k (gvA e t (l.getD k ac0)),true)
theorem gvA_len (e:Int) (t:Tx5) (a:Ac):(gvA e t a).2.2.2.2.length<=a.2.2.2.2.length+1:=by
  unfold gvA
  split
  · simp
  · split
    · simp
    · exact lvP_len _ _ _
theorem gv_all {e:Int} {t:Tx5} {l:List Ac} {k:Nat} (hk:k < l.length) (h:∀ a ∈ l,a.1.size<=maxLen/\a.2.2.2.2.length<=3999999):∀ a ∈ l.set k (gvA e t l[k]),a.1.size<=maxLen/\a.2.2.2.2.length<=4000000:=fun a ha=>by
  rcases List.mem_or_eq_of_mem_set ha with h' | h'
  · have:=h a h';omega
  · have h1:=h l[k] (List.getElem_mem _)
    have h2:=gvA_len e t l[k]
    subst h'
    rw [gvA_name]
    omega
structure Dn (base:Nat) (w0 W:World) (e:Int) (g n cap k:Nat) (Z:List (Ac × Value)) (q:Ac × Value) (A:Nat):Prop where
  row:RowG base W g n cap (Z.set k q)
  led:Blk W A 36 [.int .i64 e,.slice (some ⟨g,0,none⟩) n cap]
  res:Blk W (A+1) 36 [.int .i64 0,.slice none 0 0]
  bel:Below base w0 W
  old:∀ i (hi:i < (Z.set k q).length) r,(Z.set k q)[i].2.ownBlock=some r->r < A
  lt:g < A
theorem Dn.below {base:Nat} {w0 W W':World} {e:Int} {g n cap k:Nat} {Z:List (Ac × Value)} {q:Ac × Value} {A:Nat} (h:Dn base w0 W e g n cap k Z q A) (hb:Below W.heap.size W W'):Dn base w0 W' e g n cap k Z q A :=
  ⟨h.row.below hb (Nat.le_refl _),h.led.below hb h.led.lt,h.res.below hb h.res.lt,h.bel.trans (hb.mono (by have:=h.row.lt;omega)),h.old,h.lt⟩
theorem Dn.put {base:Nat} {w0 W:World} {e:Int} {g n cap k:Nat} {Z:List (Ac × Value)} {q:Ac × Value} {A:Nat} (h:Dn base w0 W e g n cap k Z q A) (hk:k < Z.length) (j:Nat) (hj:j < 5) (u:Value) (q':Ac × Value) (hq:acC q'=(acC q).set j u) (ht:tlZ q'=tlZ q) (hv:q'.2=q.2) :
    Dn base w0 (W.setCell ⟨g,k * 5+j,none⟩ u) e g n cap k Z q' A:=by
  have hl:=h.lt
  have hr:=h.row.put k (by simpa using hk) j hj u q' (by simpa using hq) (by simpa using ht)
  rw [List.set_set] at hr
  refine ⟨hr,h.led.other _ _ _ (by omega),h.res.other _ _ _ (by omega),h.bel.setCell (p:=⟨g,k * 5+j,none⟩) h.row.lt.1 u,fun i hi r hr2=>?_,hl⟩
  refine h.old i (by simpa using hi) r ?_
  by_cases e:k=i
  · subst e
    simp only [List.getElem_set_self] at hr2 ⊢
    rw [<- hv];exact hr2
  · simpa [List.getElem_set,e] using hr2
theorem Dn.other {base:Nat} {w0 W:World} {e:Int} {g n cap k:Nat} {Z:List (Ac × Value)} {q:Ac × Value} {A:Nat} (h:Dn base w0 W e g n cap k Z q A) (b j:Nat) (u:Value) (hb:A+1 < b) :
    Dn base w0 (W.setCell ⟨b,j,none⟩ u) e g n cap k Z q A:=by
  have hl:=h.lt
  have hg:=h.row.lt.1
  exact ⟨h.row.other b j u (by omega) (fun i hi r hr e=>by have:=h.old i hi r hr;omega),h.led.other _ _ _ (by omega),h.res.other _ _ _ (by omega),h.bel.setCell (p:=⟨b,j,none⟩) (show base<=b by omega) u,h.old,hl⟩
theorem Dn.at {base:Nat} {w0 W:World} {e:Int} {g n cap k:Nat} {Z:List (Ac × Value)} {q:Ac × Value} {A:Nat} (h:Dn base w0 W e g n cap k Z q A) (hk:k < Z.length):AcAt W g (k * 5) q.1 q.2:=by
  have:=h.row.at k (by simpa using hk)
  simpa using this
theorem Dn.fin {base:Nat} {w0 W:World} {e:Int} {g n cap k:Nat} {Z:List (Ac × Value)} {q:Ac × Value} {A:Nat} (h:Dn base w0 W e g n cap k Z q A) (u u':Value) :
    OwnA base ((W.setCell ⟨A+1,0,none⟩ u).setCell ⟨A+1,1,none⟩ u') (.slice (some ⟨g,0,none⟩) n cap) ((Z.set k q).map (·.1))/\Below base w0 ((W.setCell ⟨A+1,0,none⟩ u).setCell ⟨A+1,1,none⟩ u'):=by
  have hl:=h.lt
  have hg:=h.row.lt.1
  have ho:∀ i (hi:i < (Z.set k q).length) r,(Z.set k q)[i].2.ownBlock=some r->A+1 ≠ r:=fun i hi r hr e=>by have:=h.old i hi r hr;omega
  exact ⟨((h.row.other (A+1) 0 u (by omega) ho).other (A+1) 1 u' (by omega) ho).own,(h.bel.setCell (p:=⟨A+1,0,none⟩) (show base<=A+1 by omega) _).setCell (p:=⟨A+1,1,none⟩) (show base<=A+1 by omega) _⟩
theorem Dn.finL {base:Nat} {w0 W:World} {e:Int} {g n cap k:Nat} {Z:List (Ac × Value)} {q:Ac × Value} {A:Nat} (h:Dn base w0 W e g n cap k Z q A) (hk:k < Z.length) (q':Ac × Value) (hq:acC q'=(acC q).set 4 q'.2) {b:Nat} (ho:OwnL b W q'.2 q'.1.2.2.2.2) (hb:A+1 < b) :
    Blk (W.setCell ⟨g,k * 5+4,none⟩ q'.2) A 36 [.int .i64 e,.slice (some ⟨g,0,none⟩) n cap]/\Blk (W.setCell ⟨g,k * 5+4,none⟩ q'.2) (A+1) 36 [.int .i64 0,.slice none 0 0] /\
    ∀ u u':Value,OwnA base (((W.setCell ⟨g,k * 5+4,none⟩ q'.2).setCell ⟨A+1,0,none⟩ u).setCell ⟨A+1,1,none⟩ u') (.slice (some ⟨g,0,none⟩) n cap) ((Z.set k q').map (·.1))/\Below base w0 (((W.setCell ⟨g,k * 5+4,none⟩ q'.2).setCell ⟨A+1,0,none⟩ u).setCell ⟨A+1,1,none⟩ u'):=by
  have hl:=h.lt
  have hg:=h.row.lt.1
  have hge:=ho.ge
  have hkS:k < (Z.set k q).length:=by simpa using hk
  have hr:=h.row.putL k hkS q' (by simpa using hq) (ho.mono (by omega)) (fun r hr=>by have:=hge r hr;omega) (fun i hi _ r hr e=>by have:=h.old i hi r hr;have:=hge r e;omega)
  rw [List.set_set] at hr
  have hn:∀ i (hi:i < (Z.set k q').length) r,(Z.set k q')[i].2.ownBlock=some r->A+1 ≠ r:=fun i hi r hr2 e9=>by
    by_cases e:k=i
    · subst e
      simp only [List.getElem_set_self] at hr2
      have:=hge r hr2
      omega
    · have h2:(Z.set k q)[i]'(by simpa using hi)=(Z.set k q')[i]:=by simp [e]
      have:=h.old i (by simpa using hi) r (by rw [h2];exact hr2)
      omega
  refine ⟨h.led.other _ _ _ (by omega),h.res.other _ _ _ (by omega),fun u u'=>⟨((hr.other (A+1) 0 u (by omega) hn).other (A+1) 1 u' (by omega) hn).own,?_⟩⟩
  exact ((h.bel.setCell (p:=⟨g,k * 5+4,none⟩) hg _).setCell (p:=⟨A+1,0,none⟩) (show base<=A+1 by omega) _).setCell (p:=⟨A+1,1,none⟩) (show base<=A+1 by omega) _
theorem done_any (e:Int) (t:Tx5) (g cap:Nat) (Z:List (Ac × Value)) (l:List Ac) (k:Nat) (base:Nat) (w:World) (hG:RowG base w g l.length cap Z) (hZ:Z.map (·.1)=l) (hk:k < l.length)
    (hkd:t.1=1\/t.1=2\/t.1=3) (hl:l.length<=3999999) (hall:∀ a ∈ l,a.1.size<=maxLen/\a.2.2.2.2.length<=3999999) (ht:t.2.2.1.size<=maxLen) (hwl:wlP t.2.2.2.1 (wrap64 (e+2)) l[k].2.2.2.2=lvP t.2.2.2.1 (wrap64 (e+2)) l[k].2.2.2.2) :
    Calls Tryz.prog 143 #[lgV e (.slice (some ⟨g,0,none⟩) l.length cap),.int .i64 (k:Int),orV t] w fun en w'=>∃ v',en=.returned (.tuple #[lgV e v',.bool (dnA e t l k).2])/\OwnA base w' v' (dnA e t l k).1/\Below base w w':=by
  have hkZ:k < Z.length:=by have:=hG.len;omega
  have hZk:Z[k].1=l[k]:=fst_get hZ k hkZ hk
  have hgd:=getD_at l k hk
  have hgl:=hG.lt
  have hcap:=hG.caps
  have hown:=hG.lvs.own k hkZ
  have hshape:=hown.rd.shape
  have hst:Z.set k Z[k]=Z:=List.set_getElem_self hkZ
  obtain ⟨q,hq⟩:∃ q,Z[k]=q:=⟨_,rfl⟩
  have hlen:=hall l[k] (List.getElem_mem _)
  have Hal:=hide (gv_all (e:=e) (t:=t) hk hall)
  rw [hq] at hown hshape hst hZk
  rw [<- hZk] at hlen hwl hgd Hal
  obtain ⟨⟨nm,fr,no,st,ls⟩,lv⟩:=q
  simp only at hown hshape hlen hwl
  obtain ⟨av',cv',rfl⟩:=hshape
  obtain ⟨w1,hw1⟩:∃ w1,w.alloc (.cells #[.int .i64 e,.slice (some ⟨g,0,none⟩) l.length cap] 36)=w1:=⟨_,rfl⟩
  obtain ⟨w2,hw2⟩:∃ w2,w1.alloc (.cells #[.int .i64 0,.slice none 0 0] 36)=w2:=⟨_,rfl⟩
  have s1:w1.heap.size=w.heap.size+1:=by rw [<- hw1];simp
  have s2:w2.heap.size=w.heap.size+1+1:=by rw [<- hw2];simp;omega
  have b2:Below w.heap.size w w2:=by rw [<- hw2,<- hw1];exact ((Below.refl _ w).alloc (Nat.le_refl _) _).alloc (by simp) _
  have D2:Dn base w w2 e g l.length cap k Z ((nm,fr,no,st,ls),.slice av' ls.length cv') w.heap.size:=by
    refine ⟨by rw [hst];exact hG.below b2 (Nat.le_refl _),by rw [<- hw2,<- hw1];exact (Blk.new w _ _).alloc _,by rw [<- s1,<- hw2];exact Blk.new w1 _ _,b2.mono (by omega),fun i hi r hr=>?_,hgl.2⟩
    have hi2:i < Z.length:=by simpa using hi
    have e9:(Z.set k ((nm,fr,no,st,ls),Value.slice av' ls.length cv'))[i]=Z[i]:=by
      simp only [List.getElem_set]
      split
      · rename_i e;subst e;exact hq.symm
      · rfl
    rw [e9] at hr
    exact (hG.lvs.own i hi2).lt r hr
  have c2:=(D2.at hkZ).c2
  have q2:=D2.row.frozen (k * 5+2)
  simp only at c2
  have HL:Hid (∀ q':Ac × Value,(Z.set k q').map (·.1)=l.set k q'.1):=hide (fun q'=>by rw [fst_set,hZ])
  have D3:=D2.put hkZ 2 (by omega) (.int .i64 (wrap64 (no+1))) ((nm,fr,wrap64 (no+1),st,ls),.slice av' ls.length cv') rfl rfl rfl
  obtain ⟨w3,hw3⟩:∃ w3,w2.setCell ⟨g,k * 5+2,none⟩ (.int .i64 (wrap64 (no+1)))=w3:=⟨_,rfl⟩
  rw [hw3] at D3
  have s3:w3.heap.size=w.heap.size+1+1:=by rw [<- hw3,<- s2];simp
  have l0:=D2.led.cell 0
  have l1:=D2.led.cell 1
  simp only [List.getElem?_cons_zero,List.getElem?_cons_succ] at l0 l1
  have hki:(k:Int) < (l.length:Int):=by omega
  have hk0:(0:Int)<=(k:Int):=by omega
  have HD3:=hide D3
  have HG2:=hide D2
  have Hown:=hide hown
  have HZ:=hide hZ
  have Hq:=hide hq
  have Hst:=hide hst
  have hdef:Hid (∀ (P:List Ac) (b:Bool),dnA e t l k=(P,b)->∀ v' w',OwnA base w' v' P->Below base w w'->∃ v'',(Ending.returned (.tuple #[lgV e v',.bool b])=.returned (.tuple #[lgV e v'',.bool (dnA e t l k).2]))/\OwnA base w' v'' (dnA e t l k).1/\Below base w w'):=hide (fun P b h v' w' ho hb=>⟨v',by rw [h],by rw [h];exact ho,hb⟩)
  obtain ⟨kd,fm,tO,am,nc⟩:=t
  simp only at hkd hwl ht
  simp only [lgV] at hdef ⊢
  clear hG hZ hq hst hown D2 D3 hall
  rcases hkd with rfl | rfl | rfl
  · have HV:Hid (orV (1,fm,tO,am,nc)=.iface 248 (.agg #[.string tO,.int .i64 am])):=hide rfl
    rw [HV.out]
    have a1:=Tryz.isPay
    obtain ⟨w4,hw4⟩:∃ w4,w3.alloc (.cells #[.string { data:=#[] },.int .i64 0] 248)=w4:=⟨_,rfl⟩
    have b4:Below w3.heap.size w3 w4:=by rw [<- hw4];exact (Below.refl _ w3).alloc (Nat.le_refl _) _
    have kB:Blk w4 (w.heap.size+1+1) 248 [.string { data:=#[] },.int .i64 0]:=by rw [<- hw4,<- s3];exact Blk.new w3 _ _
    have kB5:=(kB.set 0 (.string tO)).set 1 (.int .i64 am)
    have D5:=((HD3.out.below b4).other (w.heap.size+1+1) 0 (.string tO) (by omega)).other (w.heap.size+1+1) 1 (.int .i64 am) (by omega)
    obtain ⟨w5,hw5⟩:∃ w5,(w4.setCell ⟨w.heap.size+1+1,0,none⟩ (.string tO)).setCell ⟨w.heap.size+1+1,1,none⟩ (.int .i64 am)=w5:=⟨_,rfl⟩
    rw [hw5] at kB5 D5
    simp only [List.set_cons_zero,List.set_cons_succ] at kB5
    have e0:=kB.cell 0
    have e1:=kB.cell 1
    have f0:=kB.frozen 0
    have f1:=kB.frozen 1
    have x0:=kB5.cell 0
    have x1:=kB5.cell 1
    have x2:=(D5.at hkZ).c1
    have y2:=D5.row.frozen (k * 5+1)
    simp only [List.getElem?_cons_zero,List.getElem?_cons_succ] at e0 e1 x0 x1 x2
    have D6:=(D5.put hkZ 1 (by omega) (.int .i64 (wrap64 (fr - am))) ((nm,wrap64 (fr - am),wrap64 (no+1),st,ls),.slice av' ls.length cv') rfl rfl rfl).below (Below.refl _ _).drew
    have kB6:=(kB5.other g (k * 5+1) (.int .i64 (wrap64 (fr - am))) (by omega)).below (Below.refl _ _).drew (kB5.other g (k * 5+1) (.int .i64 (wrap64 (fr - am))) (by omega)).lt
    obtain ⟨w6,hw6⟩:∃ w6,(w5.setCell ⟨g,k * 5+1,none⟩ (.int .i64 (wrap64 (fr - am)))).drew=w6:=⟨_,rfl⟩
    rw [hw6] at D6 kB6
    have z0:=kB6.cell 0
    have z1:=kB6.cell 1
    have m1:=D6.led.cell 1
    simp only [List.getElem?_cons_zero,List.getElem?_cons_succ] at z0 z1 m1
    have ho6:=D6.row.own
    rw [HL.out] at ho6
    have Hcr:=hide (implCredit_any _ (l.set k (nm,wrap64 (fr - am),wrap64 (no+1),st,ls)) tO am w6 ho6.rd (by simpa using hl) Hal.out ht)
    have HD6:=hide D6
    have HA:Hid (dnA e (1,fm,tO,am,nc) l k=crA (l.set k (nm,wrap64 (fr - am),wrap64 (no+1),st,ls)) tO am):=hide (by unfold dnA;rw [if_pos rfl,hgd];rfl)
    clear b4 kB kB5 D5 kB6 D6 ho6
    go_enter Tryz.func143,Tryz.ntmps143
    go_upto_region 6 with fail
    go_region
    go_upto_region 7 with fail
    (try rw [hw6])
    go_wp2_with fail
    refine Hcr.out.mono ?_
    rintro en w8 ⟨v8,rfl,o8,hb8⟩
    have D8:=HD6.out.below hb8
    have m2:=D8.led.cell 1
    have mf:=D8.led.frozen 1
    have hlt:=D8.led.lt
    have h68:=HD6.out.led.lt
    have h69:=HD6.out.res.lt
    have kL:=D8.led.set 1 v8
    have kR:=D8.res.other w.heap.size 1 v8 (by omega)
    have hB9:=D8.bel.setCell (p:=⟨w.heap.size,1,none⟩) (show base<=w.heap.size by omega) v8
    have o9:=o8.older (g:=w.heap.size) (by omega) 1 v8
    obtain ⟨w9,hw9⟩:∃ w9,w8.setCell ⟨w.heap.size,1,none⟩ v8=w9:=⟨_,rfl⟩
    rw [hw9] at kL kR hB9 o9
    simp only [List.set_cons_zero,List.set_cons_succ] at kL
    have r0:=kR.cell 0
    have r1:=kR.cell 1
    have g0:=kR.frozen 0
    have g1:=kR.frozen 1
    have n0:=kL.cell 0
    have n1:=kL.cell 1
    simp only [List.getElem?_cons_zero,List.getElem?_cons_succ] at r0 r1 n0 n1 m2
    have HO:=hide (((o9.older (g:=w.heap.size+1) (by omega) 0 (.int .i64 e)).older (g:=w.heap.size+1) (by omega) 1 v8).mono (show base<=w6.heap.size by have:=HD6.out.row.lt;omega))
    have HB:=hide ((hB9.setCell (p:=⟨w.heap.size+1,0,none⟩) (show base<=w.heap.size+1 by omega) (.int .i64 e)).setCell (p:=⟨w.heap.size+1,1,none⟩) (show base<=w.heap.size+1 by omega) v8)
    obtain ⟨a8,c8,hv8⟩:=o8.rd.shape
    generalize crA (l.set k (nm,wrap64 (fr - am),wrap64 (no+1),st,ls)) tO am=P at HA hv8 HO o8 o9
    subst hv8
    clear D8 kL kR o8 o9 Hcr
    go_wp2
    refine bodyPost_ret (v:=.tuple #[.agg #[.int .i64 e,.slice a8 P.1.length c8],.bool P.2]) (by simp [results,Tryz.f143,go_sem,r0,r1]) rfl ?_
    exact hdef.out P.1 P.2 HA.out _ _ HO.out HB.out
  · have HV:Hid (orV (2,fm,tO,am,nc)=.iface 250 (.agg #[.int .i64 am])):=hide rfl
    rw [HV.out]
    have a1:=Tryz.bondNoPay
    have a2:=Tryz.isBond
    obtain ⟨w4,hw4⟩:∃ w4,w3.alloc (.cells #[.int .i64 0] 250)=w4:=⟨_,rfl⟩
    have b4:Below w3.heap.size w3 w4:=by rw [<- hw4];exact (Below.refl _ w3).alloc (Nat.le_refl _) _
    have kB:Blk w4 (w.heap.size+1+1) 250 [.int .i64 0]:=by rw [<- hw4,<- s3];exact Blk.new w3 _ _
    have kB5:=kB.set 0 (.int .i64 am)
    have D5:=(HD3.out.below b4).other (w.heap.size+1+1) 0 (.int .i64 am) (by omega)
    obtain ⟨w5,hw5⟩:∃ w5,w4.setCell ⟨w.heap.size+1+1,0,none⟩ (.int .i64 am)=w5:=⟨_,rfl⟩
    rw [hw5] at kB5 D5
    simp only [List.set_cons_zero] at kB5
    have e0:=kB.cell 0
    have f0:=kB.frozen 0
    have x0:=kB5.cell 0
    have x1:=(D5.at hkZ).c1
    have y1:=D5.row.frozen (k * 5+1)
    simp only [List.getElem?_cons_zero] at e0 x0 x1
    have D6:=(D5.put hkZ 1 (by omega) (.int .i64 (wrap64 (fr - am))) ((nm,wrap64 (fr - am),wrap64 (no+1),st,ls),.slice av' ls.length cv') rfl rfl rfl).below (Below.refl _ _).drew
    have kB6:=(kB5.other g (k * 5+1) (.int .i64 (wrap64 (fr - am))) (by omega)).below (Below.refl _ _).drew (kB5.other g (k * 5+1) (.int .i64 (wrap64 (fr - am))) (by omega)).lt
    obtain ⟨w6,hw6⟩:∃ w6,(w5.setCell ⟨g,k * 5+1,none⟩ (.int .i64 (wrap64 (fr - am)))).drew=w6:=⟨_,rfl⟩
    rw [hw6] at D6 kB6
    have x2:=kB6.cell 0
    have x3:=(D6.at hkZ).c3
    have y3:=D6.row.frozen (k * 5+3)
    simp only [List.getElem?_cons_zero] at x2 x3
    have D7:=(D6.put hkZ 3 (by omega) (.int .i64 (wrap64 (st+am))) ((nm,wrap64 (fr - am),wrap64 (no+1),wrap64 (st+am),ls),.slice av' ls.length cv') rfl rfl rfl).below (Below.refl _ _).drew
    obtain ⟨w7,hw7⟩:∃ w7,(w6.setCell ⟨g,k * 5+3,none⟩ (.int .i64 (wrap64 (st+am)))).drew=w7:=⟨_,rfl⟩
    rw [hw7] at D7
    have r0:=D7.res.cell 0
    have r1:=D7.res.cell 1
    have g0:=D7.res.frozen 0
    have g1:=D7.res.frozen 1
    have m0:=D7.led.cell 0
    have m1:=D7.led.cell 1
    simp only [List.getElem?_cons_zero,List.getElem?_cons_succ] at r0 r1 m0 m1
    have HD7:=hide D7
    clear b4 kB kB5 D5 kB6 D6 D7
    go_enter Tryz.func143,Tryz.ntmps143
    go_upto_region 10 with fail
    go_region
    go_upto_region 11 with fail
    go_region
    (try rw [hw7])
    go_wp2
    refine bodyPost_ret (v:=.tuple #[.agg #[.int .i64 e,.slice (some ⟨g,0,none⟩) l.length cap],.bool true]) (by simp [results,Tryz.f143,go_sem,r0,r1]) rfl ?_
    have ho:=HD7.out.fin (.int .i64 e) (.slice (some ⟨g,0,none⟩) l.length cap)
    rw [HL.out] at ho
    exact hdef.out (l.set k (nm,wrap64 (fr - am),wrap64 (no+1),wrap64 (st+am),ls)) true (by unfold dnA;rw [if_neg (show ¬ (2:Int)=1 by decide),hgd];rfl) _ _ ho.1 ho.2
  · have HV:Hid (orV (3,fm,tO,am,nc)=.iface 251 (.agg #[.int .i64 am])):=hide rfl
    rw [HV.out]
    have a1:=Tryz.unbondNoPay
    have a2:=Tryz.unbondNoBond
    have a3:=Tryz.isUnbond
    obtain ⟨w4,hw4⟩:∃ w4,w3.alloc (.cells #[.int .i64 0] 251)=w4:=⟨_,rfl⟩
    have b4:Below w3.heap.size w3 w4:=by rw [<- hw4];exact (Below.refl _ w3).alloc (Nat.le_refl _) _
    have kB:Blk w4 (w.heap.size+1+1) 251 [.int .i64 0]:=by rw [<- hw4,<- s3];exact Blk.new w3 _ _
    have kB5:=kB.set 0 (.int .i64 am)
    have D5:=(HD3.out.below b4).other (w.heap.size+1+1) 0 (.int .i64 am) (by omega)
    obtain ⟨w5,hw5⟩:∃ w5,w4.setCell ⟨w.heap.size+1+1,0,none⟩ (.int .i64 am)=w5:=⟨_,rfl⟩
    rw [hw5] at kB5 D5
    simp only [List.set_cons_zero] at kB5
    have e0:=kB.cell 0
    have f0:=kB.frozen 0
    have x0:=kB5.cell 0
    have x1:=(D5.at hkZ).c3
    have y1:=D5.row.frozen (k * 5+3)
    simp only [List.getElem?_cons_zero] at e0 x0 x1
    have D6:=(D5.put hkZ 3 (by omega) (.int .i64 (wrap64 (st - am))) ((nm,fr,wrap64 (no+1),wrap64 (st - am),ls),.slice av' ls.length cv') rfl rfl rfl).below (Below.refl _ _).drew
    have kB6:=(kB5.other g (k * 5+3) (.int .i64 (wrap64 (st - am))) (by omega)).below (Below.refl _ _).drew (kB5.other g (k * 5+3) (.int .i64 (wrap64 (st - am))) (by omega)).lt
    obtain ⟨w6,hw6⟩:∃ w6,(w5.setCell ⟨g,k * 5+3,none⟩ (.int .i64 (wrap64 (st - am)))).drew=w6:=⟨_,rfl⟩
    rw [hw6] at D6 kB6
    have x2:=kB6.cell 0
    have x3:=(D6.at hkZ).c4
    have m0:=D6.led.cell 0
    simp only [List.getElem?_cons_zero] at x2 x3 m0
    have hown6:OwnL base w6 (.slice av' ls.length cv') ls:=by
      have:=D6.row.lvs.own k (by simpa using hkZ)
      simpa using this
    have hwr:wrap64 (e+2)=IntKind.i64.wrap (e+2):=by rw [IntKind.wrap_i64];unfold wrap64;rfl
    have HLv:Hid (∀ W,Below w6.heap.size w6 W->Calls Tryz.prog 153 #[.slice av' ls.length cv',.agg #[.int .i64 am,.int .i64 (IntKind.i64.wrap (e+2))]] W fun en w'=>∃ v',en=.returned v'/\OwnL W.heap.size w' v' (lvP am (wrap64 (e+2)) ls)/\Below w6.heap.size w6 w'/\w6.heap.size<=W.heap.size):=hide (fun W hb=>hwr ▸ (implWithLeave_any (.slice av' ls.length cv') ls am (wrap64 (e+2)) W (hown6.rd.below hb (Nat.le_refl _)) (by omega)).mono (fun en w' ⟨v',h1,h2,h3⟩=>⟨v',h1,by rw [<- hwl];exact h2,hb.trans (h3.mono hb.size),hb.size⟩))
    have HD6:=hide D6
    have Hwl:=hide hwl
    clear b4 kB kB5 D5 kB6 D6 hown6 hwl hwr
    go_enter Tryz.func143,Tryz.ntmps143
    go_upto_region 14 with fail
    go_region
    go_upto_region 15 with fail
    (try rw [hw6])
    go_region_law ((go_simp;go_at_call 153;refine (HLv.out _ (by first | exact Below.refl _ _ | exact (Below.refl _ _).drew)).mono ?_;rintro en w8 ⟨v8,rfl,o8,b8,z8⟩;have hsh:=o8.rd.shape;obtain ⟨a8,c8,hv8⟩:=hsh;subst hv8;have D8:=HD6.out.below b8;have x8:=(D8.at hkZ).c4;have x8f:=D8.row.frozen (k * 5+4);simp only at x8))
    all_goals
      obtain ⟨kL,kR,hfin⟩:=D8.finL hkZ ((nm,fr,wrap64 (no+1),wrap64 (st - am),lvP am (wrap64 (e+2)) ls),.slice a8 (lvP am (wrap64 (e+2)) ls).length c8) rfl o8 (by have:=HD6.out.res.lt;omega)
      simp only at kL kR hfin
      obtain ⟨w9,hw9⟩:∃ w9,w8.setCell ⟨g,k * 5+4,none⟩ (.slice a8 (lvP am (wrap64 (e+2)) ls).length c8)=w9:=⟨_,rfl⟩
      rw [hw9] at kL kR hfin
      have r0:=kR.cell 0
      have r1:=kR.cell 1
      have g0:=kR.frozen 0
      have g1:=kR.frozen 1
      have m0:=kL.cell 0
      have m1:=kL.cell 1
      simp only [List.getElem?_cons_zero,List.getElem?_cons_succ] at r0 r1 m0 m1
      have HF:=hide (hfin (.int .i64 e) (.slice (some ⟨g,0,none⟩) l.length cap))
      rw [HL.out] at HF
      clear kL kR hfin D8 o8 b8
      go_wp2
      refine bodyPost_ret (v:=.tuple #[.agg #[.int .i64 e,.slice (some ⟨g,0,none⟩) l.length cap],.bool true]) (by simp [results,Tryz.f143,go_sem,r0,r1]) rfl ?_
      exact hdef.out (l.set k (nm,fr,wrap64 (no+1),wrap64 (st - am),lvP am (wrap64 (e+2)) ls)) true (by unfold dnA;rw [if_neg (show ¬ (3:Int)=1 by decide),hgd];rfl) _ _ HF.out.1 HF.out.2
theorem implLedgerOk_any (e:Int) (v:Value) (l:List Ac) (w:World) (hr:RdA w v l) (hl:l.length<=4000000) (hall:∀ a ∈ l,a.1.size<=maxLen/\a.2.2.2.2.length<=4000000) :
    Calls Tryz.prog 105 #[lgV e v] w fun en w'=>en=.returned (.bool (lgB e l))/\Below w.heap.size w w':=by
  obtain ⟨a1,cv1,rfl⟩:=hr.shape
  simp only [lgV] at *
  have hb3:Below w.heap.size w (w.alloc (.cells #[.int .i64 e,.slice a1 l.length cv1] 36)):=(Below.refl _ w).alloc (Nat.le_refl _) _
  have HE:=hide (implAcctsOk_any _ l _ (hr.below hb3 (Nat.le_refl _)) hl hall)
  have Hb3:=hide hb3
  have Hx:Hid (lgB e l=(inB e 0 900 && acsB l)):=hide rfl
  clear hb3 hr hall
  generalize lgB e l=X at Hx
  generalize acsB l=A at Hx HE
  cases h0:inB e 0 900
  · rw [h0,Bool.false_and] at Hx
    go_enter Tryz.func105,Tryz.ntmps105
    go_wp2_with (go_at_call 102;refine (implWithin_any _ _ _ _).mono ?_;rintro en w1 ⟨rfl,rfl⟩)
    go_ret
    exact ⟨ret_bool Hx.out.symm,Hb3.out⟩
  · rw [h0,Bool.true_and] at Hx
    go_enter Tryz.func105,Tryz.ntmps105
    go_wp2_with (first
      | (go_at_call 102;refine (implWithin_any _ _ _ _).mono ?_;rintro en w1 ⟨rfl,rfl⟩)
      | (go_at_call 133;refine HE.out.mono ?_;rintro en w2 ⟨rfl,hb2⟩))
    go_ret
    exact ⟨ret_bool Hx.out.symm,Hb3.out.trans (hb2.mono Hb3.out.size)⟩
theorem implCopiedLg_any (e:Int) (v:Value) (l:List Ac) (w:World) (hr:RdA w v l) (hl:l.length<=4000000) (hall:∀ a ∈ l,a.2.2.2.2.length<=4000000) :
    Calls Tryz.prog 33 #[lgV e v] w fun en w'=>∃ v',en=.returned (lgV e v')/\OwnA w.heap.size w' v' l/\Below w.heap.size w w':=by
  obtain ⟨a1,cv1,rfl⟩:=hr.shape
  simp only [lgV] at *
  obtain ⟨w2,hw2⟩:∃ w2,(w.alloc (.cells #[.int .i64 e,.slice a1 l.length cv1] 36)).alloc (.cells #[.int .i64 0,.slice none 0 0] 36)=w2:=⟨_,rfl⟩
  have hb2:Below w.heap.size w w2.drew:=by rw [<- hw2];exact (((Below.refl _ w).alloc (Nat.le_refl _) _).alloc (by simp) _).drew
  have hs2:w2.heap.size=w.heap.size+2:=by rw [<- hw2];simp
  have kA:Blk w2 w.heap.size 36 [.int .i64 e,.slice a1 l.length cv1]:=by
    rw [<- hw2]
    exact (Blk.new w 36 [.int .i64 e,.slice a1 l.length cv1]).below ((Below.refl (w.heap.size+1) _).alloc (by simp) _) (by omega)
  have kR:Blk w2 (w.heap.size+1) 36 [.int .i64 0,.slice none 0 0]:=by
    rw [<- hw2]
    have h:=Blk.new (w.alloc (.cells #[.int .i64 e,.slice a1 l.length cv1] 36)) 36 [.int .i64 0,.slice none 0 0]
    simp only [World.size_alloc] at h
    exact h
  have HC:=hide (implCopiedS_any _ l w2.drew (hr.below hb2 (Nat.le_refl _)) hl hall)
  have hS2:w2.drew.cell? ⟨w.heap.size,0,none⟩=some (.int .i64 e)/\w2.drew.cell? ⟨w.heap.size,1,none⟩=some (.slice a1 l.length cv1):=⟨kA.cell 0,kA.cell 1⟩
  have Hb2:=hide hb2
  have KA:Hid (Blk w2.drew w.heap.size 36 [.int .i64 e,.slice a1 l.length cv1]):=hide kA
  have KR:Hid (Blk w2.drew (w.heap.size+1) 36 [.int .i64 0,.slice none 0 0]):=hide kR
  have hs3:w2.drew.heap.size=w.heap.size+2:=hs2
  clear hr hb2 kA kR
  go_enter Tryz.func33,Tryz.ntmps33
  go_wp2
  go_region_held_law (fun w'=>w'.cell? ⟨w.heap.size,0,none⟩=some (.int .i64 e)/\w'.cell? ⟨w.heap.size,1,none⟩=some (.slice a1 l.length cv1)) (first | exact hS2 | exact hS4 | exact keep2 hS4 (by omega)) ((go_at_call 63;refine HC.out.mono ?_;rintro en w4 ⟨v4,rfl,ho4,hb4⟩;have KA4:=KA.out.below hb4 (by omega);have KR4:=KR.out.below hb4 (by omega);have hS4:w4.cell? ⟨w.heap.size,0,none⟩=some (.int .i64 e)/\w4.cell? ⟨w.heap.size,1,none⟩=some (.slice a1 l.length cv1):=⟨KA4.cell 0,KA4.cell 1⟩;have r0:w4.cell? ⟨w.heap.size+1,0,none⟩=some (.int .i64 0):=KR4.cell 0;have r1:w4.cell? ⟨w.heap.size+1,1,none⟩=some (.slice none 0 0):=KR4.cell 1;have q0:=KR4.frozen 0;have q1:=KR4.frozen 1;have hsh:=ho4.rd.shape;obtain ⟨a4,cv4,hv4⟩:=hsh;subst hv4))
  have Ho:=hide (((ho4.older (g:=w.heap.size+1) (by omega) 0 (.int .i64 e)).older (g:=w.heap.size+1) (by omega) 1 (.slice a4 l.length cv4)).mono (show w.heap.size<=_ by omega))
  have HB:=hide (((Hb2.out.trans (hb4.mono Hb2.out.size)).setCell (p:=⟨w.heap.size+1,0,none⟩) (show w.heap.size<=w.heap.size+1 by omega) (.int .i64 e)).setCell (p:=⟨w.heap.size+1,1,none⟩) (show w.heap.size<=w.heap.size+1 by omega) (.slice a4 l.length cv4))
  clear ho4 hb4 KA4
  go_wp2
  refine bodyPost_ret (v:=.agg #[.int .i64 e,.slice a4 l.length cv4]) (by simp [results,Tryz.f33,go_sem,r0,r1]) rfl ?_
  exact ⟨_,rfl,Ho.out,HB.out⟩
end Go.Proofs.YthehfkafcdociaaGreatDoor
