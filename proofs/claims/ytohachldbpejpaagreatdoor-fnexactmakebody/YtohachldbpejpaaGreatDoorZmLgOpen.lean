/- The laws' marks on lists of accounts: written, and found again. The laws' marks on accounts are found again. A ledger by value: made, held against another, its size, marked and looked at again. A ledger that came in, opened: what it reads as. -/
import Derived.Test.YtohachldbpejpaaGreatDoorZmAcMark
import Derived.Deep.RegionWith
import Derived.Test.YtohachldbpejpaaGreatDoorZmNames
import Derived.Test.YtohachldbpejpaaGreatDoorZmAcOpen
namespace Go.Proofs.YtohachldbpejpaaGreatDoor
open Go.RowKit
set_option linter.unusedVariables false
theorem flat_put4 {α:Type} (L:List (List α)) (i:Nat) (a b c d a0 b0 c0 d0 e:α) (hi:i < L.length) (h:∀ x ∈ L,x.length=5) (hx:L[i]=[a0,b0,c0,d0,e]):(((L.flatten.set (i * 5) a).set (i * 5+1) b).set (i * 5+2) c).set (i * 5+3) d=(L.set i [a,b,c,d,e]).flatten:=by
  have h5:=flat_put5 L i a b c d e hi h
  rw [<- h5]
  have hself:∀ (X:List α) (m:Nat) (u:α),X[m]?=some u->X.set m u=X:=fun X m u hu=>by
    obtain ⟨h1,rfl⟩:=List.getElem?_eq_some_iff.1 hu
    simp
  symm
  apply hself
  rw [List.getElem?_set_ne (by omega),List.getElem?_set_ne (by omega),List.getElem?_set_ne (by omega),List.getElem?_set_ne (by omega),flat_get 5 L i 4 hi h (by omega),hx]
  rfl
theorem Lvs.mark {base:Nat} {w w':World} {g:Nat} {P:List (Ac × Value)} (h:Lvs base w g P) {j:Nat} (hj:j < P.length) (q:Ac × Value) (hq:q.2=P[j].2) (ho:OwnL base w' P[j].2 q.1.2.2.2.2) (hg:w.grownBy w' P[j].2.ownBlock):Lvs base w' g (P.set j q):=by
  have hat:∀ i (hi:i < (P.set j q).length),(P.set j q)[i].2=(P[i]'(by simpa using hi)).2:=fun i hi=>by
    rw [List.getElem_set]
    split
    · rename_i e;subst e;exact hq
    · rfl
  refine ⟨fun i hi=>?_,fun i hi=>?_,fun i i' hi hi' hne=>?_⟩
  · by_cases e:i=j
    · subst e
      have e2:(P.set i q)[i]=q:=by simp
      rw [e2,hq];exact ho
    · have e2:(P.set j q)[i]=P[i]'(by simpa using hi):=by rw [List.getElem_set_ne (by omega)]
      rw [e2]
      refine (h.own i (by simpa using hi)).kept hg ?_
      cases hb:(P[i]'(by simpa using hi)).2.ownBlock with
      | none=>exact .inl rfl
      | some k=>exact .inr (fun e'=>h.apart i j (by simpa using hi) hj e k hb e'.symm)
  · rw [hat i hi];exact h.far i (by simpa using hi)
  · rw [hat i hi,hat i' hi'];exact h.apart i i' (by simpa using hi) (by simpa using hi') hne
theorem Btw.set {lo hi:Nat} {w w':World} (h:Btw lo hi w w') {g:Nat} (h1:lo<=g) (h2:g < hi) (j:Nat) (u:Value):Btw lo hi w (w'.setCell ⟨g,j,none⟩ u) :=
  h.trans (Btw.of_grown (grown_set w' g j u) (fun k e=>by cases e;exact ⟨h1,h2⟩))
set_option maxRecDepth 20000 in
set_option maxHeartbeats 2000000 in
theorem markAcctS_any (v:Value) (l:List Ac) (k base hi:Nat) (w:World) (ho:OwnX base hi w v l) (hl:l.length<=10000000) (hlv:∀ a ∈ l,a.2.2.2.2.length<=10000000) (hk:nxs k l<=90000000) (hk0:0 < k) :
    Calls Tryz.prog 99 #[v,.int .i64 (k:Int)] w fun e w'=>e=.returned (.int .i64 ((nxs k l:Nat):Int))/\OwnX base hi w' v (mkAs k l)/\Btw base hi w w':=by
  obtain ⟨g,cap,Z,hZ,rfl,hrow,hLv,hghi,hZhi⟩:=ho
  have hZl:Z.length=l.length:=by rw [<- hZ];simp
  have hgb:base<=g:=(World.ownsRow.lt hrow g rfl).1
  have Hrow:=hide hrow
  have HLv:=hide hLv
  have HZ:=hide hZ
  have HZhi:=hide hZhi
  have Hlv:=hide hlv
  clear hrow hLv hZ hZhi hlv
  go_enter Tryz.func99,Tryz.ntmps99
  go_wp2
  go_loopw [1,5] (fun kv iv wr=>∃ j:Nat,j<=l.length/\iv=.int .i64 (j:Int)/\kv=.int .i64 ((nxs k (l.take j):Nat):Int)/\wr.ownsRow base 105 5 (.slice (some ⟨g,0,none⟩) l.length cap) l.length ((mkP k Z j).map acC).flatten/\Lvs base wr g (mkP k Z j)/\Btw base hi w wr)
    (fun _ iv _=>l.length - (intOf iv).toNat)
  case atStart=>exact ⟨0,Nat.zero_le _,rfl,rfl,by rw [mkP_zero];exact Hrow.out,by rw [mkP_zero];exact HLv.out,Btw.refl _ _ _⟩
  case round =>
    obtain ⟨j,hj,rfl,rfl,hown,hLv,hbt⟩:=hrel
    clear Hrow HLv
    by_cases hlt:j < l.length
    · have hjZ:j < Z.length:=by omega
      have hli:(j:Int) < (l.length:Int):=by omega
      have hZj:Z[j].1=l[j]:=fst_at HZ.out hlt
      have hPl:=mkP_len k Z j (by omega)
      have hPat:=mkP_at k Z j hjZ
      have Hnx:=hide (nxs_next k l j hlt)
      have hKb:=nxs_take k l (j+1)
      have Hpn:=hide (mkP_next k Z j hjZ)
      rw [HZ.out] at Hpn
      have hKg:=nxs_ge k (l.take j)
      have hlj:=Hlv.out l[j] (List.getElem_mem _)
      have hLj:=hLv.own j (by omega)
      have hgeJ:=hLj.ge
      have hfarJ:=hLv.far j (by omega)
      rw [hPat] at hLj hgeJ hfarJ
      rw [hZj] at hLj Hpn
      have hhiJ:=HZhi.out Z[j] (List.getElem_mem _)
      have Hq:Hid (∀ w',OwnL base w' Z[j].2 (mkL (nxs k (l.take j)+4) l[j].2.2.2.2.length)->∀ w,Lvs base w g (mkP k Z j)->w.grownBy w' Z[j].2.ownBlock->Lvs base w' g (mkP k Z (j+1))):=hide (fun w' h1 w0 h2 h3=>by
        rw [<- Hpn.out]
        exact h2.mark (by omega) _ (by rw [hPat]) (by rw [hPat];exact h1) (by rw [hPat];exact h3))
      have Hc:Hid (∀ i,i < 5->((mkP k Z j).map acC).flatten[j * 5+i]?=(acC Z[j])[i]?):=hide (fun i hi=>by
        rw [flat_get 5 _ j i (by simp;omega) (acM_sz _) hi]
        simp [hPat])
      have hacz:acC Z[j]=[.string l[j].1,.int .i64 l[j].2.1,.int .i64 l[j].2.2.1,.int .i64 l[j].2.2.2.1,Z[j].2]:=by unfold acC;rw [hZj]
      have Hput:Hid (∀ K:Nat,K=nxs k (l.take j)->((((((mkP k Z j).map acC).flatten.set (j * 5) (.string (mtx K))).set (j * 5+1) (.int .i64 ((K+1:Nat):Int))).set (j * 5+2) (.int .i64 ((K+2:Nat):Int))).set (j * 5+3) (.int .i64 ((K+3:Nat):Int)))=((mkP k Z (j+1)).map acC).flatten):=hide (fun K hK=>by
        rw [flat_put4 _ j _ _ _ _ (.string l[j].1) (.int .i64 l[j].2.1) (.int .i64 l[j].2.2.1) (.int .i64 l[j].2.2.2.1) Z[j].2 (by simp;omega) (acM_sz _) (by simp [hPat,hacz]),<- Hpn.out,List.map_set,hK]
        rfl)
      rw [hacz] at Hc
      obtain ⟨a',c',hsh⟩:=hLj.rd.shape
      have Hown:=hide hown
      have HLv:=hide hLv
      have HLj:=hide hLj
      have HgeJ:=hide hgeJ
      have HfarJ:=hide hfarJ
      have HhiJ:=hide hhiJ
      have Hbt:=hide hbt
      clear hown hLv hLj hgeJ hfarJ hhiJ hbt hPat hPl hacz hZj Hpn
      generalize Z[j].2=lw at *
      subst hsh
      have hnxe:nxs k (l.take (j+1))=nxs k (l.take j)+4+2 * l[j].2.2.2.2.length:=Hnx.out
      have Hnx2:=hide hnxe
      obtain ⟨K,hK⟩:∃ K,nxs k (l.take j)=K:=⟨_,rfl⟩
      rw [hK] at Hq Hnx2 hnxe hKg ⊢
      have Hput:=hide (Hput.out K hK.symm)
      have hK0:0 < K:=by omega
      have hK2:K<=90000000:=by omega
      have hKn:K+4<=100000000:=by omega
      have Hm:=hide (fun w=>markText_any K w hK0 (by omega))
      clear hnxe hKb Hnx hK
      generalize l[j]=ak at *
      obtain ⟨nm,fr,no,st,ls⟩:=ak
      simp only at Hc HLj Hq Hnx2 hlj
      go_wp2_with fail
      refine (Hm.out _).mono ?_
      rintro e w1 ⟨rfl,hb1⟩
      have ho1:=row_below Hown.out hb1 (Nat.le_refl _)
      have q0:=ho1.cellAt (j * 5) (by omega)
      have q1:=ho1.cellAt (j * 5+1) (by omega)
      have q2:=ho1.cellAt (j * 5+2) (by omega)
      have q3:=ho1.cellAt (j * 5+3) (by omega)
      have q4:=ho1.cellAt (j * 5+4) (by omega)
      have f0:=ho1.frozenAt (j * 5)
      have f1:=ho1.frozenAt (j * 5+1)
      have f2:=ho1.frozenAt (j * 5+2)
      have f3:=ho1.frozenAt (j * 5+3)
      rw [<- Nat.add_zero (j * 5),Hc.out 0 (by omega)] at q0
      rw [Nat.add_zero] at q0
      rw [Hc.out 1 (by omega)] at q1
      rw [Hc.out 2 (by omega)] at q2
      rw [Hc.out 3 (by omega)] at q3
      rw [Hc.out 4 (by omega)] at q4
      simp only [List.getElem?_cons_zero,List.getElem?_cons_succ] at q0 q1 q2 q3 q4
      have s1:=(ho1.stored (j * 5) (.string (mtx K))).1
      have s2:=(s1.stored (j * 5+1) (.int .i64 ((K+1:Nat):Int))).1
      have s3:=(s2.stored (j * 5+2) (.int .i64 ((K+2:Nat):Int))).1
      have s4:=(s3.stored (j * 5+3) (.int .i64 ((K+3:Nat):Int))).1
      rw [Hput.out] at s4
      have HS4:=hide s4
      have HLv1:=hide ((((HLv.out.below hb1 (Nat.le_refl _)).set (j * 5) (.string (mtx K))).set (j * 5+1) (.int .i64 ((K+1:Nat):Int))).set (j * 5+2) (.int .i64 ((K+2:Nat):Int)) |>.set (j * 5+3) (.int .i64 ((K+3:Nat):Int)))
      have HLj1:=hide (row_set (row_set (row_set (row_set (HLj.out.below hb1 (Nat.le_refl _)) g (j * 5) (.string (mtx K)) HfarJ.out) g (j * 5+1) (.int .i64 ((K+1:Nat):Int)) HfarJ.out) g (j * 5+2) (.int .i64 ((K+2:Nat):Int)) HfarJ.out) g (j * 5+3) (.int .i64 ((K+3:Nat):Int)) HfarJ.out)
      have Hbt1:=hide (((((Hbt.out.trans (Btw.of_below hb1)).set hgb hghi (j * 5) (.string (mtx K))).set hgb hghi (j * 5+1) (.int .i64 ((K+1:Nat):Int))).set hgb hghi (j * 5+2) (.int .i64 ((K+2:Nat):Int))).set hgb hghi (j * 5+3) (.int .i64 ((K+3:Nat):Int)))
      clear s1 s2 s3 s4 ho1 hb1 Hc
      go_wp2_with (go_at_call 157;refine (markLeaveS_any _ ls (K+4) base _ HLj1.out hlj hKn).mono ?_;rintro e w2 ⟨rfl,ho2,hg2⟩)
      go_roundw
      case rel =>
        refine ⟨j+1,by omega,by go_num,by rw [Hnx2.out];go_num,World.ownsRow.kept HS4.out hg2 ?_,Hq.out _ ho2 _ HLv1.out hg2,Hbt1.out.trans (Btw.of_grown hg2 (fun k hk=>⟨HgeJ.out k hk,HhiJ.out k hk⟩))⟩
        refine .inr (fun e=>HfarJ.out g e.symm rfl)
      case measure=>simp [intOf];omega
    · have e:j=l.length:=by omega
      subst e
      rw [List.take_length]
      have e2:mkP k Z l.length=mkZ k Z:=by rw [<- hZl];exact mkP_all k Z
      rw [e2] at hown hLv
      have hm:(mkZ k Z).map (·.1)=mkAs k l:=by rw [mkZ_fst,HZ.out]
      have hml:=mkAs_len k l
      have Hend:Hid (OwnX base hi wr (.slice (some ⟨g,0,none⟩) l.length cap) (mkAs k l)):=hide ⟨g,cap,mkZ k Z,hm,by rw [hml],by rw [hml];exact hown,hLv,hghi,fun q hq n hn=>by
        have:q.2 ∈ (mkZ k Z).map (·.2):=List.mem_map_of_mem hq
        rw [mkZ_snd] at this
        obtain ⟨q',hq',e'⟩:=List.mem_map.1 this
        exact HZhi.out q' hq' n (by rw [e'];exact hn)⟩
      have Hbt:=hide hbt
      clear hown hLv hbt
      go_wp2
      go_ret
      exact ⟨rfl,Hend.out,Hbt.out⟩
end Go.Proofs.YtohachldbpejpaaGreatDoor

namespace Go.Proofs.YtohachldbpejpaaGreatDoor
open Go.RowKit
set_option linter.unusedVariables false
end Go.Proofs.YtohachldbpejpaaGreatDoor

namespace Go.Proofs.YtohachldbpejpaaGreatDoor
open Go.RowKit
set_option linter.unusedVariables false
def lgV (e:Int) (v:Value):Value:=.agg #[.int .i64 e,v]
theorem OwnA.older {base:Nat} {w:World} {v:Value} {l:List Ac} (h:OwnA base w v l) {g:Nat} (hg:g < base) (j:Nat) (u:Value):OwnA base (w.setCell ⟨g,j,none⟩ u) v l :=
  (h.ox.btw (Btw.of_grown (lo:=0) (hi:=base) (grown_set w g j u) (fun k hk=>⟨Nat.zero_le _,by cases hk;exact hg⟩)) (.inr (Nat.le_refl _))).own
set_option maxRecDepth 20000 in
set_option maxHeartbeats 1000000 in
theorem toLedger_any (e:Int) (v:Value) (l:List Ac) (w:World) (hr:RdA w v l) (hl:l.length<=4000000) (hall:∀ a ∈ l,a.2.2.2.2.length<=4000000) :
    Calls Tryz.prog 29 #[lgV e v] w fun en w'=>∃ v',en=.returned (lgV e v')/\OwnA w.heap.size w' v' l/\Below w.heap.size w w':=by
  obtain ⟨av,cv,rfl⟩:=hr.shape
  have Hr:=hide hr
  clear hr
  simp only [lgV] at *
  go_enter Tryz.func29,Tryz.ntmps29
  go_wp2_with fail
  obtain ⟨w3,hw3⟩:∃ w3,((w.alloc (.cells #[.int .i64 e,.slice av l.length cv] 64)).alloc (.cells #[.int .i64 0,.slice none 0 0] 26)).alloc (.cells #[.int .i64 e,.slice none 0 0] 26)=w3:=⟨_,rfl⟩
  rw [hw3]
  have hb3:Below w.heap.size w w3:=by rw [<- hw3];exact (((Below.refl _ w).alloc (Nat.le_refl _) _).alloc (by simp) _).alloc (by simp;omega) _
  have hs3:w3.heap.size=w.heap.size+3:=by rw [<- hw3];simp
  have kO:Blk w3 (w.heap.size+1+1) 26 [.int .i64 e,.slice none 0 0]:=by
    rw [<- hw3]
    have h:=Blk.new ((w.alloc (.cells #[.int .i64 e,.slice av l.length cv] 64)).alloc (.cells #[.int .i64 0,.slice none 0 0] 26)) 26 [.int .i64 e,.slice none 0 0]
    simp only [World.size_alloc] at h
    exact h
  have kR:Blk w3 (w.heap.size+1) 26 [.int .i64 0,.slice none 0 0]:=by
    rw [<- hw3]
    have h:=Blk.new (w.alloc (.cells #[.int .i64 e,.slice av l.length cv] 64)) 26 [.int .i64 0,.slice none 0 0]
    simp only [World.size_alloc] at h
    exact h.below ((Below.refl (w.heap.size+2) _).alloc (by simp) _) (by omega)
  refine (toAcctS_any _ l _ (Hr.out.below hb3 (Nat.le_refl _)) hl hall).mono ?_
  rintro en w4 ⟨v4,rfl,ho4,hb4⟩
  have kO4:=kO.below hb4 (by omega)
  have kR4:=kR.below hb4 (by omega)
  have c0:=kO4.cell 0
  have c1:=kO4.cell 1
  have g1:=kO4.frozen 1
  have r0:=kR4.cell 0
  have r1:=kR4.cell 1
  have q0:=kR4.frozen 0
  have q1:=kR4.frozen 1
  simp only [List.getElem?_cons_zero,List.getElem?_cons_succ] at c0 c1 r0 r1
  obtain ⟨a4,cv4,rfl⟩:=ho4.rd.shape
  have Ho:=hide ho4
  have Hb:=hide (hb3.trans (hb4.mono hb3.size))
  clear ho4 hb4 kO kR kO4 kR4 hw3 hb3
  go_wp2
  refine bodyPost_ret (v:=.agg #[.int .i64 e,.slice a4 l.length cv4]) (by simp [results,Tryz.f29,go_sem,r0,r1]) rfl ?_
  refine ⟨_,rfl,?_,?_⟩
  · exact (((Ho.out.older (by omega) _ _).older (by omega) _ _).older (by omega) _ _).mono (by omega)
  · exact ((Hb.out.setCell (p:=⟨w.heap.size+1+1,1,none⟩) (show w.heap.size<=w.heap.size+1+1 by omega) _).setCell (p:=⟨w.heap.size+1,0,none⟩) (show w.heap.size<=w.heap.size+1 by omega) _).setCell (p:=⟨w.heap.size+1,1,none⟩) (show w.heap.size<=w.heap.size+1 by omega) _
open Classical in
set_option maxRecDepth 20000 in
set_option maxHeartbeats 1000000 in
theorem eqLedger_any (e1 e2:Int) (v1 v2:Value) (l1 l2:List Ac) (w:World) (hr1:RdA w v1 l1) (hr2:RdA w v2 l2) (hl1:l1.length<=4000000) (hl2:l2.length<=4000000) (ha1:∀ a ∈ l1,a.2.2.2.2.length<=4000000) (ha2:∀ a ∈ l2,a.2.2.2.2.length<=4000000) :
    Calls Tryz.prog 32 #[lgV e1 v1,lgV e2 v2] w fun e w'=>e=.returned (.bool (decide (e1=e2) && decide (l1=l2)))/\Below w.heap.size w w':=by
  obtain ⟨a1,cv1,rfl⟩:=hr1.shape
  obtain ⟨a2,cv2,rfl⟩:=hr2.shape
  simp only [lgV] at *
  have hb3:Below w.heap.size w ((w.alloc (.cells #[.int .i64 e1,.slice a1 l1.length cv1] 26)).alloc (.cells #[.int .i64 e2,.slice a2 l2.length cv2] 26)):=((Below.refl _ w).alloc (Nat.le_refl _) _).alloc (by simp) _
  have HE:=hide (eqAcctS_any _ _ l1 l2 _ (hr1.below hb3 (Nat.le_refl _)) (hr2.below hb3 (Nat.le_refl _)) hl1 hl2 ha1 ha2)
  have Hb3:=hide hb3
  clear hb3 hr1 hr2
  generalize decide (l1=l2)=D at HE ⊢
  by_cases h1:e1=e2
  · rw [decide_eq_true h1,Bool.true_and]
    subst h1
    go_enter Tryz.func32,Tryz.ntmps32
    go_wp2_with fail
    refine HE.out.mono ?_
    rintro e w3 ⟨rfl,hb3⟩
    have HB:=hide (Hb3.out.trans (hb3.mono Hb3.out.size))
    clear hb3 Hb3 HE
    cases D
    · go_wp2
      go_ret
      exact ⟨rfl,HB.out⟩
    · go_wp2
      go_ret
      exact ⟨rfl,HB.out⟩
  · rw [decide_eq_false h1,Bool.false_and]
    have hq:(e1 != e2)=true:=by rw [bne_iff_ne];exact h1
    clear h1 HE
    go_enter Tryz.func32,Tryz.ntmps32
    go_wp2
    go_ret
    exact ⟨rfl,Hb3.out⟩
set_option maxRecDepth 20000 in
theorem szLedger_any (e:Int) (v:Value) (l:List Ac) (m:Nat) (w:World) (hr:RdA w v l) (hm:m<=100000000) (hl:l.length<=9223372036854775807) (hs:∀ a ∈ l,a.1.size<=9223372036854775807/\a.2.2.2.2.length<=9223372036854775807) :
    Calls Tryz.prog 25 #[lgV e v,.int .i64 (m:Int)] w fun en w'=>∃ r:Int,en=.returned (.int .i64 r)/\(0<=r->l.length+totA l<=m/\r<=(m:Int))/\Below w.heap.size w w':=by
  obtain ⟨a1,cv1,rfl⟩:=hr.shape
  simp only [lgV] at *
  have hb3:Below w.heap.size w (w.alloc (.cells #[.int .i64 e,.slice a1 l.length cv1] 64)):=(Below.refl _ w).alloc (Nat.le_refl _) _
  have HE:=hide (szAcctS_any _ l m _ (hr.below hb3 (Nat.le_refl _)) hm hl hs)
  have Hb3:=hide hb3
  clear hb3 hr
  go_enter Tryz.func25,Tryz.ntmps25
  go_wp2_with fail
  refine HE.out.mono ?_
  rintro en w3 ⟨r,rfl,hr3,hb3⟩
  have HB:=hide (Hb3.out.trans (hb3.mono Hb3.out.size))
  have HR:=hide hr3
  clear hb3 Hb3 HE hr3
  by_cases h:r < 0
  · go_wp2
    go_ret
    exact ⟨-1,rfl,by omega,HB.out⟩
  · go_wp2
    go_ret
    exact ⟨r,rfl,HR.out,HB.out⟩
set_option maxRecDepth 20000 in
theorem markLedger_any (e:Int) (v:Value) (l:List Ac) (k base hi:Nat) (w:World) (ho:OwnX base hi w v l) (hl:l.length<=10000000) (hlv:∀ a ∈ l,a.2.2.2.2.length<=10000000) (hk:nxs k l<=90000000) (hk0:0 < k) :
    Calls Tryz.prog 40 #[lgV e v,.int .i64 (k:Int)] w fun en w'=>en=.returned (.int .i64 ((nxs k l:Nat):Int))/\OwnX base hi w' v (mkAs k l)/\Btw base hi w w':=by
  obtain ⟨a1,cv1,rfl⟩:=ho.rd.shape
  simp only [lgV] at *
  have hb3:Below w.heap.size w (w.alloc (.cells #[.int .i64 e,.slice a1 l.length cv1] 26)):=(Below.refl _ w).alloc (Nat.le_refl _) _
  have HE:=hide (markAcctS_any _ l k base hi _ (ho.below hb3 (Nat.le_refl _)) hl hlv hk hk0)
  have Hb3:=hide hb3
  clear hb3 ho
  go_enter Tryz.func40,Tryz.ntmps40
  go_wp2_with fail
  refine HE.out.mono ?_
  rintro en w3 ⟨rfl,ho3,hb3⟩
  have Ho:=hide ho3
  have HB:=hide ((Btw.of_below (lo:=base) (hi:=hi) Hb3.out).trans hb3)
  clear ho3 hb3 HE Hb3
  go_wp2
  go_ret
  exact ⟨rfl,Ho.out,HB.out⟩
end Go.Proofs.YtohachldbpejpaaGreatDoor

namespace Go.Proofs.YtohachldbpejpaaGreatDoor
open Go.RowKit Go.ChangeShapes Go.WideShapes
set_option linter.unusedVariables false
section
variable {H:Type} {enc:TypeId × Value->H} {w:World} {base:Nat} {spare:Nat->Bool} {held:Bool}
set_option maxRecDepth 20000 in
theorem open_ledger {fuel:Nat} {cs:List Value} {x:DataW H × List MemPlace} (h:DataW.trod enc Tryz.prog w base spare held fuel 64 cs=some x) :
    ∃ (e:Int) (v:Value) (l:List Ac),cs=[.int .i64 e,v]/\RdA w v l/\l.length<=maxLen/\∀ q ∈ l,q.1.size<=maxLen/\q.2.2.2.2.length<=maxLen:=by
  obtain ⟨xs,n,_,_,hlen,hxl,hf⟩:=DataW.trod_struct Tryz.underlying64 h
  have h5:cs.length=2:=hlen.trans (by kernel_rfl)
  have hx5:xs.length=2:=hxl
  match cs,h5,xs,hx5 with
  | [c0,c1],_,[y0,y1],_ =>
    have ki:Tryz.prog.cellsOf 3=1:=by kernel_rfl
    have kl:Tryz.prog.cellsOf 62=1:=by kernel_rfl
    have g0:DataW.trod enc Tryz.prog w base spare held n 3 [c0]=some y0:=by
      have e:=hf 0 _ rfl
      change DataW.trod enc Tryz.prog w base spare held n 3 (List.take (Tryz.prog.cellsOf 3) [c0,c1])=some y0 at e
      rw [ki] at e
      exact e
    have g1:DataW.trod enc Tryz.prog w base spare held n 62 [c1]=some y1:=by
      have e:=hf 1 _ rfl
      change DataW.trod enc Tryz.prog w base spare held n 62 (List.take (Tryz.prog.cellsOf 62) [c1])=some y1 at e
      rw [kl] at e
      exact e
    obtain ⟨z0,e0,_⟩:=DataW.trod_int Tryz.underlying3 g0
    have hsl:∃ a len cap,c1=.slice a len cap:=by
      rcases Deep.open_slice Tryz.underlying62 g1 with ⟨hcs,_⟩ | ⟨ad,len',cap',m,n',D,Pl,hcs,_⟩
      · simp only [List.cons.injEq,and_true] at hcs;exact ⟨_,_,_,hcs⟩
      · simp only [List.cons.injEq,and_true] at hcs;exact ⟨_,_,_,hcs⟩
    obtain ⟨a,len,cap,rfl⟩:=hsl
    obtain ⟨l,rfl,hr,hl,hq⟩:=open_accS g1
    simp only [List.cons.injEq,and_true] at e0
    subst e0
    exact ⟨z0,_,l,rfl,hr,hl,hq⟩
end
end Go.Proofs.YtohachldbpejpaaGreatDoor
