/- The laws' marks on accounts are found again. -/
import Derived.Test.YtaidhenkijjcfaaGreatZoAcMark
import Derived.Deep.RegionWith
set_option maxRecDepth 20000
set_option maxHeartbeats 2000000
namespace Go.Proofs.YtaidhenkijjcfaaGreat
open Go.RowKit
set_option linter.unusedVariables false
theorem flat_put4 {α:Type} (L:List (List α)) (i:Nat) (a b c d a0 b0 c0 d0 e:α) (hi:i < L.length) (h:∀ x ∈ L,x.length=5) (hx:L[i]=[a0,b0,c0,d0,e]):(((L.flatten.set (i * 5) a).set (i * 5+1) b).set (i * 5+2) c).set (i * 5+3) d=(L.set i [a,b,c,d,e]).flatten:=by
  have h5:=flat_put5 L i a b c d e hi h
  rw [<- h5]
  have hself:∀ (X:List α) (m:Nat) (u:α),X[m]?=some u->X.set m u=X:=fun X m u hu=>by
    obtain ⟨h1,rfl⟩:=List.getElem?_eq_some_iff.1 hu
    simp
  symm
  apply hself
  rw [List.getElem?_set_ne (by omega),List.getElem?_set_ne (by omega),List.getElem?_set_ne (by omega),List.getElem?_set_ne (by omega),flat_get 5 L i 4 hi h (by omega),hx]
  rfl
theorem Lvs.mark {base:Nat} {w w':World} {g:Nat} {P:List (Ac × Value)} (h:Lvs base w g P) {j:Nat} (hj:j < P.length) (q:Ac × Value) (hq:q.2=P[j].2) (ho:OwnL base w' P[j].2 q.1.2.2.2.2) (hg:w.grownBy w' P[j].2.ownBlock):Lvs base w' g (P.set j q):=by
  have hat:∀ i (hi:i < (P.set j q).length),(P.set j q)[i].2=(P[i]'(by simpa using hi)).2:=fun i hi=>by
    rw [List.getElem_set]
    split
    · rename_i e;subst e;exact hq
    · rfl
  refine ⟨fun i hi=>?_,fun i hi=>?_,fun i i' hi hi' hne=>?_⟩
  · by_cases e:i=j
    · subst e
      have e2:(P.set i q)[i]=q:=by simp
      rw [e2,hq];exact ho
    · have e2:(P.set j q)[i]=P[i]'(by simpa using hi):=by rw [List.getElem_set_ne (by omega)]
      rw [e2]
      refine (h.own i (by simpa using hi)).kept hg ?_
      cases hb:(P[i]'(by simpa using hi)).2.ownBlock with
      | none=>exact .inl rfl
      | some k=>exact .inr (fun e'=>h.apart i j (by simpa using hi) hj e k hb e'.symm)
  · rw [hat i hi];exact h.far i (by simpa using hi)
  · rw [hat i hi,hat i' hi'];exact h.apart i i' (by simpa using hi) (by simpa using hi') hne
theorem Btw.set {lo hi:Nat} {w w':World} (h:Btw lo hi w w') {g:Nat} (h1:lo<=g) (h2:g < hi) (j:Nat) (u:Value):Btw lo hi w (w'.setCell ⟨g,j,none⟩ u) :=
  h.trans (Btw.of_grown (grown_set w' g j u) (fun k e=>by cases e;exact ⟨h1,h2⟩))
theorem markAcctS_any (v:Value) (l:List Ac) (k base hi:Nat) (w:World) (ho:OwnX base hi w v l) (hl:l.length<=10000000) (hlv:∀ a ∈ l,a.2.2.2.2.length<=10000000) (hk:nxs k l<=90000000) (hk0:0 < k) :
    Calls Tryz.prog 85 #[v,.int .i64 (k:Int)] w fun e w'=>e=.returned (.int .i64 ((nxs k l:Nat):Int))/\OwnX base hi w' v (mkAs k l)/\Btw base hi w w':=by
  obtain ⟨g,cap,Z,hZ,rfl,hrow,hLv,hghi,hZhi⟩:=ho
  have hZl:Z.length=l.length:=by rw [<- hZ];simp
  have hgb:base<=g:=(World.ownsRow.lt hrow g rfl).1
  have Hrow:=hide hrow
  have HLv:=hide hLv
  have HZ:=hide hZ
  have HZhi:=hide hZhi
  have Hlv:=hide hlv
  clear hrow hLv hZ hZhi hlv
  go_enter Tryz.func85,Tryz.ntmps85
  go_wp2
  go_loopw [1,5] (fun kv iv wr=>∃ j:Nat,j<=l.length/\iv=.int .i64 (j:Int)/\kv=.int .i64 ((nxs k (l.take j):Nat):Int)/\wr.ownsRow base 190 5 (.slice (some ⟨g,0,none⟩) l.length cap) l.length ((mkP k Z j).map acC).flatten/\Lvs base wr g (mkP k Z j)/\Btw base hi w wr)
    (fun _ iv _=>l.length - (intOf iv).toNat)
  case atStart=>exact ⟨0,Nat.zero_le _,rfl,rfl,by rw [mkP_zero];exact Hrow.out,by rw [mkP_zero];exact HLv.out,Btw.refl _ _ _⟩
  case round =>
    obtain ⟨j,hj,rfl,rfl,hown,hLv,hbt⟩:=hrel
    clear Hrow HLv
    by_cases hlt:j < l.length
    · have hjZ:j < Z.length:=by omega
      have hli:(j:Int) < (l.length:Int):=by omega
      have hZj:Z[j].1=l[j]:=fst_at HZ.out hlt
      have hPl:=mkP_len k Z j (by omega)
      have hPat:=mkP_at k Z j hjZ
      have Hnx:=hide (nxs_next k l j hlt)
      have hKb:=nxs_take k l (j+1)
      have Hpn:=hide (mkP_next k Z j hjZ)
      rw [HZ.out] at Hpn
      have hKg:=nxs_ge k (l.take j)
      have hlj:=Hlv.out l[j] (List.getElem_mem _)
      have hLj:=hLv.own j (by omega)
      have hgeJ:=hLj.ge
      have hfarJ:=hLv.far j (by omega)
      rw [hPat] at hLj hgeJ hfarJ
      rw [hZj] at hLj Hpn
      have hhiJ:=HZhi.out Z[j] (List.getElem_mem _)
      have Hq:Hid (∀ w',OwnL base w' Z[j].2 (mkL (nxs k (l.take j)+4) l[j].2.2.2.2.length)->∀ w,Lvs base w g (mkP k Z j)->w.grownBy w' Z[j].2.ownBlock->Lvs base w' g (mkP k Z (j+1))):=hide (fun w' h1 w0 h2 h3=>by
        rw [<- Hpn.out]
        exact h2.mark (by omega) _ (by rw [hPat]) (by rw [hPat];exact h1) (by rw [hPat];exact h3))
      have Hc:Hid (∀ i,i < 5->((mkP k Z j).map acC).flatten[j * 5+i]?=(acC Z[j])[i]?):=hide (fun i hi=>by
        rw [flat_get 5 _ j i (by simp;omega) (acM_sz _) hi]
        simp [hPat])
      have hacz:acC Z[j]=[.string l[j].1,.int .i64 l[j].2.1,.int .i64 l[j].2.2.1,.int .i64 l[j].2.2.2.1,Z[j].2]:=by unfold acC;rw [hZj]
      have Hput:Hid (∀ K:Nat,K=nxs k (l.take j)->((((((mkP k Z j).map acC).flatten.set (j * 5) (.string (mtx K))).set (j * 5+1) (.int .i64 ((K+1:Nat):Int))).set (j * 5+2) (.int .i64 ((K+2:Nat):Int))).set (j * 5+3) (.int .i64 ((K+3:Nat):Int)))=((mkP k Z (j+1)).map acC).flatten):=hide (fun K hK=>by
        rw [flat_put4 _ j _ _ _ _ (.string l[j].1) (.int .i64 l[j].2.1) (.int .i64 l[j].2.2.1) (.int .i64 l[j].2.2.2.1) Z[j].2 (by simp;omega) (acM_sz _) (by simp [hPat,hacz]),<- Hpn.out,List.map_set,hK]
        rfl)
      rw [hacz] at Hc
      obtain ⟨a',c',hsh⟩:=hLj.rd.shape
      have Hown:=hide hown
      have HLv:=hide hLv
      have HLj:=hide hLj
      have HgeJ:=hide hgeJ
      have HfarJ:=hide hfarJ
      have HhiJ:=hide hhiJ
      have Hbt:=hide hbt
      clear hown hLv hLj hgeJ hfarJ hhiJ hbt hPat hPl hacz hZj Hpn
      generalize Z[j].2=lw at *
      subst hsh
      have hnxe:nxs k (l.take (j+1))=nxs k (l.take j)+4+2 * l[j].2.2.2.2.length:=Hnx.out
      have Hnx2:=hide hnxe
      obtain ⟨K,hK⟩:∃ K,nxs k (l.take j)=K:=⟨_,rfl⟩
      rw [hK] at Hq Hnx2 hnxe hKg ⊢
      have Hput:=hide (Hput.out K hK.symm)
      have hK0:0 < K:=by omega
      have hK2:K<=90000000:=by omega
      have hKn:K+4<=100000000:=by omega
      have Hm:=hide (fun w=>markText_any K w hK0 (by omega))
      clear hnxe hKb Hnx hK
      generalize l[j]=ak at *
      obtain ⟨nm,fr,no,st,ls⟩:=ak
      simp only at Hc HLj Hq Hnx2 hlj
      go_wp2_with fail
      refine (Hm.out _).mono ?_
      rintro e w1 ⟨rfl,hb1⟩
      have ho1:=row_below Hown.out hb1 (Nat.le_refl _)
      have q0:=ho1.cellAt (j * 5) (by omega)
      have q1:=ho1.cellAt (j * 5+1) (by omega)
      have q2:=ho1.cellAt (j * 5+2) (by omega)
      have q3:=ho1.cellAt (j * 5+3) (by omega)
      have q4:=ho1.cellAt (j * 5+4) (by omega)
      have f0:=ho1.frozenAt (j * 5)
      have f1:=ho1.frozenAt (j * 5+1)
      have f2:=ho1.frozenAt (j * 5+2)
      have f3:=ho1.frozenAt (j * 5+3)
      rw [<- Nat.add_zero (j * 5),Hc.out 0 (by omega)] at q0
      rw [Nat.add_zero] at q0
      rw [Hc.out 1 (by omega)] at q1
      rw [Hc.out 2 (by omega)] at q2
      rw [Hc.out 3 (by omega)] at q3
      rw [Hc.out 4 (by omega)] at q4
      simp only [List.getElem?_cons_zero,List.getElem?_cons_succ] at q0 q1 q2 q3 q4
      have s1:=(ho1.stored (j * 5) (.string (mtx K))).1
      have s2:=(s1.stored (j * 5+1) (.int .i64 ((K+1:Nat):Int))).1
      have s3:=(s2.stored (j * 5+2) (.int .i64 ((K+2:Nat):Int))).1
      have s4:=(s3.stored (j * 5+3) (.int .i64 ((K+3:Nat):Int))).1
      rw [Hput.out] at s4
      have HS4:=hide s4
      have HLv1:=hide ((((HLv.out.below hb1 (Nat.le_refl _)).set (j * 5) (.string (mtx K))).set (j * 5+1) (.int .i64 ((K+1:Nat):Int))).set (j * 5+2) (.int .i64 ((K+2:Nat):Int)) |>.set (j * 5+3) (.int .i64 ((K+3:Nat):Int)))
      have HLj1:=hide (row_set (row_set (row_set (row_set (HLj.out.below hb1 (Nat.le_refl _)) g (j * 5) (.string (mtx K)) HfarJ.out) g (j * 5+1) (.int .i64 ((K+1:Nat):Int)) HfarJ.out) g (j * 5+2) (.int .i64 ((K+2:Nat):Int)) HfarJ.out) g (j * 5+3) (.int .i64 ((K+3:Nat):Int)) HfarJ.out)
      have Hbt1:=hide (((((Hbt.out.trans (Btw.of_below hb1)).set hgb hghi (j * 5) (.string (mtx K))).set hgb hghi (j * 5+1) (.int .i64 ((K+1:Nat):Int))).set hgb hghi (j * 5+2) (.int .i64 ((K+2:Nat):Int))).set hgb hghi (j * 5+3) (.int .i64 ((K+3:Nat):Int)))
      clear s1 s2 s3 s4 ho1 hb1 Hc
      go_wp2_with (go_at_call 132;refine (markLeaveS_any _ ls (K+4) base _ HLj1.out hlj hKn).mono ?_;rintro e w2 ⟨rfl,ho2,hg2⟩)
      go_roundw
      case rel =>
        refine ⟨j+1,by omega,by go_num,by rw [Hnx2.out];go_num,World.ownsRow.kept HS4.out hg2 ?_,Hq.out _ ho2 _ HLv1.out hg2,Hbt1.out.trans (Btw.of_grown hg2 (fun k hk=>⟨HgeJ.out k hk,HhiJ.out k hk⟩))⟩
        refine .inr (fun e=>HfarJ.out g e.symm rfl)
      case measure=>simp [intOf];omega
    · have e:j=l.length:=by omega
      subst e
      rw [List.take_length]
      have e2:mkP k Z l.length=mkZ k Z:=by rw [<- hZl];exact mkP_all k Z
      rw [e2] at hown hLv
      have hm:(mkZ k Z).map (·.1)=mkAs k l:=by rw [mkZ_fst,HZ.out]
      have hml:=mkAs_len k l
      have Hend:Hid (OwnX base hi wr (.slice (some ⟨g,0,none⟩) l.length cap) (mkAs k l)):=hide ⟨g,cap,mkZ k Z,hm,by rw [hml],by rw [hml];exact hown,hLv,hghi,fun q hq n hn=>by
        have:q.2 ∈ (mkZ k Z).map (·.2):=List.mem_map_of_mem hq
        rw [mkZ_snd] at this
        obtain ⟨q',hq',e'⟩:=List.mem_map.1 this
        exact HZhi.out q' hq' n (by rw [e'];exact hn)⟩
      have Hbt:=hide hbt
      clear hown hLv hbt
      go_wp2
      go_ret
      exact ⟨rfl,Hend.out,Hbt.out⟩
end Go.Proofs.YtaidhenkijjcfaaGreat
