/- What the next epoch makes of accounts, and what leaves with one more as the landed code puts it (plain facts). -/
import Derived.Test.YtaidhenkijjcfaaGreatZrPoS
set_option maxRecDepth 20000
set_option maxHeartbeats 8000000
namespace Go.Proofs.YtaidhenkijjcfaaGreat
open Go.RowKit Go.Sort
set_option linter.unusedVariables false
set_option linter.unusedSimpArgs false
theorem specFollowAll_any (e0:Int) (v0:Value) (A:List Ac) (p:Nd) (u:Nv) (w:World) (hr:RdA w v0 A) (hl:A.length<=4000000) (hall:∀ a ∈ A,a.1.size<=maxLen/\a.2.2.2.2.length<=4000000) (hp:RdNd w p u) (hq:p.ps.length<=4000000) (hf:∀ q ∈ p.ps,FewPf q) (hb:∀ q ∈ p.ps,q.bs.length<=3999999) (hg:∀ q ∈ p.ps,FitPf q) :
    Calls Tryz.prog 25 #[lgV e0 v0,noV p u] w fun en w'=>∃ v',en=.returned (.tuple #[lgV (faA e0 A p.ps).1 v',.int .i64 ((faA e0 A p.ps).2.2:Int)])/\OwnV w.heap.size w' v' (faA e0 A p.ps).2.1/\Below w.heap.size w w':=by
  obtain ⟨aA,cA,rfl⟩:=hr.shape
  obtain ⟨w1,hw1⟩:∃ x,((w.alloc (.cells #[.int .i64 e0,.slice aA A.length cA] 66)).alloc (.cells (noC p u).toArray 73)).alloc (.cells #[.int .i64 0,.slice none 0 0] 35)=x:=⟨_,rfl⟩
  have s1:(w.alloc (.cells #[.int .i64 e0,.slice aA A.length cA] 66)).heap.size=w.heap.size+1:=by simp
  have s2:((w.alloc (.cells #[.int .i64 e0,.slice aA A.length cA] 66)).alloc (.cells (noC p u).toArray 73)).heap.size=w.heap.size+1+1:=by simp
  have b1:Below w.heap.size w w1:=by rw [<- hw1];exact (((Below.refl _ w).alloc (Nat.le_refl _) _).alloc (by rw [s1];omega) _).alloc (by rw [s2];omega) _
  have kL:Blk w1 w.heap.size 66 [.int .i64 e0,.slice aA A.length cA]:=by rw [<- hw1];exact (Blk.new w _ _).below (((Below.refl (w.heap.size+1) _).alloc (by rw [s1];exact Nat.le_refl _) _).alloc (by rw [s2];omega) _) (by omega)
  have kN:=hide (show Blk w1 (w.heap.size+1) 73 (noC p u) from by
    rw [<- hw1]
    exact (Blk.newR _ _ (noC p u) _ s1.symm).below ((Below.refl (w.heap.size+1+1) _).alloc (by rw [s2];exact Nat.le_refl _) _) (by omega))
  have kR:=hide (show Blk w1 (w.heap.size+1+1) 35 [.int .i64 0,.slice none 0 0] from by rw [<- hw1];exact Blk.newR _ _ [.int .i64 0,.slice none 0 0] _ s2.symm)
  have hz1:=kR.out.lt
  have HCn:=hide (specClientNew_any e0 (.slice aA A.length cA) A w1 (hr.below b1 (Nat.le_refl _)) hl hall)
  have HPo:=hide (fun (e:Int) V (hV:Below w.heap.size w V)=>specProofOf_any p u e V (hp.below hV (Nat.le_refl _)) hq hf hb)
  have HGd:=hide (fun (e:Int)=>poP_few e GoodPf (fun q h=>good_of (hf q h) (hg q h)) good_zero)
  have HAc:=hide (fun (e:Int) (v:Value) (st:List Vl) (y:Pv) V (h1:RdV V v st) (h2:RdPf V (poP p.ps e) y) (h3:st.length<=4000000) (h4:∀ a ∈ st,a.1.size<=maxLen)=>specAccept_any e v st (poP p.ps e) y V h1 h2 h3 h4 (HGd.out e).nb (HGd.out e).fb (HGd.out e).tr (HGd.out e).nw (HGd.out e).sw)
  have HFa:=hide (show faA e0 A p.ps=faG p.ps 1000 (cnA e0 A).1 (cnA e0 A).2 0 from rfl)
  have hcl:(cnA e0 A).2.length<=4000000:=by have:=cnA_len e0 A;omega
  have hcs:=cnA_in e0 A (fun a ha=>(hall a ha).1)
  have IN:=hide (show (Tryz.prog.info? 73).map (·.size)=some (noC p u).length from Tryz.infoP20)
  have x0:=kL.cell 0
  have x1:=kL.cell 1
  simp only [List.getElem?_cons_zero,List.getElem?_cons_succ] at x0 x1
  have B1:=hide b1
  rw [show noV p u=.agg (noC p u).toArray from rfl] at HPo ⊢
  simp only [lgV] at HCn ⊢
  clear hr hp hall hf hb hg kL b1 s1 s2
  generalize p.ps=L at HPo HGd HAc HFa hq ⊢
  generalize noC p u=cs at hw1 kN HPo IN ⊢
  generalize faA e0 A L=X at HFa ⊢
  generalize (cnA e0 A).2=S0 at HCn HFa hcl hcs
  generalize (cnA e0 A).1=E0 at HCn HFa
  have Hcl:=hide (And.intro hcl hcs)
  clear hcl hcs
  go_enter Tryz.func25,Tryz.ntmps25
  go_upto_region 1 with fail
  (try rw [hw1])
  clear hw1
  go_wp2_with fail
  refine HCn.out.mono ?_
  rintro en w2 ⟨v2,rfl,o2,hb2⟩
  obtain ⟨a2,c2,hv2⟩:=o2.rd.shape
  subst hv2
  obtain ⟨w3,hw3⟩:∃ x,w2.alloc (.cells #[.int .i64 E0,.slice a2 S0.length c2] 35)=x:=⟨_,rfl⟩
  have b23:Below w2.heap.size w2 w3:=by rw [<- hw3];exact (Below.refl _ w2).alloc (Nat.le_refl _) _
  have kT:=hide (show Blk w3 w2.heap.size 35 [.int .i64 E0,.slice a2 S0.length c2] from by rw [<- hw3];exact Blk.new w2 _ _)
  have b13:=hb2.trans (b23.mono hb2.size)
  have hz2:=hb2.size
  have kN:=hide (kN.out.below b13 kN.out.lt)
  have kR:=hide (kR.out.below b13 kR.out.lt)
  have HO:=hide (show OwnC w1.heap.size w2.heap.size w3 (.slice a2 S0.length c2) S0 from o2.oc.below b23 (Nat.le_refl _))
  have B3:=hide (B1.out.trans (b13.mono B1.out.size))
  have Hw3:=hide hw3
  clear hw3 b13 b23 hb2 o2 x0 x1 HCn B1
  go_upto_region 2 with fail
  rw [Hw3.out]
  clear Hw3
  go_wp2
  go_loopw [7] (fun iv wr=>∃ (k:Nat) (e:Int) (st:List Vl) (a:Option Addr) (c lo hi:Nat),iv=.int .i64 (k:Int)/\(k=0\/((k:Int)<=e/\e<=901))/\(st.length<=4000000/\∀ q ∈ st,q.1.size<=maxLen)/\X=faG L (1000 - k) e st k/\Blk wr w2.heap.size 35 [.int .i64 e,.slice a st.length c]/\OwnC lo hi wr (.slice a st.length c) st/\w.heap.size+1+1 < lo/\(hi<=w2.heap.size\/w2.heap.size < lo)/\Blk wr (w.heap.size+1) 73 cs/\Blk wr (w.heap.size+1+1) 35 [.int .i64 0,.slice none 0 0]/\Below w.heap.size w wr/\w2.heap.size < wr.heap.size) (fun iv _=>1000 - (intOf iv).toNat)
  case atStart=>exact ⟨0,E0,S0,a2,c2,w1.heap.size,w2.heap.size,rfl,.inl rfl,Hcl.out,HFa.out,kT.out,HO.out,by omega,.inl (Nat.le_refl _),kN.out,kR.out,B3.out,kT.out.lt⟩
  case round =>
    clear kT kN kR HO B3 Hcl HFa
    obtain ⟨k,e,st,a,c,lo,hi,rfl,hke,hst,hX,k0,o0,hlo,hlh,kN0,kR0,hB,hz3⟩:=hrel
    have hk9:k<=901:=by omega
    have HX1:=hide (hX.trans (faG_step L k hk9 e st k))
    have Hgo:=hide (fun (h:clB e st (poP L e)=true)=>And.intro (clB_is h).1 (And.intro (show clE e st (poP L e)=e+1 from by unfold clE;rw [if_pos h]) (And.intro (clS_len (p:=poP L e) (e:=e) hst.1 (fun b hb=>((HGd.out e).fb b hb).n)) (clS_in (p:=poP L e) (e:=e) (fun q=>q.1.size<=maxLen) hst.2 (fun b hb=>((HGd.out e).fb b hb).ns)))))
    have HP1:=hide (HPo.out e wr hB)
    have HA1:=hide (fun y V (h1:RdV V (.slice a st.length c) st) (h2:RdPf V (poP L e) y)=>HAc.out e (.slice a st.length c) st y V h1 h2 hst.1 hst.2)
    have HNo1:=hide (fun (h:poO L e=false)=>faO_no1 (st:=st) h)
    have HNo2:=hide (fun (h:clB e st (poP L e)=false)=>faO_no2 h)
    have HYes:=hide (fun (h1:poO L e=true) (h2:clB e st (poP L e)=true)=>faO_yes h1 h2)
    have Hke:=hide hke
    have K0:=hide k0
    have O0:=hide o0
    have KN0:=hide kN0
    have KR0:=hide kR0
    have B0:=hide hB
    have RN:=hide (blk_range kN0)
    have x0:=k0.cell 0
    have x1:=k0.cell 1
    simp only [List.getElem?_cons_zero,List.getElem?_cons_succ] at x0 x1
    clear hke hst hX k0 o0 kN0 kR0 hB HGd HPo HAc
    go_wp2_with (first
      | (refine wpList_load_mid rfl 73 _ rfl (w.heap.size+1) 0 rfl cs _ RN.out Tryz.underlying73 rfl IN.out ?_)
      | fail)
    refine HP1.out.mono ?_
    rintro en w4 ⟨y,rfl,oy,hb4⟩
    have ry:RdPf w4 (poP L e) y:=oy
    obtain ⟨cP,hcP⟩:∃ x,pfC (poP L e) y=x:=⟨_,rfl⟩
    have ev:pfV (poP L e) y=.agg cP.toArray:=by rw [<- hcP];rfl
    have IP:=hide (show (Tryz.prog.info? 42).map (·.size)=some cP.length from by rw [<- hcP];exact Tryz.infoP5)
    have oneP:=hide (show cP.toArray.all (·.oneCell')=true from by rw [List.all_toArray,<- hcP];exact pfC_one ry)
    have bz:Blk (w4.alloc (.cells #[.int .i64 0,.slice none 0 0,.int .i64 0,.int .i64 0,.slice none 0 0] 42)) w4.heap.size 42 [.int .i64 0,.slice none 0 0,.int .i64 0,.int .i64 0,.slice none 0 0]:=Blk.new w4 _ _
    have HtP:=hide (show (w4.alloc (.cells #[.int .i64 0,.slice none 0 0,.int .i64 0,.int .i64 0,.slice none 0 0] 42)).there w4.heap.size 0 cP.toArray.size from bz.there (by rw [List.size_toArray,<- hcP];rfl))
    obtain ⟨w5,hw5⟩:∃ x,(w4.alloc (.cells #[.int .i64 0,.slice none 0 0,.int .i64 0,.int .i64 0,.slice none 0 0] 42)).setCells w4.heap.size 0 cP=x:=⟨_,rfl⟩
    have k5:Blk w5 w4.heap.size 42 cP:=by rw [<- hw5];exact blk_all bz (by rw [<- hcP];rfl)
    have b45:Below w4.heap.size w4 w5:=by rw [<- hw5];exact ((Below.refl _ w4).alloc (Nat.le_refl _) _).trans (putC_below (Nat.le_refl _) _ _ _)
    have RP:=hide (blk_range k5)
    have b5:=hb4.trans (b45.mono hb4.size)
    have Hw5:=hide hw5
    have K5:=hide (K0.out.below b5 K0.out.lt)
    have O5:=hide (O0.out.below b5 (Nat.le_refl _))
    have KN5:=hide (KN0.out.below b5 KN0.out.lt)
    have KR5:=hide (KR0.out.below b5 KR0.out.lt)
    have B5:=hide (B0.out.trans (b5.mono B0.out.size))
    have HA2:=hide (HA1.out y w5 O5.out.rd (ry.below b45 (Nat.le_refl _)))
    rw [ev] at HA2 ⊢
    simp only [lgV] at HA2
    have hz5:=b5.size
    have u0:=K5.out.cell 0
    have u1:=K5.out.cell 1
    simp only [List.getElem?_cons_zero,List.getElem?_cons_succ] at u0 u1
    clear x0 x1 ry hcP ev bz hw5 k5 b45 b5 hb4 oy HP1 HA1 K0 O0 KN0 KR0 B0 RN
    go_wp2_with (first
      | (refine wpList_load_mid rfl 42 _ rfl w4.heap.size 0 rfl cP _ RP.out Tryz.underlying42 rfl IP.out ?_)
      | (refine wpList_store_mid rfl 42 _ _ rfl w4.heap.size 0 cP.toArray rfl rfl HtP.out (by simpa using IP.out) oneP.out ?_;rw [Hw5.out])
      | fail)
    refine HA2.out.mono ?_
    rintro en w6 ⟨v6,rfl,o6,hb6⟩
    obtain ⟨a6,c6,hv6⟩:=o6.rd.shape
    subst hv6
    obtain ⟨w7,hw7⟩:∃ x,w6.alloc (.cells #[.int .i64 (clE e st (poP L e)),.slice a6 (clS e st (poP L e)).length c6] 35)=x:=⟨_,rfl⟩
    have b67:Below w6.heap.size w6 w7:=by rw [<- hw7];exact (Below.refl _ w6).alloc (Nat.le_refl _) _
    have kT9:=hide (show Blk w7 w6.heap.size 35 [.int .i64 (clE e st (poP L e)),.slice a6 (clS e st (poP L e)).length c6] from by rw [<- hw7];exact Blk.new w6 _ _)
    have b57:=hb6.trans (b67.mono hb6.size)
    have O6:=hide (show OwnC w5.heap.size w6.heap.size w7 (.slice a6 (clS e st (poP L e)).length c6) (clS e st (poP L e)) from o6.oc.below b67 (Nat.le_refl _))
    have k9:=hide (K5.out.below b57 K5.out.lt)
    have O9:=hide (O5.out.below b57 (Nat.le_refl _))
    have kN9:=hide (KN5.out.below b57 KN5.out.lt)
    have kR9:=hide (KR5.out.below b57 KR5.out.lt)
    have B9:=hide (B5.out.trans (b57.mono B5.out.size))
    have Hw7:=hide hw7
    have hz6:=hb6.size
    have hz7:=kT9.out.lt
    clear u0 u1 hw7 b67 b57 hb6 o6 HA2 K5 O5 KN5 KR5 B5 RP IP oneP HtP Hw5
    cases hO:poO L e
    · have hfin:=HNo1.out hO
      clear hO HNo1 HNo2 HYes Hke
      have HF:=hide (show X=(e,st,k) from HX1.out.trans (by rw [hfin];rfl))
      clear hfin HX1 Hgo
      have f0:=k9.out.cell 0
      have f1:=k9.out.cell 1
      have r0:=kR9.out.cell 0
      have r1:=kR9.out.cell 1
      have g0:=kR9.out.frozen 0
      have g1:=kR9.out.frozen 1
      simp only [List.getElem?_cons_zero,List.getElem?_cons_succ] at f0 f1 r0 r1
      have HOx:=hide (((O9.out.own.olderC (g:=w.heap.size+1+1) (by omega) 0 (.int .i64 e)).olderC (g:=w.heap.size+1+1) (by omega) 1 (.slice a st.length c)).mono (show w.heap.size<=lo by omega))
      have HBx:=hide ((B9.out.setCell (p:=⟨w.heap.size+1+1,0,none⟩) (show w.heap.size<=w.heap.size+1+1 by omega) (.int .i64 e)).setCell (p:=⟨w.heap.size+1+1,1,none⟩) (show w.heap.size<=w.heap.size+1+1 by omega) (.slice a st.length c))
      clear k9 kR9 kN9 O9 B9 kT9 O6
      go_upto_region 6 with fail
      rw [Hw7.out]
      clear Hw7
      go_wp2
      refine bodyPost_ret (v:=.tuple #[.agg #[.int .i64 e,.slice a st.length c],.int .i64 (k:Int)]) (by simp [results,Tryz.f25,go_sem,r0,r1]) rfl ?_
      exact ⟨_,by rw [HF.out],by rw [HF.out];exact HOx.out,HBx.out⟩
    · cases hA:clB e st (poP L e)
      · have hfin:=HNo2.out hA
        clear hO hA HNo1 HNo2 HYes Hke
        have HF:=hide (show X=(e,st,k) from HX1.out.trans (by rw [hfin];rfl))
        clear hfin HX1 Hgo
        have f0:=k9.out.cell 0
        have f1:=k9.out.cell 1
        have r0:=kR9.out.cell 0
        have r1:=kR9.out.cell 1
        have g0:=kR9.out.frozen 0
        have g1:=kR9.out.frozen 1
        simp only [List.getElem?_cons_zero,List.getElem?_cons_succ] at f0 f1 r0 r1
        have HOx:=hide (((O9.out.own.olderC (g:=w.heap.size+1+1) (by omega) 0 (.int .i64 e)).olderC (g:=w.heap.size+1+1) (by omega) 1 (.slice a st.length c)).mono (show w.heap.size<=lo by omega))
        have HBx:=hide ((B9.out.setCell (p:=⟨w.heap.size+1+1,0,none⟩) (show w.heap.size<=w.heap.size+1+1 by omega) (.int .i64 e)).setCell (p:=⟨w.heap.size+1+1,1,none⟩) (show w.heap.size<=w.heap.size+1+1 by omega) (.slice a st.length c))
        clear k9 kR9 kN9 O9 B9 kT9 O6
        go_upto_region 6 with fail
        rw [Hw7.out]
        clear Hw7
        go_wp2
        refine bodyPost_ret (v:=.tuple #[.agg #[.int .i64 e,.slice a st.length c],.int .i64 (k:Int)]) (by simp [results,Tryz.f25,go_sem,r0,r1]) rfl ?_
        exact ⟨_,by rw [HF.out],by rw [HF.out];exact HOx.out,HBx.out⟩
      · have hgo:=HYes.out hO hA
        obtain ⟨⟨he0,he9⟩,hE,hS⟩:=Hgo.out hA
        have HX2:=hide (show X=faG L (1000 - (k+1)) (clE e st (poP L e)) (clS e st (poP L e)) (k+1) from HX1.out.trans (by rw [hgo];rfl))
        have f0:=kT9.out.cell 0
        have f1:=kT9.out.cell 1
        have g0:=k9.out.frozen 0
        have g1:=k9.out.frozen 1
        have h0:=k9.out.cell 0
        have h1:=k9.out.cell 1
        simp only [List.getElem?_cons_zero,List.getElem?_cons_succ] at f0 f1 h0 h1
        generalize clS e st (poP L e)=S1 at HX2 kT9 O6 f1 hS Hw7
        generalize clE e st (poP L e)=E1 at HX2 kT9 f0 hE Hw7
        subst hE
        have HS:=hide hS
        have hKE:(k:Int)+1<=e+1:=by rcases Hke.out with rfl | h <;> omega
        have HKE:=hide (And.intro hKE (show e+1<=901 by omega))
        have hki:IntKind.i64.wrap ((k:Int)+1)=(k:Int)+1:=by rw [IntKind.wrap_i64];omega
        clear hO hA hgo hS HNo1 HNo2 HYes HX1 Hgo Hke hKE he0 he9
        go_upto_region 6 with fail
        rw [Hw7.out]
        clear Hw7
        go_wp2
        go_roundw
        case rel =>
          have kk:=(k9.out.set2 (.int .i64 (e+1)) (.slice a6 S1.length c6))
          refine ⟨k+1,e+1,S1,a6,c6,w5.heap.size,w6.heap.size,by go_num,.inr ⟨by have:=HKE.out.1;omega,HKE.out.2⟩,HS.out,HX2.out,kk,O6.out.kept (Kept.setCs _ 0 [.int .i64 (e+1),.slice a6 S1.length c6] (.inl (by omega))),by omega,.inr (by omega),kN9.out.not2 (by omega) _ _,kR9.out.not2 (by omega) _ _,below_set2 B9.out (by have:=B9.out.size;omega) _ _,?_⟩
          exact kk.lt
        case measure=>simp [intOf];omega
end Go.Proofs.YtaidhenkijjcfaaGreat
namespace Go.Proofs.YtaidhenkijjcfaaGreat
open Go.RowKit
set_option linter.unusedVariables false
def frF (e z:Int) (l:List (Int × Int)):Int:=l.foldl (fun s x=>if x.2<=e then wrap64 (s+x.1) else s) z
def stL (e:Int) (l:List (Int × Int)):List (Int × Int):=l.filter (fun x=>decide (e < x.2))
def frA (e:Int) (a:Ac):Ac:=(a.1,frF e a.2.1 a.2.2.2.2,a.2.2.1,a.2.2.2.1,stL e a.2.2.2.2)
def neA (e:Int) (l:List Ac):Int × List Ac:=if (lgB e l && lgB (wrap64 (e+1)) (l.map (frA (wrap64 (e+1)))))=true then (wrap64 (e+1),l.map (frA (wrap64 (e+1)))) else (e,l)
def frK (e:Int) (l:List Ac) (k:Nat):List Ac:=(l.take k).map (frA e) ++ l.drop k
end Go.Proofs.YtaidhenkijjcfaaGreat
