/- The model's folds. -/
import Derived.Test.YthehfkafcdociaaGreatDoorZyCtOkI
import Derived.Test.YthehfkafcdociaaGreatDoorZyLgAllS
import Derived.Deep.Cut
set_option maxRecDepth 20000
set_option maxHeartbeats 4000000
namespace Go.Proofs.YthehfkafcdociaaGreatDoor
open Go.RowKit
set_option linter.unusedVariables false
theorem specNext_any (e:Int) (v:Value) (l:List Ac) (w:World) (hr:RdA w v l) (hl:l.length<=4000000) (hall:∀ a ∈ l,a.1.size<=maxLen/\a.2.2.2.2.length<=4000000) :
    Calls Tryz.prog 25 #[lgV e v] w fun en w'=>∃ v',en=.returned (lgV (neA e l).1 v')/\OwnA w.heap.size w' v' (neA e l).2/\Below w.heap.size w w':=by
  obtain ⟨av,cv,rfl⟩:=hr.shape
  have hall2:∀ a ∈ l,a.2.2.2.2.length<=4000000:=fun a ha=>(hall a ha).2
  have hfa:=fr_all (wrap64 (e+1)) l hall
  obtain ⟨w2,hw2⟩:∃ w2,(w.alloc (.cells #[.int .i64 e,.slice av l.length cv] 36)).alloc (.cells #[.int .i64 0,.slice none 0 0] 36)=w2:=⟨_,rfl⟩
  have hs2:w2.heap.size=w.heap.size+2:=by rw [<- hw2];simp
  have hb2:Below w.heap.size w w2:=by rw [<- hw2];exact ((Below.refl _ w).alloc (Nat.le_refl _) _).alloc (by simp) _
  have k1:Blk w2 w.heap.size 36 [.int .i64 e,.slice av l.length cv]:=by
    rw [<- hw2]
    exact (Blk.new w 36 [.int .i64 e,.slice av l.length cv]).alloc _
  have k2:Blk w2 (w.heap.size+1) 36 [.int .i64 0,.slice none 0 0]:=by
    rw [<- hw2]
    have h:=Blk.new (w.alloc (.cells #[.int .i64 e,.slice av l.length cv] 36)) 36 [.int .i64 0,.slice none 0 0]
    simp only [World.size_alloc] at h
    exact h
  have c0:=k1.cell 0
  have c1:=k1.cell 1
  simp only [List.getElem?_cons_zero,List.getElem?_cons_succ] at c0 c1
  have r2:=hr.below hb2 (Nat.le_refl _)
  have HD:=hide (fun w hr=>specL6Copy_any e (.slice av l.length cv) l w hr hl hall2)
  have HO:=hide (fun w hr=>specLedgerOk_any e (.slice av l.length cv) l w hr hl hall)
  have HN:=hide (fun v w hr=>specLedgerOk_any (wrap64 (e+1)) v (l.map (frA (wrap64 (e+1)))) w hr (by simpa using hl) hfa)
  simp only [lgV] at HO HN HD ⊢
  have Hb2:=hide hb2
  have K1:=hide k1
  have K2:=hide k2
  have Hr2:=hide r2
  have Hr0:=hide hr
  have Hall:=hide hall2
  have Hno:Hid (lgB e l=false->neA e l=(e,l)):=hide neA_old
  have Hno2:Hid (lgB (wrap64 (e+1)) (l.map (frA (wrap64 (e+1))))=false->neA e l=(e,l)):=hide neA_new
  have Hyes:Hid (lgB e l=true->lgB (wrap64 (e+1)) (l.map (frA (wrap64 (e+1))))=true->neA e l=(wrap64 (e+1),l.map (frA (wrap64 (e+1))))):=hide neA_yes
  clear hr hb2 k1 k2 hall hall2 hfa r2
  go_enter Tryz.func25,Tryz.ntmps25
  go_wp2_with fail
  refine (HD.out _ Hr2.out).mono ?_
  rintro en w3 ⟨v3,rfl,ho3,hb3⟩
  have hB3:=Hb2.out.trans (hb3.mono Hb2.out.size)
  have hs3:=hb3.size
  obtain ⟨g,cap,Z,rfl,hZ,hG⟩:=ho3.rowG
  obtain ⟨w4,hw4⟩:∃ w4,w3.alloc (.cells #[.int .i64 e,.slice (some ⟨g,0,none⟩) l.length cap] 36)=w4:=⟨_,rfl⟩
  have b4:Below w3.heap.size w3 w4:=by rw [<- hw4];exact (Below.refl _ w3).alloc (Nat.le_refl _) _
  have hB4:Below w.heap.size w w4:=hB3.trans (b4.mono hB3.size)
  have n4:Blk w4 w3.heap.size 36 [.int .i64 e,.slice (some ⟨g,0,none⟩) l.length cap]:=by rw [<- hw4];exact Blk.new w3 _ _
  have k14:=(K1.out.below hb3 K1.out.lt).below b4 (K1.out.below hb3 K1.out.lt).lt
  have k24:=(K2.out.below hb3 K2.out.lt).below b4 (K2.out.below hb3 K2.out.lt).lt
  have hG4:=hG.below b4 (Nat.le_refl _)
  have r4:=(Hr2.out.below hb3 (Nat.le_refl _)).below b4 (Nat.le_refl _)
  have hs4:w4.heap.size=w3.heap.size+1:=by rw [<- hw4];simp
  have d0:=k14.cell 0
  have d1:=k14.cell 1
  simp only [List.getElem?_cons_zero,List.getElem?_cons_succ] at d0 d1
  have hgl:=hG.lt
  have hlo:∀ i (hi:i < Z.length) k,Z[i].2.ownBlock=some k->w3.heap.size ≠ k:=fun i hi k hk=>by have:=(hG.lvs.own i hi).lt k hk;omega
  clear c0 c1 K1 K2 hb3 hB3 ho3 b4 Hr2 hG
  go_wp2_with fail
  refine (HO.out _ r4).mono ?_
  rintro en w5 ⟨rfl,hb5⟩
  have hB5:Below w.heap.size w w5:=hB4.trans (hb5.mono hB4.size)
  have k15:=k14.below hb5 k14.lt
  have k25:=k24.below hb5 k24.lt
  have n5:=n4.below hb5 n4.lt
  have hG5:=hG4.below hb5 (Nat.le_refl _)
  have r5:=r4.below hb5 (Nat.le_refl _)
  have hz5:=hb5.size
  clear d0 d1 k14 k24 n4 hG4 r4 hB4
  cases h1:lgB e l
  · have Hne:=hide (Hno.out h1)
    have o5:=hG5.own
    rw [hZ] at o5
    have d0:=n5.cell 0
    have d1:=n5.cell 1
    have r0:=k25.cell 0
    have r1:=k25.cell 1
    have g0:=k25.frozen 0
    have g1:=k25.frozen 1
    simp only [List.getElem?_cons_zero,List.getElem?_cons_succ] at d0 d1 r0 r1
    have Ho:=hide (((o5.older (g:=w.heap.size+1) (by omega) 0 (.int .i64 e)).older (g:=w.heap.size+1) (by omega) 1 (.slice (some ⟨g,0,none⟩) l.length cap)).mono (show w.heap.size<=_ by omega))
    have HB:=hide ((hB5.setCell (p:=⟨w.heap.size+1,0,none⟩) (show w.heap.size<=w.heap.size+1 by omega) (.int .i64 e)).setCell (p:=⟨w.heap.size+1,1,none⟩) (show w.heap.size<=w.heap.size+1 by omega) (.slice (some ⟨g,0,none⟩) l.length cap))
    clear Hno Hno2 Hyes h1 o5 hG5 r5 k15 k25 n5
    go_wp2
    refine bodyPost_ret (v:=.agg #[.int .i64 e,.slice (some ⟨g,0,none⟩) l.length cap]) (by simp [results,Tryz.f25,go_sem,r0,r1]) rfl ?_
    rw [Hne.out]
    exact ⟨_,rfl,Ho.out,HB.out⟩
  · have Hyes := hide (Hyes.out h1)
    clear Hno h1
    obtain ⟨w6,hw6⟩:∃ w6,w5.setCell ⟨w3.heap.size,0,none⟩ (.int .i64 (wrap64 (e+1)))=w6:=⟨_,rfl⟩
    have n6:Blk w6 w3.heap.size 36 [.int .i64 (wrap64 (e+1)),.slice (some ⟨g,0,none⟩) l.length cap]:=by rw [<- hw6];exact n5.set 0 _
    have k16:Blk w6 w.heap.size 36 [.int .i64 e,.slice av l.length cv]:=by rw [<- hw6];exact k15.other _ _ _ (by omega)
    have k26:Blk w6 (w.heap.size+1) 36 [.int .i64 0,.slice none 0 0]:=by rw [<- hw6];exact k25.other _ _ _ (by omega)
    have hG6:RowG w2.heap.size w6 g l.length cap Z:=by rw [<- hw6];exact hG5.other _ _ _ (by omega) hlo
    have hB6:Below w.heap.size w w6:=by rw [<- hw6];exact hB5.setCell (p:=⟨w3.heap.size,0,none⟩) (by show w.heap.size<=w3.heap.size;omega) _
    have d0:=k15.cell 0
    have m0:=n5.cell 0
    have m0f:=n5.frozen 0
    have m1:=n6.cell 1
    simp only [List.getElem?_cons_zero,List.getElem?_cons_succ] at d0 m0 m1
    have hz6:w6.heap.size=w5.heap.size:=by rw [<- hw6];simp
    have HG6:=hide hG6
    have N6:=hide n6
    have K16:=hide k16
    have K26:=hide k26
    have HB6:=hide hB6
    have HZ:=hide hZ
    clear hG6 n6 k16 k26 hB6 hZ hG5 n5 k15 k25 r5 hB5 hlo
    go_wp2
    go_loopw [4] (fun iv wr=>∃ (i:Nat) (Z:List (Ac × Value)),i<=l.length/\iv=.int .i64 (i:Int)/\Z.map (·.1)=frK (wrap64 (e+1)) l i/\RowG (w.heap.size+2) wr g l.length cap Z/\Blk wr w3.heap.size 36 [.int .i64 (wrap64 (e+1)),.slice (some ⟨g,0,none⟩) l.length cap]/\Blk wr w.heap.size 36 [.int .i64 e,.slice av l.length cv]/\Blk wr (w.heap.size+1) 36 [.int .i64 0,.slice none 0 0]/\Below w.heap.size w wr) (fun iv _=>l.length - (intOf iv).toNat)
    case atStart=>exact ⟨0,Z,by omega,rfl,by rw [frK_zero];exact HZ.out,by rw [<- hs2];exact HG6.out,N6.out,K16.out,K26.out,HB6.out⟩
    case round =>
      obtain ⟨i,Y,hi,rfl,hY,hG,m,ka,kr,hb⟩:=hrel
      obtain ⟨wo,rfl⟩:∃ x,x=wr:=⟨_,rfl⟩
      clear HG6 N6 K16 K26 HB6 HZ d0 m0 m0f m1 hw6
      have hYl:=hG.len
      have hcap:=hG.caps
      have e0:=m.cell 0
      have e1:=m.cell 1
      simp only [List.getElem?_cons_zero,List.getElem?_cons_succ] at e0 e1
      by_cases hlt:i < l.length
      · have hiY:i < Y.length:=by omega
        have hYi:Y[i].1=l[i]:=by rw [fst_get hY i hiY (by rw [frK_len];exact hlt),frK_at _ _ _ hlt]
        obtain ⟨c0,c1,c2,c3,c4⟩:=hG.at i hiY
        have hown:=hG.lvs.own i hiY
        have hlen:=Hall.out l[i] (List.getElem_mem _)
        have Hnx:=hide (frK_next (wrap64 (e+1)) l i hlt)
        rw [<- hYi] at Hnx hlen
        have hshape:=hown.rd.shape
        obtain ⟨q,hq⟩:∃ q,Y[i]=q:=⟨_,rfl⟩
        rw [hq] at c0 c1 c2 c3 c4 hown hlen Hnx hshape
        obtain ⟨⟨nm,fr,no,st,ls⟩,lv⟩:=q
        simp only at c0 c1 c2 c3 c4 hown hlen Hnx hshape
        obtain ⟨av',cv',rfl⟩:=hshape
        have hli:(i:Int) < (l.length:Int):=by omega
        have hgl:=hG.lt
        have hbl:=hb.size
        have hml:=m.lt
        have HS0:Hid (OwnL wo.heap.size (wo.alloc (.cells #[] 124)) (.slice (some ⟨wo.heap.size,0,none⟩) 0 0) []):=hide (own_nilL wo _ (Nat.le_refl _))
        have HG:=hide hG
        have HM:=hide m
        have HA:=hide ka
        have HR:=hide kr
        have HB:=hide hb
        have HQ:=hide hq
        have Hown:=hide hown
        have HY:=hide hY
        have hset0:Y.set i ((nm,fr,no,st,ls),.slice av' ls.length cv')=Y:=by rw [<- hq];simp
        have Hset0:=hide hset0
        have HlowS:Hid (∀ (a:Ac) j (hj:j < (Y.set i (a,Value.slice av' ls.length cv')).length) r,(Y.set i (a,Value.slice av' ls.length cv'))[j].2.ownBlock=some r->r < wo.heap.size):=hide (fun a j hj r hr=>by
          rw [List.getElem_set] at hr
          split at hr
          · exact hown.lt r hr
          · exact (hG.lvs.own j (by simpa using hj)).lt r hr)
        clear hG m ka kr hb hq hown hY hYi hset0
        go_wp2
        go_loopw [6,7] (fun sv kv wq=>∃ k:Nat,k<=ls.length/\kv=.int .i64 (k:Int)/\OwnL wo.heap.size wq sv (stL (wrap64 (e+1)) (ls.take k))/\RowG (w.heap.size+2) wq g l.length cap (Y.set i ((nm,frF (wrap64 (e+1)) fr (ls.take k),no,st,ls),.slice av' ls.length cv'))/\Blk wq w3.heap.size 36 [.int .i64 (wrap64 (e+1)),.slice (some ⟨g,0,none⟩) l.length cap]/\Blk wq w.heap.size 36 [.int .i64 e,.slice av l.length cv]/\Blk wq (w.heap.size+1) 36 [.int .i64 0,.slice none 0 0]/\Below w.heap.size w wq/\wo.heap.size < wq.heap.size) (fun _ kv _=>ls.length - (intOf kv).toNat)
        case atStart=>exact ⟨0,by omega,rfl,HS0.out,by rw [List.take_zero];show RowG _ _ _ _ _ (Y.set i ((nm,fr,no,st,ls),.slice av' ls.length cv'));rw [Hset0.out];exact HG.out.below ((Below.refl _ wo).alloc (Nat.le_refl _) _) (Nat.le_refl _),HM.out.alloc _,HA.out.alloc _,HR.out.alloc _,HB.out.alloc hbl _,by simp⟩
        case round =>
          obtain ⟨k,hk,rfl,ho,hG,m,ka,kr,hb,hsz⟩:=hrel
          clear c0 c1 c2 c3 c4 e0 e1
          have hiS:i < (Y.set i ((nm,frF (wrap64 (e+1)) fr (ls.take k),no,st,ls),.slice av' ls.length cv')).length:=by simpa using hiY
          have hat:=hG.at i hiS
          have hown:=hG.lvs.own i hiS
          rw [set_get] at hat hown
          obtain ⟨c0,c1,c2,c3,c4⟩:=hat
          simp only at c0 c1 c2 c3 c4 hown
          by_cases hkl:k < ls.length
          · obtain ⟨b,off,rfl,hc1,hc2,hbw,x0,x1⟩:=hown.rd.at hkl
            have HF:=hide (frF_snoc (wrap64 (e+1)) fr ls k hkl)
            have HS:=hide (stL_snoc (wrap64 (e+1)) ls k hkl)
            have hsl:=stL_len (wrap64 (e+1)) (ls.take k)
            have htl:(ls.take k).length<=k:=by simp;omega
            generalize ls[k]=x at x0 x1 HF HS
            obtain ⟨xa,xt⟩:=x
            simp only at x0 x1 HF HS
            have hkli:(k:Int) < (ls.length:Int):=by omega
            have hgl2:=hG.lt
            have hbo:b < wr.heap.size:=hbw
            have Ho:=hide ho
            have HG2:=hide hG
            have M2:=hide m
            have A2:=hide ka
            have R2:=hide kr
            have B2:=hide hb
            have fz:=hG.frozen (i * 5+1)
            have z0:=m.cell 0
            simp only [List.getElem?_cons_zero] at z0
            clear ho hG m ka kr hb hown
            by_cases h1:xt<=wrap64 (e+1)
            · rw [if_pos h1] at HF HS
              go_wp2
              go_quiet (fail)
              go_wp2
              refine region_tail 14 (by kernel_rfl) (by kernel_rfl) ?_
              simp only [List.take_succ_cons,List.take_zero,List.drop_succ_cons,List.drop_zero]
              repeat still_step
              refine wpStill_nil ?_
              have bN:=below_drewN (Below.refl wr.heap.size wr) (nq+1)
              have HP:=hide ((HG2.out.below bN (Nat.le_refl _)).put i hiS 1 (by omega) (.int .i64 (frF (wrap64 (e+1)) fr (ls.take (k+1)))) ((nm,frF (wrap64 (e+1)) fr (ls.take (k+1)),no,st,ls),.slice (some ⟨b,off,none⟩) ls.length cv') (by rw [set_get];rfl) (by rw [set_get];rfl))
              rw [List.set_set,HF.out] at HP
              have hOg:∀ j,u6.ownBlock=some j->j ≠ g:=fun j hj=>by have:=Ho.out.ge j hj;omega
              go_wp2
              go_roundw
              case rel =>
                refine ⟨k+1,by omega,by go_num,?_,?_,?_,?_,?_,?_,?_⟩
                · rw [HS.out];exact row_set Ho.out g (i * 5+1) _ hOg
                · rw [HF.out];exact HP.out
                · exact M2.out.other _ _ _ (by omega)
                · exact A2.out.other _ _ _ (by omega)
                · exact R2.out.other _ _ _ (by omega)
                · exact (B2.out.trans (bN.mono B2.out.size)).setCell (p:=⟨g,i * 5+1,none⟩) (by show w.heap.size<=g;omega) _
                · simpa using hsz
              case measure=>simp [intOf];omega
            · rw [if_neg h1] at HF HS
              have hbs:=B2.out.size
              go_wp2
              go_quiet (fail)
              have bN:=below_drewN (Below.refl wr.heap.size wr) nq
              have HoN:=hide (Ho.out.below bN (Nat.le_refl _))
              go_wp2_with (at_builtin;refine app_ownLg _ rfl _ _ rfl wo.heap.size _ _ (stL (wrap64 (e+1)) (ls.take k)) [(xa,xt)] rfl rfl (HoN.out.alloc _) (rd_one_lv _ _ xa xt (by first | rfl | simp)) (by simp;omega) (by simp;omega) ?_;intro v1 w1 ho1 hg1)
              have bA:=bN.alloc (by simp) (.cells #[.int .i64 xa,.int .i64 xt] 124)
              have hgs:wr.heap.size+1<=w1.heap.size:=by simpa using hg1.size
              go_roundw
              case rel =>
                refine ⟨k+1,by omega,by go_num,?_,?_,?_,?_,?_,?_,?_⟩
                · rw [HS.out];exact ho1
                · rw [HF.out];exact (HG2.out.below bA (Nat.le_refl _)).kept hg1 (fun e=>by have:=Ho.out.ge _ e;omega) (fun j hj q hq e=>by
                    have h2:=Ho.out.ge _ e
                    have h3:=HlowS.out _ j hj q hq
                    omega)
                · exact (M2.out.below bA M2.out.lt).kept' hg1 (fun e=>by have:=Ho.out.ge _ e.symm;omega)
                · exact (A2.out.below bA A2.out.lt).kept' hg1 (fun e=>by have:=Ho.out.ge _ e.symm;omega)
                · exact (R2.out.below bA R2.out.lt).kept' hg1 (fun e=>by have:=Ho.out.ge _ e.symm;omega)
                · exact (B2.out.trans (bA.mono hbs)).grown hg1 (by simp;omega) (fun k hk=>by have:=Ho.out.ge _ hk;omega)
                · omega
              case measure=>simp [intOf];omega
          · have ek:k=ls.length:=by omega
            subst ek
            rw [List.take_length] at ho hG
            have fz4:=hG.frozen (i * 5+4)
            obtain ⟨a6,cv6,rfl⟩:=ho.rd.shape
            have hgl2:=hG.lt
            have hge:=ho.ge
            have HP:=hide (hG.putL i (by simpa using hiY) ((nm,frF (wrap64 (e+1)) fr ls,no,st,stL (wrap64 (e+1)) ls),.slice a6 (stL (wrap64 (e+1)) ls).length cv6) (by rw [set_get];rfl) (ho.mono (by omega)) (fun b hb=>by have:=hge b hb;omega) (fun j hj _ b hb e=>by have h3:=HlowS.out _ j hj b hb;have:=hge b e;omega))
            rw [List.set_set] at HP
            have HY2:Hid ((Y.set i ((nm,frF (wrap64 (e+1)) fr ls,no,st,stL (wrap64 (e+1)) ls),.slice a6 (stL (wrap64 (e+1)) ls).length cv6)).map (·.1)=frK (wrap64 (e+1)) l (i+1)):=hide (by rw [fst_set,HY.out];exact Hnx.out)
            have HM2:=hide (m.other g (i * 5+4) (.slice a6 (stL (wrap64 (e+1)) ls).length cv6) (by omega))
            have HA2:=hide (ka.other g (i * 5+4) (.slice a6 (stL (wrap64 (e+1)) ls).length cv6) (by omega))
            have HR2:=hide (kr.other g (i * 5+4) (.slice a6 (stL (wrap64 (e+1)) ls).length cv6) (by omega))
            have HB2:=hide (hb.setCell (p:=⟨g,i * 5+4,none⟩) (by show w.heap.size<=g;omega) (.slice a6 (stL (wrap64 (e+1)) ls).length cv6))
            clear ho hG m ka kr hb hown hge
            go_wp2
            go_roundw
            case rel=>exact ⟨i+1,_,by omega,by go_num,HY2.out,HP.out,HM2.out,HA2.out,HR2.out,HB2.out⟩
            case measure=>simp [intOf];omega
      · have ei:i=l.length:=by omega
        subst ei
        rw [frK_all] at hY
        have o7:=hG.own
        rw [hY] at o7
        have hml:=m.lt
        have hgl:=hG.lt
        clear hG
        go_wp2_with fail
        refine (HN.out _ _ o7.rd).mono ?_
        rintro en w8 ⟨rfl,hb8⟩
        have hB8:Below w.heap.size w w8:=hb.trans (hb8.mono hb.size)
        have m8:=m.below hb8 m.lt
        have ka8:=ka.below hb8 ka.lt
        have kr8:=kr.below hb8 kr.lt
        have o8:=o7.below hb8 (Nat.le_refl _)
        have hz8:=hb8.size
        clear m ka kr o7
        cases h2:lgB (wrap64 (e+1)) (l.map (frA (wrap64 (e+1))))
        · have Hne:=hide (Hno2.out h2)
          have d0:=ka8.cell 0
          have d1:=ka8.cell 1
          simp only [List.getElem?_cons_zero,List.getElem?_cons_succ] at d0 d1
          clear Hno2 Hyes h2 o8
          go_wp2_with fail
          refine (HD.out _ (Hr0.out.below hB8 (Nat.le_refl _))).mono ?_
          rintro en w9 ⟨v9,rfl,ho9,hb9⟩
          have k9:=kr8.below hb9 kr8.lt
          obtain ⟨a9,cv9,rfl⟩:=ho9.rd.shape
          have r0:=k9.cell 0
          have r1:=k9.cell 1
          have g0:=k9.frozen 0
          have g1:=k9.frozen 1
          simp only [List.getElem?_cons_zero,List.getElem?_cons_succ] at r0 r1
          have Ho:=hide (((ho9.older (g:=w.heap.size+1) (by omega) 0 (.int .i64 e)).older (g:=w.heap.size+1) (by omega) 1 (.slice a9 l.length cv9)).mono (show w.heap.size<=_ by omega))
          have HB:=hide (((hB8.trans (hb9.mono hB8.size)).setCell (p:=⟨w.heap.size+1,0,none⟩) (show w.heap.size<=w.heap.size+1 by omega) (.int .i64 e)).setCell (p:=⟨w.heap.size+1,1,none⟩) (show w.heap.size<=w.heap.size+1 by omega) (.slice a9 l.length cv9))
          clear ho9 hb9 k9
          go_wp2
          refine bodyPost_ret (v:=.agg #[.int .i64 e,.slice a9 l.length cv9]) (by simp [results,Tryz.f25,go_sem,r0,r1]) rfl ?_
          rw [Hne.out]
          exact ⟨_,rfl,Ho.out,HB.out⟩
        · have Hne:=hide (Hyes.out h2)
          have d0:=m8.cell 0
          have d1:=m8.cell 1
          have r0:=kr8.cell 0
          have r1:=kr8.cell 1
          have g0:=kr8.frozen 0
          have g1:=kr8.frozen 1
          simp only [List.getElem?_cons_zero,List.getElem?_cons_succ] at d0 d1 r0 r1
          have Ho:=hide (((o8.older (g:=w.heap.size+1) (by omega) 0 (.int .i64 (wrap64 (e+1)))).older (g:=w.heap.size+1) (by omega) 1 (.slice (some ⟨g,0,none⟩) l.length cap)).mono (show w.heap.size<=_ by omega))
          have HB:=hide ((hB8.setCell (p:=⟨w.heap.size+1,0,none⟩) (show w.heap.size<=w.heap.size+1 by omega) (.int .i64 (wrap64 (e+1)))).setCell (p:=⟨w.heap.size+1,1,none⟩) (show w.heap.size<=w.heap.size+1 by omega) (.slice (some ⟨g,0,none⟩) l.length cap))
          clear Hno2 Hyes h2 o8 ka8 kr8 m8
          go_wp2
          refine bodyPost_ret (v:=.agg #[.int .i64 (wrap64 (e+1)),.slice (some ⟨g,0,none⟩) l.length cap]) (by simp [results,Tryz.f25,go_sem,r0,r1]) rfl ?_
          rw [Hne.out]
          exact ⟨_,rfl,Ho.out,HB.out⟩
end Go.Proofs.YthehfkafcdociaaGreatDoor
namespace Go.Proofs.YthehfkafcdociaaGreatDoor
open Go.RowKit Go.Sort
set_option linter.unusedVariables false
set_option linter.unusedSimpArgs false
theorem RdKs.fs14 {w:World} {a:Option Addr} {cap:Nat} {l:List Bk} (h:RdKs w (.slice a l.length cap) l) (hl:0 < l.length):∃ b off,a=some ⟨b,off,none⟩/\b < w.heap.size/\∀ i (h:i < l.length),∃ bv,BkAt w b (off+i * 14) l[i] bv/\RdK w l[i] bv:=by
  rcases h with ⟨a',cap',e,rfl,hn⟩ | ⟨b,off,cap',h0,e,h1,h2,h3,h4⟩
  · simp at hl
  · simp only [Value.slice.injEq] at e
    exact ⟨b,off,e.1,h3,h4⟩
theorem sfBk14:(Tryz.prog.info? 69).map (·.size)=some 14:=by kernel_rfl
theorem fewG_ofS {l:List Ac} {e:Int} (h:FewG (e,l)):l.length<=3999999/\∀ a ∈ l,a.1.size<=maxLen/\a.2.2.2.2.length<=3999999:=h
theorem specFold_any (e0:Int) (vf vn vs vm:Value) (av:Option Addr) (cv:Nat) (l0:List Ac) (adb:Option Addr) (cpb:Nat) (bs:List Bk) (ad:Option Addr) (cd:Nat) (d:List Int) (w:World) (hA:RdA w (.slice av l0.length cv) l0) (hg0:FewG (e0,l0)) (hB:RdKs w (.slice adb bs.length cpb) bs) (hl:bs.length<=4000000) (hfb:∀ b ∈ bs,FewK b) (hD:RdI w (.slice ad d.length cd) d) (hd:d.length<=4000000) :
    Calls Tryz.prog 5 #[.agg #[.int .i64 e0,.slice av l0.length cv,vf,vn,.slice adb bs.length cpb,vs,vm],.slice ad d.length cd] w fun en w' =>
      (okD bs d=true/\∃ v',en=.returned (.tuple #[lgV (foD bs e0 l0 d).1 v',.bool true])/\OwnA w.heap.size w' v' (foD bs e0 l0 d).2/\Below w.heap.size w w') \/
      (okD bs d=false/\∃ v',en=.returned (.tuple #[lgV e0 v',.bool false])/\OwnA w.heap.size w' v' l0/\Below w.heap.size w w'):=by
  obtain ⟨w2,hw2⟩:∃ x,(w.alloc (.cells #[.int .i64 e0,.slice av l0.length cv,vf,vn,.slice adb bs.length cpb,vs,vm] 44)).alloc (.cells #[.int .i64 0,.slice none 0 0] 36)=x:=⟨_,rfl⟩
  have hs1:(w.alloc (.cells #[.int .i64 e0,.slice av l0.length cv,vf,vn,.slice adb bs.length cpb,vs,vm] 44)).heap.size=w.heap.size+1:=by simp
  have hb2:Below w.heap.size w w2:=by rw [<- hw2];exact ((Below.refl _ w).alloc (Nat.le_refl _) _).alloc (by rw [hs1];omega) _
  have hs2:w2.heap.size=w.heap.size+2:=by rw [<- hw2];simp
  have KW:=hide (show Blk w2 w.heap.size 44 [.int .i64 e0,.slice av l0.length cv,vf,vn,.slice adb bs.length cpb,vs,vm] from by rw [<- hw2];exact (Blk.new w _ _).below ((Below.refl (w.heap.size+1) _).alloc (by rw [hs1];exact Nat.le_refl _) _) (by omega))
  have KR:=hide (show Blk w2 (w.heap.size+1) 36 [.int .i64 0,.slice none 0 0] from by rw [<- hw2,<- hs1];exact Blk.new _ _ _)
  obtain ⟨hg1,hg2⟩:=fewG_ofS hg0
  have HC:=hide (fun V (hV:Below w2.heap.size w2 V)=>specL6Copy_any e0 (.slice av l0.length cv) l0 V ((hA.below hb2 (Nat.le_refl _)).below hV (Nat.le_refl _)) (by omega) (fun a ha=>by have:=(hg2 a ha).2;omega))
  have HP:=hide (fun (id:Int) (V:World)=>l1In_any id 0 ((bs.length:Int) - 1) V)
  have HAl:=hide (fun (e:Int) (v vt:Value) (l:List Ac) (ts:List Tx5) V=>specAll_any e v vt l ts V)
  have HNe:=hide (fun (e:Int) (v:Value) (l:List Ac) V=>specNext_any e v l V)
  have HF:=hide (fun k=>foD_few (bs:=bs) hg0 (d.take k))
  simp only [lgV] at HC HAl HNe
  have Hb2:=hide hb2
  have HB:=hide hB
  have HD:=hide hD
  have HK:=hide hfb
  have c0:=KW.out.cell 0
  have c1:=KW.out.cell 1
  simp only [List.getElem?_cons_zero,List.getElem?_cons_succ] at c0 c1
  have hwl:IntKind.i64.wrap ((bs.length:Int) - 1)=(bs.length:Int) - 1:=by rw [IntKind.wrap_i64];omega
  clear hs1 hb2 hA hB hD hfb hg1 hg2 hg0
  go_enter Tryz.func5,Tryz.ntmps5
  go_upto_region 1 with fail
  (try rw [hw2])
  clear hw2
  obtain ⟨M,hM⟩:∃ x,(.agg #[.int .i64 e0,.slice av l0.length cv,vf,vn,.slice adb bs.length cpb,vs,vm]:Value)=x:=⟨_,rfl⟩
  rw [hM]
  clear hM
  go_wp2_with fail
  refine (HC.out w2 (Below.refl _ _)).mono ?_
  rintro en w3 ⟨v3,rfl,o3,hb3⟩
  obtain ⟨a3,c3,rfl⟩:=o3.rd.shape
  obtain ⟨w4,hw4⟩:∃ w4,w3.alloc (.cells #[.int .i64 e0,.slice a3 l0.length c3] 36)=w4:=⟨_,rfl⟩
  have b4:Below w3.heap.size w3 w4:=by rw [<- hw4];exact (Below.refl _ w3).alloc (Nat.le_refl _) _
  have k4:Blk w4 w3.heap.size 36 [.int .i64 e0,.slice a3 l0.length c3]:=by rw [<- hw4];exact Blk.new w3 _ _
  have s4:w4.heap.size=w3.heap.size+1:=by rw [<- hw4];simp
  have x4:=o3.ox.below b4 (Nat.le_refl _)
  have hB4:=hb3.trans (b4.mono hb3.size)
  have hz3:=hb3.size
  clear o3 hb3 b4 c0 c1
  have K5:=hide k4
  have X5:=hide x4
  have B5:=hide hB4
  clear k4 x4 hB4
  go_upto_region 2 with fail
  (try rw [hw4])
  clear hw4
  go_wp2
  go_loopw [7] (fun iv wr=>∃ (i:Nat) (e:Int) (P:List Ac) (a:Option Addr) (c base hi:Nat),i<=d.length/\iv=.int .i64 (i:Int)/\foD bs e0 l0 (d.take i)=(e,P)/\(∀ j (h:j < d.length),j < i->plB bs d[j]=true)/\Blk wr w3.heap.size 36 [.int .i64 e,.slice a P.length c]/\OwnX base hi wr (.slice a P.length c) P/\w2.heap.size<=base/\(w3.heap.size < base\/hi<=w3.heap.size)/\Below w2.heap.size w2 wr) (fun iv _=>d.length - (intOf iv).toNat)
  case atStart=>exact ⟨0,e0,l0,a3,c3,w2.heap.size,w3.heap.size,by omega,rfl,rfl,(fun j _ h=>by omega),K5.out,X5.out,Nat.le_refl _,.inr (Nat.le_refl _),B5.out⟩
  case round =>
    obtain ⟨i,e,P,a,c,base,hi,hi1,rfl,hfo,hlo,kO,x,hbase,hdis,hb⟩:=hrel
    clear K5 X5 B5
    have hwr:=hb.size
    have hO:=kO.lt
    have hBw:=Hb2.out.trans (hb.mono Hb2.out.size)
    have few:=HF.out i
    rw [hfo] at few
    have Hlo:=hide hlo
    clear hlo
    by_cases hlt:i < d.length
    · obtain ⟨b,off,rfl,hc1,hc2,hdlt,hc⟩:=HD.out.at hlt
      have cd0:=(hBw.cell (p:=⟨b,off+i,none⟩) hdlt).trans hc
      have kW:=KW.out.below hb KW.out.lt
      have cb:=kW.cell 4
      simp only [List.getElem?_cons_zero,List.getElem?_cons_succ] at cb
      have hki:(i:Int) < (d.length:Int):=by omega
      have hk0:(0:Int)<=(i:Int):=by omega
      have g5:=cell_regrown cd0
      have g6:=cell_regrown cb
      have HP1:=hide (fun (dd:Nat) (os:Array Obj)=>sameC_regrown (HP.out d[i] (grow (redrawn wr dd) os)))
      have hpe:inB d[i] 0 ((bs.length:Int) - 1)=plB bs d[i]:=rfl
      rw [hpe] at HP1
      clear hpe
      cases hp:plB bs d[i]
      · have hno:=hide (okD_no hlt hp)
        rw [hp] at HP1
        have Hb:=hide hb
        clear kO x few hc hfo hp cd0 cb kW
        generalize d[i]=id at g5 HP1
        go_wp2
        refine wp_region_quiet_below (by kernel_rfl) (by kernel_rfl) ?_
        (try dsimp only [List.append])
        repeat (first | go_big_quiet_step (first | (go_at_call 23;exact HP1.out _ _)))
        refine wpQuiet_nil ?_
        intro _ hw'
        obtain ⟨⟨dq,osq⟩,hw''⟩:=hw'
        subst hw''
        have hbq:=Hb.out.trans ((below_regrown wr dq osq).mono Hb.out.size)
        have HCq:=hide (HC.out _ hbq)
        have kW:=KW.out.below hbq KW.out.lt
        have z0:=kW.cell 0
        have z1:=kW.cell 1
        simp only [List.getElem?_cons_zero,List.getElem?_cons_succ] at z0 z1
        have Hbq:=hide hbq
        clear hbq kW g5 g6
        go_wp2_with fail
        refine HCq.out.mono ?_
        rintro en w6 ⟨v6,rfl,o6,hb6⟩
        obtain ⟨a6,c6,rfl⟩:=o6.rd.shape
        have hb7:=Hbq.out.trans (hb6.mono Hbq.out.size)
        have kR:=KR.out.below hb7 KR.out.lt
        have r0:=kR.cell 0
        have r1:=kR.cell 1
        have g0:=kR.frozen 0
        have g1:=kR.frozen 1
        simp only [List.getElem?_cons_zero,List.getElem?_cons_succ] at r0 r1
        have HBx:=hide (((Hb2.out.trans (hb7.mono Hb2.out.size)).setCell (p:=⟨w.heap.size+1,0,none⟩) (show w.heap.size<=w.heap.size+1 by omega) (.int .i64 e0)).setCell (p:=⟨w.heap.size+1,1,none⟩) (show w.heap.size<=w.heap.size+1 by omega) (.slice a6 l0.length c6))
        have hz6:=Hbq.out.size
        have HOx:=hide (((o6.older (g:=w.heap.size+1) (by omega) 0 (.int .i64 e0)).older (g:=w.heap.size+1) (by omega) 1 (.slice a6 l0.length c6)).mono (show w.heap.size<=_ by omega))
        clear kR hb7 hb6 o6 z0 z1
        go_wp2
        refine bodyPost_ret (v:=.tuple #[.agg #[.int .i64 e0,.slice a6 l0.length c6],.bool false]) (by simp [results,Tryz.f5,go_sem,r0,r1]) rfl ?_
        exact .inr ⟨hno.out,_,rfl,HOx.out,HBx.out⟩
      · rw [hp] at HP1
        have Hp:=hide hp
        obtain ⟨k,hk,hid⟩:=pl_yes hp
        obtain ⟨b1,off1,rfl,h3,hcell⟩:=HB.out.fs14 (by omega)
        obtain ⟨bv,hat,hrk⟩:=hcell k hk
        have hfk:=HK.out bs[k] (List.getElem_mem hk)
        have Hrg0:w.rangeAt b1 (off1+k * 14) (bkC bs[k] bv):=fun j y hy=>(hat j (by have:=(List.getElem?_eq_some_iff.1 hy).1;exact this)).trans hy
        have hrt:=hrk.t
        obtain ⟨ta,tc,hte⟩:=hrt.shape
        rw [hte] at hrt
        have Hrt:=hide hrt
        have Hfk:=hide (And.intro hfk.t hfk.ts)
        have Hsn:=hide (foD_snoc bs e0 l0 d i hlt)
        have hkb:(k:Int) < (bs.length:Int):=by omega
        have hkb0:(0:Int)<=(k:Int):=by omega
        have hS:foS bs (e,P) (k:Int)=foB (e,P) bs[k]:=foS_at _ hk
        rw [hfo,hid,hS] at Hsn
        have fewA:FewG (e,(alA e P bs[k].ts).1):=alA_few bs[k].ts few.1 few.2
        have Few:=hide (fewG_ofS few)
        have HfB:Hid (∀ A:List Ac,(alA e P bs[k].ts).1=A->foB (e,P) bs[k]=if bs[k].en=true then neA e A else (e,A)):=hide (fun A h=>by unfold foB;simp only [h])
        have HX10:=hide (show (bkC bs[k] bv)[10]?=some (.slice ta bs[k].ts.length tc) from by rw [<- hte];rfl)
        have HX11:=hide (show (bkC bs[k] bv)[11]?=some (.bool bs[k].en) from rfl)
        have OneB:=hide (show (bkC bs[k] bv).toArray.all (·.oneCell')=true from by rw [List.all_toArray];exact bkC_one hrk)
        have IB:=hide (show (Tryz.prog.info? 69).map (·.size)=some (bkC bs[k] bv).length from sfBk14)
        have LB:=hide (show (bkC bs[k] bv).length=14 from rfl)
        rw [hid] at g5 cd0 HP1
        have HcB:=hide (And.intro cb cd0)
        have KO:=hide kO
        have Hx:=hide x
        have Hb:=hide hb
        have Hrg:=hide Hrg0
        generalize foB (e,P) bs[k]=G at Hsn HfB
        generalize bs[k].en=en9 at HX11 HfB
        generalize bs[k].ts=ts at Hrt HX10 HfB fewA Hfk
        generalize bkC bs[k] bv=cB at Hrg HX10 HX11 OneB IB LB
        generalize hAA:alA e P ts=AA at HfB fewA
        have HAA:=hide hAA
        obtain ⟨A,nA⟩:=AA
        simp only at HfB fewA
        have HfB:=hide (HfB.out A rfl)
        have FewA:=hide (fewG_ofS fewA)
        clear hAA hat hrk hcell hfk hte hrt kO x few hb hfo hS hc kW fewA hp Hrg0 cb cd0 hid
        go_wp2
        refine wp_region_quiet_below (by kernel_rfl) (by kernel_rfl) ?_
        (try dsimp only [List.append])
        repeat (first | go_big_quiet_step (first | (go_at_call 23;exact HP1.out _ _)))
        refine wpQuiet_nil ?_
        intro _ hw'
        obtain ⟨⟨dq,osq⟩,hw''⟩:=hw'
        obtain ⟨wq,hwq⟩:∃ y,grow (redrawn wr dq) osq=y:=⟨_,rfl⟩
        have bq:Below wr.heap.size wr wq:=by rw [<- hwq];exact below_regrown wr dq osq
        subst hw''
        rw [hwq]
        clear hwq HP1 g5 g6
        go_upto_region 7 with fail
        have bD:Below wr.heap.size wr wq.drew:=bq.drew
        have HSd:=hide (fun V (hV:Below wr.heap.size wr V)=>(show V.rangeAt b1 (off1+k * 14) cB/\V.cell? ⟨w.heap.size,3+1,none⟩=some (.slice (some ⟨b1,off1,none⟩) bs.length cpb)/\V.cell? ⟨b,off+i,none⟩=some (.int .i64 (k:Int)) from ⟨range_below (range_below Hrg.out hBw h3) hV (by have:=hBw.size;omega),(hV.cell (p:=⟨w.heap.size,3+1,none⟩) (World.block_lt_of_cell? wr _ HcB.out.1)).trans HcB.out.1,(hV.cell (p:=⟨b,off+i,none⟩) (World.block_lt_of_cell? wr _ HcB.out.2)).trans HcB.out.2⟩))
        refine wp_region_held_drew (S:=fun W=>W.rangeAt b1 (off1+k * 14) cB/\W.cell? ⟨w.heap.size,3+1,none⟩=some (.slice (some ⟨b1,off1,none⟩) bs.length cpb)/\W.cell? ⟨b,off+i,none⟩=some (.int .i64 (k:Int))) (by kernel_rfl) (HSd.out _ bD) (fun hHeld=>?_)
        refine wpAnyH_take (i:=0) (v:=.pointer (some ⟨w.heap.size,3+1,none⟩)) rfl (by kernel_rfl) (by kernel_rfl) (by kernel_rfl) (fun _ _ _ h=>h) (Or.inl ⟨by rfl,fun W hW=>by (obtain ⟨q0,q1,q2⟩:=hW;go_simp)⟩) (by assumption) ?_
        change wpAnyH Tryz.prog _ _ _ _ _ _ (Act.put _ (some 31) _) _
        simp only [Act.put,List.setIfInBounds_toArray,List.set_cons_zero,List.set_cons_succ]
        refine wpAnyH_take (i:=1) (v:=.slice (some ⟨b1,off1,none⟩) bs.length cpb) rfl (by kernel_rfl) (by kernel_rfl) (by kernel_rfl) (fun _ _ _ h=>h) (Or.inl ⟨by rfl,fun W hW=>by (obtain ⟨q0,q1,q2⟩:=hW;go_simp)⟩) (by assumption) ?_
        change wpAnyH Tryz.prog _ _ _ _ _ _ (Act.put _ (some 32) _) _
        simp only [Act.put,List.setIfInBounds_toArray,List.set_cons_zero,List.set_cons_succ]
        refine wpAnyH_take (i:=2) (v:=.slice (some ⟨b,off,none⟩) d.length cd) rfl (by kernel_rfl) (by kernel_rfl) (by kernel_rfl) (fun _ _ _ h=>h) (Or.inl ⟨by rfl,fun W hW=>by (obtain ⟨q0,q1,q2⟩:=hW;go_simp)⟩) (by assumption) ?_
        change wpAnyH Tryz.prog _ _ _ _ _ _ (Act.put _ (some 33) _) _
        simp only [Act.put,List.setIfInBounds_toArray,List.set_cons_zero,List.set_cons_succ]
        refine wpAnyH_take (i:=3) (v:=.int .i64 (i:Int)) rfl (by kernel_rfl) (by kernel_rfl) (by kernel_rfl) (fun _ _ _ h=>h) (Or.inl ⟨by rfl,fun W hW=>by (obtain ⟨q0,q1,q2⟩:=hW;go_simp)⟩) (by assumption) ?_
        change wpAnyH Tryz.prog _ _ _ _ _ _ (Act.put _ (some 34) _) _
        simp only [Act.put,List.setIfInBounds_toArray,List.set_cons_zero,List.set_cons_succ]
        refine wpAnyH_take (i:=4) (v:=.pointer (some ⟨b,off+i,none⟩)) rfl (by kernel_rfl) (by kernel_rfl) (by kernel_rfl) (fun _ _ _ h=>h) (Or.inl ⟨by rfl,fun W hW=>by (obtain ⟨q0,q1,q2⟩:=hW;go_simp)⟩) (by assumption) ?_
        change wpAnyH Tryz.prog _ _ _ _ _ _ (Act.put _ (some 35) _) _
        simp only [Act.put,List.setIfInBounds_toArray,List.set_cons_zero,List.set_cons_succ]
        refine wpAnyH_take (i:=5) (v:=.int .i64 (k:Int)) rfl (by kernel_rfl) (by kernel_rfl) (by kernel_rfl) (fun _ _ _ h=>h) (Or.inl ⟨by rfl,fun W hW=>by (obtain ⟨q0,q1,q2⟩:=hW;go_simp)⟩) (by assumption) ?_
        change wpAnyH Tryz.prog _ _ _ _ _ _ (Act.put _ (some 36) _) _
        simp only [Act.put,List.setIfInBounds_toArray,List.set_cons_zero,List.set_cons_succ]
        refine wpAnyH_take (i:=6) (v:=.pointer (some ⟨b1,off1+k * 14,none⟩)) rfl (by kernel_rfl) (by kernel_rfl) (by kernel_rfl) (fun _ _ _ h=>h) (Or.inl ⟨by rfl,fun W hW=>by (obtain ⟨q0,q1,q2⟩:=hW;go_simp)⟩) (by assumption) ?_
        change wpAnyH Tryz.prog _ _ _ _ _ _ (Act.put _ (some 37) _) _
        simp only [Act.put,List.setIfInBounds_toArray,List.set_cons_zero,List.set_cons_succ]
        refine wpAnyH_take (i:=7) (v:=.agg cB.toArray) rfl (by kernel_rfl) (by kernel_rfl) (by kernel_rfl) (fun _ _ _ h=>h) (yieldsIf_load_mid (by rfl) 69 _ rfl b1 (off1+k * 14) rfl cB _ (fun W hW=>hW.1) Tryz.underlying69 rfl IB.out) (by assumption) ?_
        change wpAnyH Tryz.prog _ _ _ _ _ _ (Act.put _ (some 38) _) _
        simp only [Act.put,List.setIfInBounds_toArray,List.set_cons_zero,List.set_cons_succ]
        refine wpAnyH_ready (rs:=[8]) (by kernel_rfl) (by simp) ?_
        refine AllReadyH.cons rfl (fun K hK=>?_) AllReadyH.nil
        go_simp
        have nb:Blk (wq.alloc (.cells #[.int .i64 0,.int .i64 0,.int .i64 0,.string { data:=#[] },.int .i64 0,.int .i64 0,.slice none 0 0,.int .i64 0,.slice none 0 0,.slice none 0 0,.slice none 0 0,.bool false,.slice none 0 0,.string { data:=#[] }] 69)).drew wq.heap.size 69 [.int .i64 0,.int .i64 0,.int .i64 0,.string { data:=#[] },.int .i64 0,.int .i64 0,.slice none 0 0,.int .i64 0,.slice none 0 0,.slice none 0 0,.slice none 0 0,.bool false,.slice none 0 0,.string { data:=#[] }]:=Blk.new wq _ _
        have ba:Below wr.heap.size wr (wq.alloc (.cells #[.int .i64 0,.int .i64 0,.int .i64 0,.string { data:=#[] },.int .i64 0,.int .i64 0,.slice none 0 0,.int .i64 0,.slice none 0 0,.slice none 0 0,.slice none 0 0,.bool false,.slice none 0 0,.string { data:=#[] }] 69)).drew:=(bq.alloc bq.size _).drew
        refine hK.out _ _ (HSd.out _ ba) (fun hHeld=>?_)
        try simp only [Act.put,List.setIfInBounds_toArray,List.set_cons_zero,List.set_cons_succ]
        have b9:Below wr.heap.size wr ((wq.alloc (.cells #[.int .i64 0,.int .i64 0,.int .i64 0,.string { data:=#[] },.int .i64 0,.int .i64 0,.slice none 0 0,.int .i64 0,.slice none 0 0,.slice none 0 0,.slice none 0 0,.bool false,.slice none 0 0,.string { data:=#[] }] 69)).drew.setCells wq.heap.size 0 cB):=ba.trans (putC_below bq.size _ _ _)
        refine wpAnyH_ready (rs:=[9]) (by kernel_rfl) (by simp) ?_
        refine AllReadyH.cons rfl (fun K hK=>?_) AllReadyH.nil
        refine wp_store_mid 69 _ _ rfl wq.heap.size 0 cB.toArray rfl rfl (nb.there (by rw [List.size_toArray,LB.out];rfl)) (by simpa using IB.out) OneB.out ?_
        refine hK.out _ _ (HSd.out _ b9) (fun hHeld=>?_)
        try simp only [Act.put,List.setIfInBounds_toArray,List.set_cons_zero,List.set_cons_succ]
        refine wpAnyH_done (by kernel_rfl) ?_ _
        have JB:=hide (blk_all (ys:=cB) nb (by rw [LB.out];rfl))
        obtain ⟨wM,hwM⟩:∃ y,(wq.alloc (.cells #[.int .i64 0,.int .i64 0,.int .i64 0,.string { data:=#[] },.int .i64 0,.int .i64 0,.slice none 0 0,.int .i64 0,.slice none 0 0,.slice none 0 0,.slice none 0 0,.bool false,.slice none 0 0,.string { data:=#[] }] 69)).drew.setCells wq.heap.size 0 cB=y:=⟨_,rfl⟩
        rw [hwM] at JB b9
        (try simp only [List.toList_toArray])
        (try rw [hwM])
        clear hwM hHeld ba nb bD HSd hK HcB Hrg OneB IB
        have hqs:=bq.size
        have BM:=hide b9
        have kM:=KO.out.below b9 KO.out.lt
        have m0:=kM.cell 0
        have m1:=kM.cell 1
        have m10:=(JB.out.cell 10).trans HX10.out
        simp only [List.getElem?_cons_zero,List.getElem?_cons_succ] at m0 m1
        have KM:=hide kM
        have CA:=hide (HAl.out e (.slice a P.length c) (.slice ta ts.length tc) P ts wM (Hx.out.rd.below b9 (Nat.le_refl _)) (Hrt.out.below (hBw.trans (b9.mono hBw.size)) (Nat.le_refl _)) Few.out.1 Few.out.2 Hfk.out.1 Hfk.out.2)
        rw [HAA.out] at CA
        simp only at CA
        clear kM b9 bq
        go_wp2_with fail
        refine CA.out.mono ?_
        rintro en wA ⟨vA,rfl,oA,bA⟩
        obtain ⟨aA,cA,rfl⟩:=oA.rd.shape
        have kA:=KM.out.below bA KM.out.lt
        have q0:=kA.cell 0
        have q1:=kA.cell 1
        have f0:=kA.frozen 0
        have f1:=kA.frozen 1
        simp only [List.getElem?_cons_zero,List.getElem?_cons_succ] at q0 q1
        have jA:=JB.out.below bA JB.out.lt
        have hwM:=BM.out.size
        have hjb:=JB.out.lt
        have hne9:wq.heap.size ≠ w3.heap.size:=by omega
        have kN:=(kA.set 0 (.int .i64 e)).set 1 (.slice aA A.length cA)
        have oN:=(oA.older (g:=w3.heap.size) (by omega) 0 (.int .i64 e)).older (g:=w3.heap.size) (by omega) 1 (.slice aA A.length cA)
        have bN:=((Hb.out.trans ((BM.out.trans (bA.mono BM.out.size)).mono hwr)).setCell (p:=⟨w3.heap.size,0,none⟩) (show w2.heap.size<=w3.heap.size by omega) (.int .i64 e)).setCell (p:=⟨w3.heap.size,1,none⟩) (show w2.heap.size<=w3.heap.size by omega) (.slice aA A.length cA)
        have jN:=(jA.other w3.heap.size 0 (.int .i64 e) hne9).other w3.heap.size 1 (.slice aA A.length cA) hne9
        simp only [List.set_cons_zero,List.set_cons_succ] at kN
        obtain ⟨wN,hwN⟩:∃ y,(wA.setCell ⟨w3.heap.size,0,none⟩ (.int .i64 e)).setCell ⟨w3.heap.size,1,none⟩ (.slice aA A.length cA)=y:=⟨_,rfl⟩
        rw [hwN] at kN oN bN jN
        have KN:=hide kN
        have ON:=hide oN
        have BN:=hide bN
        have e11:=(jN.cell 11).trans HX11.out
        have p0:=kN.cell 0
        have p1:=kN.cell 1
        have j0:=kN.frozen 0
        have j1:=kN.frozen 1
        simp only [List.getElem?_cons_zero,List.getElem?_cons_succ] at p0 p1
        have hPl:Hid (∀ j (h:j < d.length),j < i+1->plB bs d[j]=true):=hide (fun j h hj=>by
          by_cases ej:j=i
          · subst ej;exact Hp.out
          · exact Hlo.out j h (by omega))
        have zN:=bN.size
        have zA:=bA.size
        clear kA oA bA kN oN bN jA jN m0 m1 m10 CA
        cases en9
        · have hG:G=(e,A):=by rw [HfB.out];rfl
          go_upto_region 9 with fail
          (try rw [hwN])
          clear hwN q0 q1 f0 f1
          go_wp2
          go_roundw
          case rel=>exact ⟨i+1,e,A,aA,cA,_,_,by omega,by go_num,by rw [Hsn.out,hG],hPl.out,KN.out,ON.out.ox,by omega,.inl (by omega),BN.out⟩
          case measure=>simp [intOf];omega
        · have hG:G=neA e A:=by rw [HfB.out];rfl
          go_upto_region 9 with fail
          (try rw [hwN])
          clear hwN q0 q1 f0 f1
          go_wp2_with fail
          refine (HNe.out e (.slice aA A.length cA) A wN ON.out.rd (by have:=FewA.out.1;omega) (fun q hq=>by have:=FewA.out.2 q hq;omega)).mono ?_
          rintro en wB ⟨vB,rfl,oB,hbB⟩
          obtain ⟨aB,cB',hvB⟩:=oB.rd.shape
          subst hvB
          have kB:=KN.out.below hbB KN.out.lt
          have u0:=kB.cell 0
          have u1:=kB.cell 1
          have s0:=kB.frozen 0
          have s1:=kB.frozen 1
          simp only [List.getElem?_cons_zero,List.getElem?_cons_succ] at u0 u1
          have kM:=(kB.set 0 (.int .i64 (neA e A).1)).set 1 (.slice aB (neA e A).2.length cB')
          have oM:=(oB.older (g:=w3.heap.size) (by have:=KN.out.lt;omega) 0 (.int .i64 (neA e A).1)).older (g:=w3.heap.size) (by have:=KN.out.lt;omega) 1 (.slice aB (neA e A).2.length cB')
          have bM:=((BN.out.trans (hbB.mono zN)).setCell (p:=⟨w3.heap.size,0,none⟩) (show w2.heap.size<=w3.heap.size by omega) (.int .i64 (neA e A).1)).setCell (p:=⟨w3.heap.size,1,none⟩) (show w2.heap.size<=w3.heap.size by omega) (.slice aB (neA e A).2.length cB')
          simp only [List.set_cons_zero,List.set_cons_succ] at kM
          have KM:=hide kM
          have OM:=hide oM
          have BM:=hide bM
          have zb:=hbB.size
          have zk:=KN.out.lt
          clear kB kM oM bM oB hbB e11 p0 p1 j0 j1
          obtain ⟨ne,hne⟩:∃ y,neA e A=y:=⟨_,rfl⟩
          rw [hne] at KM OM BM hG ⊢
          clear hne
          obtain ⟨e9,P9⟩:=ne
          simp only at KM OM BM ⊢
          go_wp2
          go_roundw
          case rel=>exact ⟨i+1,e9,P9,aB,cB',_,_,by omega,by go_num,by rw [Hsn.out,hG],hPl.out,KM.out,OM.out.ox,by omega,.inl (by omega),BM.out⟩
          case measure=>simp [intOf];omega
    · obtain rfl:i=d.length:=by omega
      have hy:=hide (okD_yes (bs:=bs) (d:=d) (fun j h=>Hlo.out j h h))
      rw [List.take_length] at hfo
      have d0:=kO.cell 0
      have d1:=kO.cell 1
      simp only [List.getElem?_cons_zero,List.getElem?_cons_succ] at d0 d1
      have kR:=KR.out.below hb KR.out.lt
      have r0:=kR.cell 0
      have r1:=kR.cell 1
      have g0:=kR.frozen 0
      have g1:=kR.frozen 1
      simp only [List.getElem?_cons_zero,List.getElem?_cons_succ] at r0 r1
      have HBx:=hide ((hBw.setCell (p:=⟨w.heap.size+1,0,none⟩) (show w.heap.size<=w.heap.size+1 by omega) (.int .i64 e)).setCell (p:=⟨w.heap.size+1,1,none⟩) (show w.heap.size<=w.heap.size+1 by omega) (.slice a P.length c))
      have HOx:=hide (((x.own.older (g:=w.heap.size+1) (by omega) 0 (.int .i64 e)).older (g:=w.heap.size+1) (by omega) 1 (.slice a P.length c)).mono (show w.heap.size<=_ by omega))
      have Hfo:=hide hfo
      have hli:¬ (d.length:Int) < (d.length:Int):=by omega
      clear kO x kR hb hBw few hfo
      go_wp2
      refine bodyPost_ret (v:=.tuple #[.agg #[.int .i64 e,.slice a P.length c],.bool true]) (by simp [results,Tryz.f5,go_sem,r0,r1]) rfl ?_
      exact .inl ⟨hy.out,_,by rw [Hfo.out];rfl,by rw [Hfo.out];exact HOx.out,HBx.out⟩
end Go.Proofs.YthehfkafcdociaaGreatDoor
