/- The model's MakeBody. -/
import Derived.Test.YtohachldbpejpaaGreatDoorZbBdPure
set_option maxRecDepth 20000
set_option maxHeartbeats 8000000
namespace Go.Proofs.YtohachldbpejpaaGreatDoor
open Go.RowKit
set_option linter.unusedVariables false
theorem specNext_any (e:Int) (v:Value) (l:List Ac) (w:World) (hr:RdA w v l) (hl:l.length<=4000000) (hall:∀ a ∈ l,a.1.size<=maxLen/\a.2.2.2.2.length<=4000000) :
    Calls Tryz.prog 83 #[lgV e v] w fun en w'=>∃ v',en=.returned (lgV (neA e l).1 v')/\OwnA w.heap.size w' v' (neA e l).2/\Below w.heap.size w w':=by
  obtain ⟨av,cv,rfl⟩:=hr.shape
  have hall2:∀ a ∈ l,a.2.2.2.2.length<=4000000:=fun a ha=>(hall a ha).2
  have hfa:=fr_all (wrap64 (e+1)) l hall
  obtain ⟨w2,hw2⟩:∃ w2,(w.alloc (.cells #[.int .i64 e,.slice av l.length cv] 26)).alloc (.cells #[.int .i64 0,.slice none 0 0] 26)=w2:=⟨_,rfl⟩
  have hs2:w2.heap.size=w.heap.size+2:=by rw [<- hw2];simp
  have hb2:Below w.heap.size w w2:=by rw [<- hw2];exact ((Below.refl _ w).alloc (Nat.le_refl _) _).alloc (by simp) _
  have k1:Blk w2 w.heap.size 26 [.int .i64 e,.slice av l.length cv]:=by
    rw [<- hw2]
    exact (Blk.new w 26 [.int .i64 e,.slice av l.length cv]).alloc _
  have k2:Blk w2 (w.heap.size+1) 26 [.int .i64 0,.slice none 0 0]:=by
    rw [<- hw2]
    have h:=Blk.new (w.alloc (.cells #[.int .i64 e,.slice av l.length cv] 26)) 26 [.int .i64 0,.slice none 0 0]
    simp only [World.size_alloc] at h
    exact h
  have c0:=k1.cell 0
  have c1:=k1.cell 1
  simp only [List.getElem?_cons_zero,List.getElem?_cons_succ] at c0 c1
  have r2:=hr.below hb2 (Nat.le_refl _)
  have HD:=hide (fun w hr=>specL6Copy_any e (.slice av l.length cv) l w hr hl hall2)
  have HO:=hide (fun w hr=>specLedgerOk_any e (.slice av l.length cv) l w hr hl hall)
  have HN:=hide (fun v w hr=>specLedgerOk_any (wrap64 (e+1)) v (l.map (frA (wrap64 (e+1)))) w hr (by simpa using hl) hfa)
  simp only [lgV] at HO HN HD ⊢
  have Hb2:=hide hb2
  have K1:=hide k1
  have K2:=hide k2
  have Hr2:=hide r2
  have Hr0:=hide hr
  have Hall:=hide hall2
  have Hno:Hid (lgB e l=false->neA e l=(e,l)):=hide neA_old
  have Hno2:Hid (lgB (wrap64 (e+1)) (l.map (frA (wrap64 (e+1))))=false->neA e l=(e,l)):=hide neA_new
  have Hyes:Hid (lgB e l=true->lgB (wrap64 (e+1)) (l.map (frA (wrap64 (e+1))))=true->neA e l=(wrap64 (e+1),l.map (frA (wrap64 (e+1))))):=hide neA_yes
  clear hr hb2 k1 k2 hall hall2 hfa r2
  go_enter Tryz.func83,Tryz.ntmps83
  go_wp2_with fail
  refine (HD.out _ Hr2.out).mono ?_
  rintro en w3 ⟨v3,rfl,ho3,hb3⟩
  have hB3:=Hb2.out.trans (hb3.mono Hb2.out.size)
  have hs3:=hb3.size
  obtain ⟨g,cap,Z,rfl,hZ,hG⟩:=ho3.rowG
  obtain ⟨w4,hw4⟩:∃ w4,w3.alloc (.cells #[.int .i64 e,.slice (some ⟨g,0,none⟩) l.length cap] 26)=w4:=⟨_,rfl⟩
  have b4:Below w3.heap.size w3 w4:=by rw [<- hw4];exact (Below.refl _ w3).alloc (Nat.le_refl _) _
  have hB4:Below w.heap.size w w4:=hB3.trans (b4.mono hB3.size)
  have n4:Blk w4 w3.heap.size 26 [.int .i64 e,.slice (some ⟨g,0,none⟩) l.length cap]:=by rw [<- hw4];exact Blk.new w3 _ _
  have k14:=(K1.out.below hb3 K1.out.lt).below b4 (K1.out.below hb3 K1.out.lt).lt
  have k24:=(K2.out.below hb3 K2.out.lt).below b4 (K2.out.below hb3 K2.out.lt).lt
  have hG4:=hG.below b4 (Nat.le_refl _)
  have r4:=(Hr2.out.below hb3 (Nat.le_refl _)).below b4 (Nat.le_refl _)
  have hs4:w4.heap.size=w3.heap.size+1:=by rw [<- hw4];simp
  have d0:=k14.cell 0
  have d1:=k14.cell 1
  simp only [List.getElem?_cons_zero,List.getElem?_cons_succ] at d0 d1
  have hgl:=hG.lt
  have hlo:∀ i (hi:i < Z.length) k,Z[i].2.ownBlock=some k->w3.heap.size ≠ k:=fun i hi k hk=>by have:=(hG.lvs.own i hi).lt k hk;omega
  clear c0 c1 K1 K2 hb3 hB3 ho3 b4 Hr2 hG
  go_wp2_with fail
  refine (HO.out _ r4).mono ?_
  rintro en w5 ⟨rfl,hb5⟩
  have hB5:Below w.heap.size w w5:=hB4.trans (hb5.mono hB4.size)
  have k15:=k14.below hb5 k14.lt
  have k25:=k24.below hb5 k24.lt
  have n5:=n4.below hb5 n4.lt
  have hG5:=hG4.below hb5 (Nat.le_refl _)
  have r5:=r4.below hb5 (Nat.le_refl _)
  have hz5:=hb5.size
  clear d0 d1 k14 k24 n4 hG4 r4 hB4
  cases h1:lgB e l
  · have Hne:=hide (Hno.out h1)
    have o5:=hG5.own
    rw [hZ] at o5
    have d0:=n5.cell 0
    have d1:=n5.cell 1
    have r0:=k25.cell 0
    have r1:=k25.cell 1
    have g0:=k25.frozen 0
    have g1:=k25.frozen 1
    simp only [List.getElem?_cons_zero,List.getElem?_cons_succ] at d0 d1 r0 r1
    have Ho:=hide (((o5.older (g:=w.heap.size+1) (by omega) 0 (.int .i64 e)).older (g:=w.heap.size+1) (by omega) 1 (.slice (some ⟨g,0,none⟩) l.length cap)).mono (show w.heap.size<=_ by omega))
    have HB:=hide ((hB5.setCell (p:=⟨w.heap.size+1,0,none⟩) (show w.heap.size<=w.heap.size+1 by omega) (.int .i64 e)).setCell (p:=⟨w.heap.size+1,1,none⟩) (show w.heap.size<=w.heap.size+1 by omega) (.slice (some ⟨g,0,none⟩) l.length cap))
    clear Hno Hno2 Hyes h1 o5 hG5 r5 k15 k25 n5
    go_wp2
    refine bodyPost_ret (v:=.agg #[.int .i64 e,.slice (some ⟨g,0,none⟩) l.length cap]) (by simp [results,Tryz.f83,go_sem,r0,r1]) rfl ?_
    rw [Hne.out]
    exact ⟨_,rfl,Ho.out,HB.out⟩
  · have Hyes := hide (Hyes.out h1)
    clear Hno h1
    obtain ⟨w6,hw6⟩:∃ w6,w5.setCell ⟨w3.heap.size,0,none⟩ (.int .i64 (wrap64 (e+1)))=w6:=⟨_,rfl⟩
    have n6:Blk w6 w3.heap.size 26 [.int .i64 (wrap64 (e+1)),.slice (some ⟨g,0,none⟩) l.length cap]:=by rw [<- hw6];exact n5.set 0 _
    have k16:Blk w6 w.heap.size 26 [.int .i64 e,.slice av l.length cv]:=by rw [<- hw6];exact k15.other _ _ _ (by omega)
    have k26:Blk w6 (w.heap.size+1) 26 [.int .i64 0,.slice none 0 0]:=by rw [<- hw6];exact k25.other _ _ _ (by omega)
    have hG6:RowG w2.heap.size w6 g l.length cap Z:=by rw [<- hw6];exact hG5.other _ _ _ (by omega) hlo
    have hB6:Below w.heap.size w w6:=by rw [<- hw6];exact hB5.setCell (p:=⟨w3.heap.size,0,none⟩) (by show w.heap.size<=w3.heap.size;omega) _
    have d0:=k15.cell 0
    have m0:=n5.cell 0
    have m0f:=n5.frozen 0
    have m1:=n6.cell 1
    simp only [List.getElem?_cons_zero,List.getElem?_cons_succ] at d0 m0 m1
    have hz6:w6.heap.size=w5.heap.size:=by rw [<- hw6];simp
    have HG6:=hide hG6
    have N6:=hide n6
    have K16:=hide k16
    have K26:=hide k26
    have HB6:=hide hB6
    have HZ:=hide hZ
    clear hG6 n6 k16 k26 hB6 hZ hG5 n5 k15 k25 r5 hB5 hlo
    go_wp2
    go_loopw [4] (fun iv wr=>∃ (i:Nat) (Z:List (Ac × Value)),i<=l.length/\iv=.int .i64 (i:Int)/\Z.map (·.1)=frK (wrap64 (e+1)) l i/\RowG (w.heap.size+2) wr g l.length cap Z/\Blk wr w3.heap.size 26 [.int .i64 (wrap64 (e+1)),.slice (some ⟨g,0,none⟩) l.length cap]/\Blk wr w.heap.size 26 [.int .i64 e,.slice av l.length cv]/\Blk wr (w.heap.size+1) 26 [.int .i64 0,.slice none 0 0]/\Below w.heap.size w wr) (fun iv _=>l.length - (intOf iv).toNat)
    case atStart=>exact ⟨0,Z,by omega,rfl,by rw [frK_zero];exact HZ.out,by rw [<- hs2];exact HG6.out,N6.out,K16.out,K26.out,HB6.out⟩
    case round =>
      obtain ⟨i,Y,hi,rfl,hY,hG,m,ka,kr,hb⟩:=hrel
      obtain ⟨wo,rfl⟩:∃ x,x=wr:=⟨_,rfl⟩
      clear HG6 N6 K16 K26 HB6 HZ d0 m0 m0f m1 hw6
      have hYl:=hG.len
      have hcap:=hG.caps
      have e0:=m.cell 0
      have e1:=m.cell 1
      simp only [List.getElem?_cons_zero,List.getElem?_cons_succ] at e0 e1
      by_cases hlt:i < l.length
      · have hiY:i < Y.length:=by omega
        have hYi:Y[i].1=l[i]:=by rw [fst_get hY i hiY (by rw [frK_len];exact hlt),frK_at _ _ _ hlt]
        obtain ⟨c0,c1,c2,c3,c4⟩:=hG.at i hiY
        have hown:=hG.lvs.own i hiY
        have hlen:=Hall.out l[i] (List.getElem_mem _)
        have Hnx:=hide (frK_next (wrap64 (e+1)) l i hlt)
        rw [<- hYi] at Hnx hlen
        have hshape:=hown.rd.shape
        obtain ⟨q,hq⟩:∃ q,Y[i]=q:=⟨_,rfl⟩
        rw [hq] at c0 c1 c2 c3 c4 hown hlen Hnx hshape
        obtain ⟨⟨nm,fr,no,st,ls⟩,lv⟩:=q
        simp only at c0 c1 c2 c3 c4 hown hlen Hnx hshape
        obtain ⟨av',cv',rfl⟩:=hshape
        have hli:(i:Int) < (l.length:Int):=by omega
        have hgl:=hG.lt
        have hbl:=hb.size
        have hml:=m.lt
        have HS0:Hid (OwnL wo.heap.size (wo.alloc (.cells #[] 107)) (.slice (some ⟨wo.heap.size,0,none⟩) 0 0) []):=hide (own_nilL wo _ (Nat.le_refl _))
        have HG:=hide hG
        have HM:=hide m
        have HA:=hide ka
        have HR:=hide kr
        have HB:=hide hb
        have HQ:=hide hq
        have Hown:=hide hown
        have HY:=hide hY
        have hset0:Y.set i ((nm,fr,no,st,ls),.slice av' ls.length cv')=Y:=by rw [<- hq];simp
        have Hset0:=hide hset0
        have HlowS:Hid (∀ (a:Ac) j (hj:j < (Y.set i (a,Value.slice av' ls.length cv')).length) r,(Y.set i (a,Value.slice av' ls.length cv'))[j].2.ownBlock=some r->r < wo.heap.size):=hide (fun a j hj r hr=>by
          rw [List.getElem_set] at hr
          split at hr
          · exact hown.lt r hr
          · exact (hG.lvs.own j (by simpa using hj)).lt r hr)
        clear hG m ka kr hb hq hown hY hYi hset0
        go_wp2
        go_loopw [6,7] (fun sv kv wq=>∃ k:Nat,k<=ls.length/\kv=.int .i64 (k:Int)/\OwnL wo.heap.size wq sv (stL (wrap64 (e+1)) (ls.take k))/\RowG (w.heap.size+2) wq g l.length cap (Y.set i ((nm,frF (wrap64 (e+1)) fr (ls.take k),no,st,ls),.slice av' ls.length cv'))/\Blk wq w3.heap.size 26 [.int .i64 (wrap64 (e+1)),.slice (some ⟨g,0,none⟩) l.length cap]/\Blk wq w.heap.size 26 [.int .i64 e,.slice av l.length cv]/\Blk wq (w.heap.size+1) 26 [.int .i64 0,.slice none 0 0]/\Below w.heap.size w wq/\wo.heap.size < wq.heap.size) (fun _ kv _=>ls.length - (intOf kv).toNat)
        case atStart=>exact ⟨0,by omega,rfl,HS0.out,by rw [List.take_zero];show RowG _ _ _ _ _ (Y.set i ((nm,fr,no,st,ls),.slice av' ls.length cv'));rw [Hset0.out];exact HG.out.below ((Below.refl _ wo).alloc (Nat.le_refl _) _) (Nat.le_refl _),HM.out.alloc _,HA.out.alloc _,HR.out.alloc _,HB.out.alloc hbl _,by simp⟩
        case round =>
          obtain ⟨k,hk,rfl,ho,hG,m,ka,kr,hb,hsz⟩:=hrel
          clear c0 c1 c2 c3 c4 e0 e1
          have hiS:i < (Y.set i ((nm,frF (wrap64 (e+1)) fr (ls.take k),no,st,ls),.slice av' ls.length cv')).length:=by simpa using hiY
          have hat:=hG.at i hiS
          have hown:=hG.lvs.own i hiS
          rw [set_get] at hat hown
          obtain ⟨c0,c1,c2,c3,c4⟩:=hat
          simp only at c0 c1 c2 c3 c4 hown
          by_cases hkl:k < ls.length
          · obtain ⟨b,off,rfl,hc1,hc2,hbw,x0,x1⟩:=hown.rd.at hkl
            have HF:=hide (frF_snoc (wrap64 (e+1)) fr ls k hkl)
            have HS:=hide (stL_snoc (wrap64 (e+1)) ls k hkl)
            have hsl:=stL_len (wrap64 (e+1)) (ls.take k)
            have htl:(ls.take k).length<=k:=by simp;omega
            generalize ls[k]=x at x0 x1 HF HS
            obtain ⟨xa,xt⟩:=x
            simp only at x0 x1 HF HS
            have hkli:(k:Int) < (ls.length:Int):=by omega
            have hgl2:=hG.lt
            have hbo:b < wr.heap.size:=hbw
            have Ho:=hide ho
            have HG2:=hide hG
            have M2:=hide m
            have A2:=hide ka
            have R2:=hide kr
            have B2:=hide hb
            have fz:=hG.frozen (i * 5+1)
            have z0:=m.cell 0
            simp only [List.getElem?_cons_zero] at z0
            clear ho hG m ka kr hb hown
            by_cases h1:xt<=wrap64 (e+1)
            · rw [if_pos h1] at HF HS
              go_wp2
              go_quiet (fail)
              go_wp2
              refine region_tail 14 (by kernel_rfl) (by kernel_rfl) ?_
              simp only [List.take_succ_cons,List.take_zero,List.drop_succ_cons,List.drop_zero]
              repeat still_step
              refine wpStill_nil ?_
              have bN:=below_drewN (Below.refl wr.heap.size wr) (nq+1)
              have HP:=hide ((HG2.out.below bN (Nat.le_refl _)).put i hiS 1 (by omega) (.int .i64 (frF (wrap64 (e+1)) fr (ls.take (k+1)))) ((nm,frF (wrap64 (e+1)) fr (ls.take (k+1)),no,st,ls),.slice (some ⟨b,off,none⟩) ls.length cv') (by rw [set_get];rfl) (by rw [set_get];rfl))
              rw [List.set_set,HF.out] at HP
              have hOg:∀ j,u6.ownBlock=some j->j ≠ g:=fun j hj=>by have:=Ho.out.ge j hj;omega
              go_wp2
              go_roundw
              case rel =>
                refine ⟨k+1,by omega,by go_num,?_,?_,?_,?_,?_,?_,?_⟩
                · rw [HS.out];exact row_set Ho.out g (i * 5+1) _ hOg
                · rw [HF.out];exact HP.out
                · exact M2.out.other _ _ _ (by omega)
                · exact A2.out.other _ _ _ (by omega)
                · exact R2.out.other _ _ _ (by omega)
                · exact (B2.out.trans (bN.mono B2.out.size)).setCell (p:=⟨g,i * 5+1,none⟩) (by show w.heap.size<=g;omega) _
                · simpa using hsz
              case measure=>simp [intOf];omega
            · rw [if_neg h1] at HF HS
              have hbs:=B2.out.size
              go_wp2
              go_quiet (fail)
              have bN:=below_drewN (Below.refl wr.heap.size wr) nq
              have HoN:=hide (Ho.out.below bN (Nat.le_refl _))
              go_wp2_with (at_builtin;refine app_ownLg _ rfl _ _ rfl wo.heap.size _ _ (stL (wrap64 (e+1)) (ls.take k)) [(xa,xt)] rfl rfl (HoN.out.alloc _) (rd_one_lv _ _ xa xt (by first | rfl | simp)) (by simp;omega) (by simp;omega) ?_;intro v1 w1 ho1 hg1)
              have bA:=bN.alloc (by simp) (.cells #[.int .i64 xa,.int .i64 xt] 107)
              have hgs:wr.heap.size+1<=w1.heap.size:=by simpa using hg1.size
              go_roundw
              case rel =>
                refine ⟨k+1,by omega,by go_num,?_,?_,?_,?_,?_,?_,?_⟩
                · rw [HS.out];exact ho1
                · rw [HF.out];exact (HG2.out.below bA (Nat.le_refl _)).kept hg1 (fun e=>by have:=Ho.out.ge _ e;omega) (fun j hj q hq e=>by
                    have h2:=Ho.out.ge _ e
                    have h3:=HlowS.out _ j hj q hq
                    omega)
                · exact (M2.out.below bA M2.out.lt).kept' hg1 (fun e=>by have:=Ho.out.ge _ e.symm;omega)
                · exact (A2.out.below bA A2.out.lt).kept' hg1 (fun e=>by have:=Ho.out.ge _ e.symm;omega)
                · exact (R2.out.below bA R2.out.lt).kept' hg1 (fun e=>by have:=Ho.out.ge _ e.symm;omega)
                · exact (B2.out.trans (bA.mono hbs)).grown hg1 (by simp;omega) (fun k hk=>by have:=Ho.out.ge _ hk;omega)
                · omega
              case measure=>simp [intOf];omega
          · have ek:k=ls.length:=by omega
            subst ek
            rw [List.take_length] at ho hG
            have fz4:=hG.frozen (i * 5+4)
            obtain ⟨a6,cv6,rfl⟩:=ho.rd.shape
            have hgl2:=hG.lt
            have hge:=ho.ge
            have HP:=hide (hG.putL i (by simpa using hiY) ((nm,frF (wrap64 (e+1)) fr ls,no,st,stL (wrap64 (e+1)) ls),.slice a6 (stL (wrap64 (e+1)) ls).length cv6) (by rw [set_get];rfl) (ho.mono (by omega)) (fun b hb=>by have:=hge b hb;omega) (fun j hj _ b hb e=>by have h3:=HlowS.out _ j hj b hb;have:=hge b e;omega))
            rw [List.set_set] at HP
            have HY2:Hid ((Y.set i ((nm,frF (wrap64 (e+1)) fr ls,no,st,stL (wrap64 (e+1)) ls),.slice a6 (stL (wrap64 (e+1)) ls).length cv6)).map (·.1)=frK (wrap64 (e+1)) l (i+1)):=hide (by rw [fst_set,HY.out];exact Hnx.out)
            have HM2:=hide (m.other g (i * 5+4) (.slice a6 (stL (wrap64 (e+1)) ls).length cv6) (by omega))
            have HA2:=hide (ka.other g (i * 5+4) (.slice a6 (stL (wrap64 (e+1)) ls).length cv6) (by omega))
            have HR2:=hide (kr.other g (i * 5+4) (.slice a6 (stL (wrap64 (e+1)) ls).length cv6) (by omega))
            have HB2:=hide (hb.setCell (p:=⟨g,i * 5+4,none⟩) (by show w.heap.size<=g;omega) (.slice a6 (stL (wrap64 (e+1)) ls).length cv6))
            clear ho hG m ka kr hb hown hge
            go_wp2
            go_roundw
            case rel=>exact ⟨i+1,_,by omega,by go_num,HY2.out,HP.out,HM2.out,HA2.out,HR2.out,HB2.out⟩
            case measure=>simp [intOf];omega
      · have ei:i=l.length:=by omega
        subst ei
        rw [frK_all] at hY
        have o7:=hG.own
        rw [hY] at o7
        have hml:=m.lt
        have hgl:=hG.lt
        clear hG
        go_wp2_with fail
        refine (HN.out _ _ o7.rd).mono ?_
        rintro en w8 ⟨rfl,hb8⟩
        have hB8:Below w.heap.size w w8:=hb.trans (hb8.mono hb.size)
        have m8:=m.below hb8 m.lt
        have ka8:=ka.below hb8 ka.lt
        have kr8:=kr.below hb8 kr.lt
        have o8:=o7.below hb8 (Nat.le_refl _)
        have hz8:=hb8.size
        clear m ka kr o7
        cases h2:lgB (wrap64 (e+1)) (l.map (frA (wrap64 (e+1))))
        · have Hne:=hide (Hno2.out h2)
          have d0:=ka8.cell 0
          have d1:=ka8.cell 1
          simp only [List.getElem?_cons_zero,List.getElem?_cons_succ] at d0 d1
          clear Hno2 Hyes h2 o8
          go_wp2_with fail
          refine (HD.out _ (Hr0.out.below hB8 (Nat.le_refl _))).mono ?_
          rintro en w9 ⟨v9,rfl,ho9,hb9⟩
          have k9:=kr8.below hb9 kr8.lt
          obtain ⟨a9,cv9,rfl⟩:=ho9.rd.shape
          have r0:=k9.cell 0
          have r1:=k9.cell 1
          have g0:=k9.frozen 0
          have g1:=k9.frozen 1
          simp only [List.getElem?_cons_zero,List.getElem?_cons_succ] at r0 r1
          have Ho:=hide (((ho9.older (g:=w.heap.size+1) (by omega) 0 (.int .i64 e)).older (g:=w.heap.size+1) (by omega) 1 (.slice a9 l.length cv9)).mono (show w.heap.size<=_ by omega))
          have HB:=hide (((hB8.trans (hb9.mono hB8.size)).setCell (p:=⟨w.heap.size+1,0,none⟩) (show w.heap.size<=w.heap.size+1 by omega) (.int .i64 e)).setCell (p:=⟨w.heap.size+1,1,none⟩) (show w.heap.size<=w.heap.size+1 by omega) (.slice a9 l.length cv9))
          clear ho9 hb9 k9
          go_wp2
          refine bodyPost_ret (v:=.agg #[.int .i64 e,.slice a9 l.length cv9]) (by simp [results,Tryz.f83,go_sem,r0,r1]) rfl ?_
          rw [Hne.out]
          exact ⟨_,rfl,Ho.out,HB.out⟩
        · have Hne:=hide (Hyes.out h2)
          have d0:=m8.cell 0
          have d1:=m8.cell 1
          have r0:=kr8.cell 0
          have r1:=kr8.cell 1
          have g0:=kr8.frozen 0
          have g1:=kr8.frozen 1
          simp only [List.getElem?_cons_zero,List.getElem?_cons_succ] at d0 d1 r0 r1
          have Ho:=hide (((o8.older (g:=w.heap.size+1) (by omega) 0 (.int .i64 (wrap64 (e+1)))).older (g:=w.heap.size+1) (by omega) 1 (.slice (some ⟨g,0,none⟩) l.length cap)).mono (show w.heap.size<=_ by omega))
          have HB:=hide ((hB8.setCell (p:=⟨w.heap.size+1,0,none⟩) (show w.heap.size<=w.heap.size+1 by omega) (.int .i64 (wrap64 (e+1)))).setCell (p:=⟨w.heap.size+1,1,none⟩) (show w.heap.size<=w.heap.size+1 by omega) (.slice (some ⟨g,0,none⟩) l.length cap))
          clear Hno2 Hyes h2 o8 ka8 kr8 m8
          go_wp2
          refine bodyPost_ret (v:=.agg #[.int .i64 (wrap64 (e+1)),.slice (some ⟨g,0,none⟩) l.length cap]) (by simp [results,Tryz.f83,go_sem,r0,r1]) rfl ?_
          rw [Hne.out]
          exact ⟨_,rfl,Ho.out,HB.out⟩
set_option linter.unusedSimpArgs false
theorem specMakeBody_any (e:Int) (v vl vt:Value) (z:List Ac) (l:List Bk) (id:Int) (ts:List Tx5) (w:World) (hr:RdA w v z) (hrl:RdKs w vl l) (hrt:RdT w vt ts) (hz:z.length<=3999999) (hall:∀ a ∈ z,a.1.size<=maxLen/\a.2.2.2.2.length<=3999999) (hl:l.length<=4000000) (hf:∀ b ∈ l,FewK b) (hbd:∀ b ∈ l,-9223372036854775808<=b.tr/\b.tr<=9223372036854775807) (hts:ts.length<=4000000) (hta:∀ t ∈ ts,t.2.1.size<=maxLen/\t.2.2.1.size<=maxLen) :
    Calls Tryz.prog 36 #[lgV e v,vl,.int .i64 id,vt] w fun en w'=>∃ vg vn,en=.returned (.tuple #[vg,.bool (bdA e z l id ts 4).1.en,vn,.string (bdA e z l id ts 4).1.rt])/\OwnT w.heap.size w' vg (bdA e z l id ts 4).1.ts/\OwnV w.heap.size w' vn (bdA e z l id ts 4).1.nx/\Below w.heap.size w w':=by
  obtain ⟨av,cv,rfl⟩:=hr.shape
  obtain ⟨al,cl,rfl⟩:=hrl.shape
  obtain ⟨at_,ct,rfl⟩:=hrt.shape
  have HTh:=hide (fun V (hV:Below w.heap.size w V)=>specThere_any (.slice al l.length cl) l id V (hrl.below hV (Nat.le_refl _)) hl hf hbd)
  have HEn:=hide (fun ht V (hV:Below w.heap.size w V)=>specEndedC_any (.slice al l.length cl) l id V (hrl.below hV (Nat.le_refl _)) hl ht)
  have HCh:=hide (fun ht V (hV:Below w.heap.size w V)=>specChain_any (.slice al l.length cl) l id V (hrl.below hV (Nat.le_refl _)) hl ht)
  have HAt:=hide (fun ht V (hV:Below w.heap.size w V)=>specL11At_any e (.slice av z.length cv) (.slice al l.length cl) z l id V (hr.below hV (Nat.le_refl _)) (hrl.below hV (Nat.le_refl _)) hz hall hl hf ht)
  have hfo:=foL_few (e:=e) l (chA l id) z hz hall
  have hga:=gdA_few (e:=e) (l:=foL e z l (chA l id)) ts 4 hfo.1 hfo.2
  have hne9:=neA_few (e:=e) hga.1 hga.2
  have Hfew:=hide (fun k=>gdA_few (e:=e) (l:=foL e z l (chA l id)) (ts.take k) 4 hfo.1 hfo.2)
  have HNx:=hide (fun V v h=>specNext_any e v (gdA e (foL e z l (chA l id)) ts 4).1 V h (by omega) (fun a ha=>by have:=hga.2 a ha;omega))
  have HSe:=hide (fun V v h=>specSetOf_any (neA e (gdA e (foL e z l (chA l id)) ts 4).1).1 v (neA e (gdA e (foL e z l (chA l id)) ts 4).1).2 V h (by omega) (fun a ha=>by have:=hne9.2 a ha;omega))
  have HSr:=hide (fun V v h=>specStateRoot_any (neA e (gdA e (foL e z l (chA l id)) ts 4).1).1 v (neA e (gdA e (foL e z l (chA l id)) ts 4).1).2 V h (by omega) (fun a ha=>by have:=hne9.2 a ha;omega))
  have HCf:Hid (thB l id=true->bdA e z l id ts 4=(bdC e z l (chA l id) ts 4,true)):=hide (fun h=>by
    have h2:=(thB_is l id).1 h
    have h3:chT l id=chA l id:=by unfold chT;rw [if_pos h2.1]
    unfold bdA;rw [if_pos h2,h3])
  have HCn:Hid (¬ thB l id=true->bdA e z l id ts 4=(⟨[],false,[],{ data:=#[] }⟩,false)):=hide (fun h=>by unfold bdA;rw [if_neg (fun k=>h ((thB_is l id).2 k))])
  have Hbc:=hide (fun h=>bdC_x (e:=e) (z:=z) (l:=l) (C:=chA l id) (ts:=ts) (most:=4) h)
  have Hbe:Hid ((chA l id).any (enAt l)=true->bdC e z l (chA l id) ts 4=⟨[],false,[],{ data:=#[] }⟩):=hide (fun h=>by unfold bdC;rw [if_pos h])
  generalize bdA e z l id ts 4=R at HCf HCn ⊢
  generalize bdC e z l (chA l id) ts 4=RC at HCf Hbc Hbe
  generalize foL e z l (chA l id)=Z at HAt Hfew HNx HSe HSr Hbc
  simp only [lgV] at HAt HNx HSe HSr ⊢
  have Hrt:=hide hrt
  have Hta:=hide hta
  obtain ⟨w1,hw1⟩:∃ w1,w.alloc (.cells #[.int .i64 e,.slice av z.length cv] 26)=w1:=⟨_,rfl⟩
  have hb1:Below w.heap.size w w1:=by rw [<- hw1];exact (Below.refl _ w).alloc (Nat.le_refl _) _
  have k1:Blk w1 w.heap.size 26 [.int .i64 e,.slice av z.length cv]:=by rw [<- hw1];exact Blk.new w _ _
  obtain ⟨w2,hw2⟩:∃ w2,w1.alloc (.cells #[] 35)=w2:=⟨_,rfl⟩
  have hb2:Below w1.heap.size w1 w2:=by rw [<- hw2];exact (Below.refl _ w1).alloc (Nat.le_refl _) _
  have O2:Hid (OwnT w.heap.size w2 (.slice (some ⟨w1.heap.size,0,none⟩) 0 0) []):=hide (by rw [<- hw2];exact own_nilT w1 _ hb1.size)
  have s1:w1.heap.size < w2.heap.size:=by rw [<- hw2];simp
  have Hb2:=hide (hb1.trans (hb2.mono hb1.size))
  have K2:=hide (k1.below hb2 k1.lt)
  clear hr hrl hrt hall hf hbd hta hb1 hb2 k1 hfo hga hne9
  go_enter Tryz.func36,Tryz.ntmps36
  go_wp2_with fail
  refine (HTh.out w2 Hb2.out).mono ?_
  rintro en w3 ⟨rfl,hb3⟩
  have B3:=hide (Hb2.out.trans (hb3.mono Hb2.out.size))
  have O3:=hide (O2.out.below hb3 (Nat.le_refl _))
  by_cases hth:thB l id=true
  · rw [hth]
    have HR:=hide (HCf.out hth)
    have htr:=hide (treeP_of ((thB_is l id).1 hth).1)
    clear HCf HCn hth
    go_wp2_with fail
    refine (HEn.out htr.out w3 B3.out).mono ?_
    rintro en w4 ⟨rfl,hb4⟩
    have B4:=hide (B3.out.trans (hb4.mono B3.out.size))
    have O4:=hide (O3.out.below hb4 (Nat.le_refl _))
    by_cases hany:(chA l id).any (enAt l)=true
    · have HQ:=hide (Hbe.out hany)
      rw [hany]
      have BV:=hide (B4.out.alloc (Nat.le_trans B4.out.size (Nat.le_refl _)) (.cells #[] 124))
      have OV:=hide (own_nilV w4 w.heap.size B4.out.size)
      have OT:=hide (O4.out.below ((Below.refl _ w4).alloc (Nat.le_refl _) (.cells #[] 124)) (Nat.le_refl _))
      clear hany
      go_wp2
      refine bodyPost_ret (v:=.tuple #[.slice (some ⟨w1.heap.size,0,none⟩) 0 0,.bool false,.slice (some ⟨w4.heap.size,0,none⟩) 0 0,.string { data:=#[] }]) (by simp [results,Tryz.f36,go_sem]) rfl ?_
      rw [HR.out,HQ.out]
      exact ⟨_,_,rfl,OT.out,OV.out,BV.out⟩
    · have hanf : (chA l id).any (enAt l)=false:=by simpa using hany
      have HQ:=hide (Hbc.out hany)
      rw [hanf]
      clear hany hanf Hbc Hbe
      have k4:=(K2.out.below hb3 K2.out.lt).below hb4 (Nat.lt_of_lt_of_le K2.out.lt hb3.size)
      have x0:=k4.cell 0
      have x1:=k4.cell 1
      simp only [List.getElem?_cons_zero,List.getElem?_cons_succ] at x0 x1
      go_wp2_with fail
      refine (HAt.out htr.out w4 B4.out).mono ?_
      rintro en w5 ⟨v5,rfl,o5,hb5⟩
      obtain ⟨a5,c5,hv5⟩:=o5.rd.shape
      subst hv5
      obtain ⟨w6,hw6⟩:∃ w6,w5.alloc (.cells #[.int .i64 e,.slice a5 Z.length c5] 26)=w6:=⟨_,rfl⟩
      have b6:Below w5.heap.size w5 w6:=by rw [<- hw6];exact (Below.refl _ w5).alloc (Nat.le_refl _) _
      have Hk:Hid (Blk w6 w5.heap.size 26 [.int .i64 e,.slice a5 Z.length c5]):=hide (by rw [<- hw6];exact Blk.new w5 _ _)
      have B5:=B4.out.trans (hb5.mono B4.out.size)
      have hgB:w.heap.size<=w5.heap.size:=B5.size
      have XA:=hide ((kpA_own o5 B5.size).below b6)
      have Ho:=hide ((O4.out.below hb5 (Nat.le_refl _)).below b6 (Nat.le_refl _))
      have Hb:=hide (B5.trans (b6.mono B5.size))
      have z3:=hb3.size
      have z4:=hb4.size
      have z5:=hb5.size
      have h15:w1.heap.size < w4.heap.size:=by omega
      have Hw6:=hide hw6
      clear x0 x1 k4 o5 hb3 hb4 hb5 b6 B5 K2 HTh HEn HAt B3 O3 B4 O4 O2 Hb2 hw1 hw2 hw6
      go_wp2
      rw [Hw6.out]
      go_loopw [12,14] (fun ov iv wr=>∃ (i:Nat) (a ga:Option Addr) (c gc base hi:Nat),i<=ts.length/\iv=.int .i64 (i:Int)/\ov=.slice ga (gdA e Z (ts.take i) 4).2.length gc/\Blk wr w5.heap.size 26 [.int .i64 e,.slice a (gdA e Z (ts.take i) 4).1.length c]/\KpA w.heap.size base hi wr (.slice a (gdA e Z (ts.take i) 4).1.length c) (gdA e Z (ts.take i) 4).1/\OwnT w.heap.size wr (.slice ga (gdA e Z (ts.take i) 4).2.length gc) (gdA e Z (ts.take i) 4).2/\(∀ k,(Value.slice ga (gdA e Z (ts.take i) 4).2.length gc).ownBlock=some k->k < base\/hi<=k)/\(∀ k,(Value.slice ga (gdA e Z (ts.take i) 4).2.length gc).ownBlock=some k->k ≠ w5.heap.size)/\(gdA e Z (ts.take i) 4).2.length<=4/\(w5.heap.size < base\/hi<=w5.heap.size)/\w.heap.size<=wr.heap.size/\Below w.heap.size w wr) (fun _ iv _=>ts.length - (intOf iv).toNat)
      case atStart=>exact ⟨0,a5,some ⟨w1.heap.size,0,none⟩,c5,0,w4.heap.size,w5.heap.size,by omega,rfl,rfl,Hk.out,XA.out,Ho.out,(fun k hk=>.inl (by simp [Value.ownBlock] at hk;omega)),(fun k hk=>by simp [Value.ownBlock] at hk;omega),by simp [gdA],.inr (Nat.le_refl _),by have:=Hb.out.size;omega,Hb.out⟩
      case round =>
        obtain ⟨i,a,ga,c,gc,base,hi,hi1,rfl,rfl,kO,x,hG,hap,hng,h4,hdis,hsz,hb⟩:=hrel
        clear Ho Hk Hb XA Hw6
        have hwr:=hb.size
        have hO:=kO.lt
        have few:=Hfew.out i
        have hnl:=gdA_len e Z (ts.take i) 4
        have htk:(ts.take i).length<=i:=by simp;omega
        by_cases hgo:i < ts.length/\(gdA e Z (ts.take i) 4).2.length < 4
        · obtain ⟨hlt,h3⟩:=hgo
          have h3':=h3
          clear h3
          obtain ⟨b,off,rfl,hc1,hc2,hbw,hT⟩:=Hrt.out.at hlt
          have htx:=Hta.out ts[i] (List.getElem_mem _)
          have Hsn:=hide (gdA_snoc e Z ts 4 i hlt)
          have hne:(gdA e Z (ts.take i) 4).2.length ≠ 4:=by omega
          obtain ⟨s,hs⟩:∃ s,gdA e Z (ts.take i) 4=s:=⟨_,rfl⟩
          rw [hs] at kO x hG hap hng h4 few hnl Hsn hne ⊢
          obtain ⟨P,G⟩:=s
          simp only at kO x hG hap hng h4 few hnl hne ⊢
          have HA:=hide (fun V v h=>specApply_any e v P ts[i] V h few.1 few.2 htx.1 htx.2)
          have Hgd:=hide (gdS_good (e:=e) (most:=4) (s:=(P,G)) (t:=ts[i]) hne)
          have Hbd:=hide (gdS_bad (e:=e) (most:=4) (s:=(P,G)) (t:=ts[i]) hne)
          simp only at Hgd Hbd
          have HTw:=hide hT
          generalize ts[i]=t at hT HA Hgd Hbd Hsn HTw
          generalize (apA e P t).1=A at HA Hgd
          generalize (apA e P t).2=C at HA Hgd Hbd
          obtain ⟨p0,p1,p2,p3,p4⟩:=hT
          have q0:=(hb.cell (p:=⟨b,off+i * 5,none⟩) hbw).trans p0
          have q1:=(hb.cell (p:=⟨b,off+i * 5+1,none⟩) hbw).trans p1
          have q2:=(hb.cell (p:=⟨b,off+i * 5+2,none⟩) hbw).trans p2
          have q3:=(hb.cell (p:=⟨b,off+i * 5+3,none⟩) hbw).trans p3
          have q4:=(hb.cell (p:=⟨b,off+i * 5+4,none⟩) hbw).trans p4
          obtain ⟨kd,fm,tn,am,nc⟩:=t
          simp only [lgV,txV] at q0 q1 q2 q3 q4 HA
          have hbr:b < wr.heap.size:=by omega
          have HS:Hid (∀ V,Below wr.heap.size wr V->(V.cell? ⟨w5.heap.size,0,none⟩=some (.int .i64 e)/\V.cell? ⟨w5.heap.size,1,none⟩=some (.slice a P.length c)/\V.cell? ⟨b,off+i * 5,none⟩=some (.int .i64 kd)/\V.cell? ⟨b,off+i * 5+1,none⟩=some (.string fm)/\V.cell? ⟨b,off+i * 5+2,none⟩=some (.string tn)/\V.cell? ⟨b,off+i * 5+3,none⟩=some (.int .i64 am)/\V.cell? ⟨b,off+i * 5+4,none⟩=some (.int .i64 nc))):=hide (fun V hv=>⟨(kO.below hv kO.lt).cell 0,(kO.below hv kO.lt).cell 1,(hv.cell (p:=⟨b,off+i * 5,none⟩) hbr).trans q0,(hv.cell (p:=⟨b,off+i * 5+1,none⟩) hbr).trans q1,(hv.cell (p:=⟨b,off+i * 5+2,none⟩) hbr).trans q2,(hv.cell (p:=⟨b,off+i * 5+3,none⟩) hbr).trans q3,(hv.cell (p:=⟨b,off+i * 5+4,none⟩) hbr).trans q4⟩)
          have bD:Below wr.heap.size wr wr.drew:=(Below.refl _ wr).drew
          have bE:Below wr.heap.size wr (wr.alloc (.cells #[.int .i64 0,.slice none 0 0] 26)).drew:=((Below.refl _ wr).alloc (Nat.le_refl _) _).drew
          have nE:Blk (wr.alloc (.cells #[.int .i64 0,.slice none 0 0] 26)).drew wr.heap.size 26 [.int .i64 0,.slice none 0 0]:=Blk.new wr 26 [.int .i64 0,.slice none 0 0]
          have rD:=x.rd.below bD (Nat.le_refl _)
          have rE:=x.rd.below bE (Nat.le_refl _)
          have zD:wr.drew.heap.size=wr.heap.size:=rfl
          have zE:(wr.alloc (.cells #[.int .i64 0,.slice none 0 0] 26)).drew.heap.size=wr.heap.size+1:=by simp
          have HL:Hid (∀ (V:World) (v:Value),RdA V v A->∃ a c,v=.slice a A.length c):=hide (fun V v h=>h.shape)
          have hli:(i:Int) < (ts.length:Int):=by omega
          have KO:=hide kO
          have Xx:=hide x
          have Hb:=hide hb
          have HG:=hide hG
          have Hap:=hide hap
          have Hng:=hide hng
          have hl3:G.length+1<=4:=by omega
          have hgi:(G.length:Int) < 4:=by omega
          have hgl:G.length<=4000000:=by omega
          clear kO x hb hG hap hng h4 p0 p1 p2 p3 p4 q0 q1 q2 q3 q4 few htx hs hne
          go_upto_region 8 with fail
          go_cut [15,16] (fun sp sc wc=>∃ (B:Nat) (a':Option Addr) (c' base' hi':Nat),sp=.pointer (some ⟨B,0,none⟩)/\sc=.int .i64 C/\Blk wc B 26 [.int .i64 e,.slice a' A.length c']/\OwnX base' hi' wc (.slice a' A.length c') A/\wr.heap.size<=base'/\hi'<=wc.heap.size/\(B < base'\/hi'<=B)/\wr.heap.size<=B/\Below wr.heap.size wr wc)
          case first =>
            go_region_held_law (fun w'=>w'.cell? ⟨w5.heap.size,0,none⟩=some (.int .i64 e)/\w'.cell? ⟨w5.heap.size,1,none⟩=some (.slice a P.length c)/\w'.cell? ⟨b,off+i * 5,none⟩=some (.int .i64 kd)/\w'.cell? ⟨b,off+i * 5+1,none⟩=some (.string fm)/\w'.cell? ⟨b,off+i * 5+2,none⟩=some (.string tn)/\w'.cell? ⟨b,off+i * 5+3,none⟩=some (.int .i64 am)/\w'.cell? ⟨b,off+i * 5+4,none⟩=some (.int .i64 nc)) ((refine HS.out _ ?_;repeat (first | with_reducible exact bD | with_reducible exact bE | with_reducible exact bA | with_reducible exact Below.refl _ _ | refine Below.drew ?_ | refine Below.alloc ?_ (by first | omega | (simp;done) | (simp;omega) | (dsimp only;omega)) _ | refine Below.setCell ?_ (by first | omega | (simp;done) | (simp;omega) | (dsimp only;omega)) _))) ((first
              | (go_at_call 95;with_reducible refine (HA.out wr.drew _ rD).mono ?_;rintro e' wA ⟨vA,rfl,oA,hbA⟩;have bA:=bD.trans (hbA.mono bD.size);have zA:=hbA.size;have xA:=oA.ox;have hsh:=HL.out _ _ xA.rd;obtain ⟨aA,cA,hvA⟩:=hsh;subst hvA)
              | (go_at_call 95;with_reducible refine (HA.out (wr.alloc (.cells #[.int .i64 0,.slice none 0 0] 26)).drew _ rE).mono ?_;rintro e' wA ⟨vA,rfl,oA,hbA⟩;have bA:=bE.trans (hbA.mono bE.size);have zA:=hbA.size;have xA:=oA.ox;have hsh:=HL.out _ _ xA.rd;obtain ⟨aA,cA,hvA⟩:=hsh;subst hvA;have hBlt:=nE.lt;have nb:=nE.below hbA nE.lt;have y0:=nb.cell 0;have y1:=nb.cell 1;have y0f:=nb.frozen 0;have y1f:=nb.frozen 1;simp only [List.getElem?_cons_zero,List.getElem?_cons_succ] at y0 y1)))
            all_goals
              go_wp2_with fail
              go_meet
              case rel =>
                first
                  | exact ⟨wA.heap.size,aA,cA,_,wA.heap.size,rfl,rfl,Blk.new wA _ _,xA.below ((Below.refl _ wA).alloc (Nat.le_refl _) _) (Nat.le_refl _),by first | omega | (simp;omega),by simp,.inr (Nat.le_refl _),by omega,bA.alloc (by omega) _⟩
                  | exact ⟨_,aA,cA,_,wA.heap.size,rfl,rfl,(nb.set 0 _).set 1 _,(xA.old (by first | omega | (simp;done) | (simp;omega) | (dsimp only;omega)) _ _).old (by first | omega | (simp;done) | (simp;omega) | (dsimp only;omega)) _ _,by first | omega | (simp;omega),by simp,.inl (by first | omega | (simp;done) | (simp;omega) | (dsimp only;omega)),by omega,(bA.setCell (p:=⟨_,0,none⟩) (by dsimp only;omega) _).setCell (p:=⟨_,1,none⟩) (by dsimp only;omega) _⟩
          obtain ⟨w9,rfl⟩:∃ z,z=wc:=⟨_,rfl⟩
          obtain ⟨B9,a9,c9,base9,hi9,rfl,rfl,b9,x9,h9_1,h9_2,h9_3,h9_4,hb9⟩:=hcut
          clear HS bD bE nE rD rE zD zE
          have hB9:=Hb.out.trans (hb9.mono hwr)
          have k9:=KO.out.below hb9 KO.out.lt
          have hO9:=k9.lt
          by_cases hC:C=0
          · have Hs1c:=hide (Hsn.out.trans (Hgd.out hC))
            have HO9:=hide hO9
            obtain ⟨wS,hwS⟩:∃ z,((w9.setCell ⟨w5.heap.size,0,none⟩ (.int .i64 e)).setCell ⟨w5.heap.size,1,none⟩ (.slice a9 A.length c9))=z:=⟨_,rfl⟩
            have hzS:wS.heap.size=w9.heap.size:=by rw [<- hwS];simp [World.setCell]
            have hbS:Below w.heap.size w9 wS:=by rw [<- hwS];exact ((Below.refl _ w9).setCell (p:=⟨w5.heap.size,0,none⟩) hgB _).setCell (p:=⟨w5.heap.size,1,none⟩) hgB _
            have KS:Hid (Blk wS w5.heap.size 26 [.int .i64 e,.slice a9 A.length c9]):=hide (by rw [<- hwS];exact (k9.set 0 _).set 1 _)
            have hz9:=hb9.size
            have GS:Hid (OwnT w.heap.size wS (.slice ga G.length gc) G):=hide (by
              rw [<- hwS]
              exact row_set (row_set (HG.out.below hb9 (Nat.le_refl _)) w5.heap.size 0 _ (fun k hk=>Hng.out k hk)) w5.heap.size 1 _ (fun k hk=>Hng.out k hk))
            have XS:Hid (KpA w.heap.size base9 hi9 wS (.slice a9 A.length c9) A):=hide (by
              rw [<- hwS]
              exact ((kpA_ox x9 (by omega) h9_2).set (b:=w5.heap.size) hgB (.inl (by omega)) 0 (.int .i64 e)).set (b:=w5.heap.size) hgB (.inl (by omega)) 1 (.slice a9 A.length c9))
            have BS:=hide (hB9.trans hbS)
            have d0:=b9.cell 0
            have d1:=b9.cell 1
            have o0:=k9.cell 0
            have o1:=k9.cell 1
            have o0f:=k9.frozen 0
            have o1f:=k9.frozen 1
            simp only [List.getElem?_cons_zero,List.getElem?_cons_succ] at d0 d1 o0 o1
            obtain ⟨t0,t1,t2,t3,t4⟩:=HTw.out.below BS.out hbw
            simp only at t0 t1 t2 t3 t4
            have HB5:Below wS.heap.size wS (wS.alloc (.cells #[.int .i64 kd,.string fm,.string tn,.int .i64 am,.int .i64 nc] 35)):=(Below.refl _ wS).alloc (Nat.le_refl _) _
            have H5:=hide (Blk.new wS 35 [.int .i64 kd,.string fm,.string tn,.int .i64 am,.int .i64 nc])
            have G5:=hide (GS.out.below HB5 (Nat.le_refl _))
            have K5:=hide (KS.out.below HB5 KS.out.lt)
            have X5:=hide (XS.out.below HB5)
            have B5:=hide (BS.out.trans (HB5.mono BS.out.size))
            have HGlt:Hid (∀ k,(Value.slice ga G.length gc).ownBlock=some k->w.heap.size<=k/\k < wr.heap.size):=hide (fun k hk=>HG.out.lt k hk)
            have hsz9:w.heap.size<=w9.heap.size:=by omega
            have HB5':=hide HB5
            have HzS:=hide hzS
            have hszS:w.heap.size<=wS.heap.size:=by omega
            clear HB5 GS KS XS BS k9 x9 hB9 hb9 b9 Hgd Hbd Hsn Xx KO HG hbS Hap hzS
            subst hC
            go_wp2_with (at_builtin;(try rw [hwS]);refine app_ownT1 _ rfl _ _ rfl w.heap.size _ _ G (kd,fm,tn,am,nc) rfl rfl G5.out H5.out (by omega) (by simp;omega) ?_;intro v' w' ho' hg' hl';obtain ⟨a',c',rfl⟩:=ho'.rd.shape)
            have hin:Below w.heap.size (wS.alloc (.cells #[.int .i64 kd,.string fm,.string tn,.int .i64 am,.int .i64 nc] 35)) w':=(Below.refl _ _).grown hg' (by simp;omega) (fun k hk=>(HGlt.out k hk).1)
            go_roundw
            case rel =>
              refine ⟨i+1,a9,a',c9,c',base9,hi9,by omega,by go_num,by rw [Hs1c.out];simp,?_,?_,?_,?_,?_,by rw [Hs1c.out];simp;omega,.inl (by omega),by have:=hin.size;have:=HzS.out;simp at *;omega,B5.out.trans (hin.mono (by omega))⟩
              · rw [Hs1c.out];exact (hg'.block _ K5.out.lt (fun h=>(Hng.out _ h.symm) rfl)).trans K5.out
              · rw [Hs1c.out];exact X5.out.grown hg' (fun k hk=>by have:=HGlt.out k hk;exact ⟨by omega,.inl (by omega)⟩)
              · rw [Hs1c.out];exact ho'
              · rw [Hs1c.out]
                intro k hk
                rcases hl' with h | h
                · have hk2:(Value.slice ga G.length gc).ownBlock=some k:=h.symm.trans hk
                  have:=HGlt.out k hk2
                  exact .inl (by omega)
                · have hk2:some (wS.alloc (.cells #[.int .i64 kd,.string fm,.string tn,.int .i64 am,.int .i64 nc] 35)).heap.size=some k:=h.symm.trans hk
                  have:=Option.some.inj hk2
                  simp at this
                  have:=HzS.out
                  exact .inr (by omega)
              · rw [Hs1c.out]
                intro k hk
                rcases hl' with h | h
                · exact Hng.out k (h.symm.trans hk)
                · have hk2:some (wS.alloc (.cells #[.int .i64 kd,.string fm,.string tn,.int .i64 am,.int .i64 nc] 35)).heap.size=some k:=h.symm.trans hk
                  have:=Option.some.inj hk2
                  simp at this
                  have:=HzS.out
                  have:=HO9.out
                  omega
            case measure=>simp [intOf];omega
          · have Hs1c:=hide (Hsn.out.trans (Hbd.out hC))
            have K9:=hide k9
            have X9:=hide (Xx.out.below hb9)
            have G9:=hide (HG.out.below hb9 (Nat.le_refl _))
            have HB9:=hide hB9
            have hCb:(C == 0)=false:=by rw [beq_eq_false_iff_ne];exact hC
            have hz9:=hb9.size
            clear k9 x9 hB9 hb9 b9 Hgd Hbd Hsn Xx KO hC HG
            go_wp2
            go_roundw
            case rel =>
              refine ⟨i+1,a,ga,c,gc,base,hi,by omega,by go_num,by rw [Hs1c.out],?_,?_,?_,?_,?_,by rw [Hs1c.out];simp only;omega,hdis,by omega,HB9.out⟩
              · rw [Hs1c.out];exact K9.out
              · rw [Hs1c.out];exact X9.out
              · rw [Hs1c.out];exact G9.out
              · rw [Hs1c.out];exact Hap.out
              · rw [Hs1c.out];exact Hng.out
            case measure=>simp [intOf];omega
        · have He : gdA e Z (ts.take i) 4=gdA e Z ts 4:=by
            by_cases hA:i < ts.length
            · exact (gdA_full (by omega)).symm
            · rw [List.take_of_length_le (by omega)]
          rw [He] at kO x hG h4 hgo ⊢
          have hcase:(¬ (i:Int) < (ts.length:Int))\/((i:Int) < (ts.length:Int)/\¬ ((gdA e Z ts 4).2.length:Int) < 4):=by omega
          clear hap hng few hnl hgo He htk Hfew Hta Hrt
          generalize gdA e Z ts 4=AG at kO x hG HQ HNx HSe HSr hcase h4 ⊢
          obtain ⟨A,G⟩:=AG
          simp only at kO x hG HQ HNx HSe HSr hcase h4 ⊢
          have KO:=hide kO
          have X:=hide x
          have HG:=hide hG
          have HB:=hide hb
          clear kO x hG hdis hb
          rcases hcase with hA | ⟨hA,hB⟩
          all_goals
            go_wp2_with fail
            refine (HCh.out htr.out wr HB.out).mono ?_
            rintro en w7 ⟨x7,rfl,o7,hb7⟩
            obtain ⟨a7,c7,hx7⟩:=o7.rd.shape
            rw [List.length_map] at hx7
            subst hx7
            have B7:=hide (HB.out.trans (hb7.mono HB.out.size))
            have G7:=hide (HG.out.below hb7 (Nat.le_refl _))
            have k7:=KO.out.below hb7 KO.out.lt
            have X7:=hide (X.out.below hb7)
            clear o7 hb7 KO X HG HB
            by_cases hc1:(chA l id).length=1
            · have Hx:=hide (HQ.out.1 hc1)
              have hcb:(((chA l id).length:Int) == 1)=true:=by rw [hc1];rfl
              have y0:=k7.cell 0
              have y1:=k7.cell 1
              simp only [List.getElem?_cons_zero,List.getElem?_cons_succ] at y0 y1
              clear HQ hc1
              go_wp2_with fail
              refine (HNx.out w7 _ X7.out.rd).mono ?_
              rintro en w8 ⟨v8,rfl,o8,hb8⟩
              obtain ⟨a8,c8,rfl⟩:=o8.rd.shape
              generalize neA e A=NA at o8 HSe HSr Hx
              obtain ⟨ne,N⟩:=NA
              simp only at o8 HSe HSr Hx
              obtain ⟨w9,hw9⟩:∃ w9,w8.alloc (.cells #[.int .i64 ne,.slice a8 N.length c8] 26)=w9:=⟨_,rfl⟩
              have b9:Below w8.heap.size w8 w9:=by rw [<- hw9];exact (Below.refl _ w8).alloc (Nat.le_refl _) _
              have k9:Blk w9 w8.heap.size 26 [.int .i64 ne,.slice a8 N.length c8]:=by rw [<- hw9];exact Blk.new w8 _ _
              have z8:=hb8.size
              have z9:=b9.size
              have R9:=hide (o8.rd.below b9 (Nat.le_refl _))
              have G9:=hide ((G7.out.below hb8 (Nat.le_refl _)).below b9 (Nat.le_refl _))
              have B9:=hide ((B7.out.trans (hb8.mono B7.out.size)).trans (b9.mono (Nat.le_trans B7.out.size z8)))
              have HS9:Hid (∀ V,Below w9.heap.size w9 V->Calls Tryz.prog 85 #[.agg #[.int .i64 ne,.slice a8 N.length c8]] V fun en w'=>∃ v',en=.returned v'/\OwnV w9.heap.size w' v' (setA ne N)/\Below w9.heap.size w9 w'/\Below V.heap.size V w'):=hide (fun V hV=>(HSe.out V _ (R9.out.below hV (Nat.le_refl _))).mono (fun en w' ⟨v',h1,h2,h3⟩=>⟨v',h1,h2.mono hV.size,hV.trans (h3.mono hV.size),h3⟩))
              have HR9:Hid (∀ V,Below w9.heap.size w9 V->Calls Tryz.prog 86 #[.agg #[.int .i64 ne,.slice a8 N.length c8]] V fun en w'=>en=.returned (.string (srB ne N))/\Below w9.heap.size w9 w'/\Below V.heap.size V w'):=hide (fun V hV=>(HSr.out V _ (R9.out.below hV (Nat.le_refl _))).mono (fun en w' ⟨h1,h3⟩=>⟨h1,hV.trans (h3.mono hV.size),h3⟩))
              have K9:=hide k9
              have e0:=k9.cell 0
              have e1:=k9.cell 1
              have d0:w9.drew.cell? ⟨w8.heap.size,0,none⟩=_:=k9.cell 0
              have d1:w9.drew.cell? ⟨w8.heap.size,1,none⟩=_:=k9.cell 1
              simp only [List.getElem?_cons_zero,List.getElem?_cons_succ] at e0 e1 d0 d1
              have hwn:w.heap.size<=w9.heap.size:=B9.out.size
              clear y0 y1 o8 hb8 b9 k9 k7 HSe HSr HNx X7 G7 B7
              go_upto_region 15 with fail
              go_region_law (first
                | (go_simp;go_at_call 85;refine (HS9.out _ (by first | exact bR | exact Below.refl _ _ | exact (Below.refl _ _).drew)).mono ?_;rintro en wS ⟨vS,rfl,oS,bS,bS'⟩;have hsh:=oS.rd.shape;obtain ⟨aS,cS,hvS⟩:=hsh;subst hvS;have kS:=K9.out.below bS K9.out.lt;have m0:=kS.cell 0;have m1:=kS.cell 1;simp only [List.getElem?_cons_zero,List.getElem?_cons_succ] at m0 m1)
                | (go_simp;go_at_call 86;refine (HR9.out _ (by first | exact bS | exact Below.refl _ _ | exact (Below.refl _ _).drew)).mono ?_;rintro en wR ⟨rfl,bR,bR'⟩;have kR:=K9.out.below bR K9.out.lt;have n0:=kR.cell 0;have n1:=kR.cell 1;simp only [List.getElem?_cons_zero,List.getElem?_cons_succ] at n0 n1))
              all_goals
                go_wp2
                refine bodyPost_ret (v:=.tuple #[.slice ga G.length gc,.bool true,.slice aS (setA ne N).length cS,.string (srB ne N)]) (by simp [results,Tryz.f36,go_sem]) rfl ?_
                rw [HR.out,Hx.out]
                refine ⟨_,_,rfl,?_,?_,?_⟩
                · first
                    | with_reducible exact G9.out.below bS (Nat.le_refl _)
                    | with_reducible exact G9.out.below bR (Nat.le_refl _)
                · first
                    | with_reducible exact oS.mono (by omega)
                    | with_reducible exact (oS.below bR' (Nat.le_refl _)).mono (by omega)
                · first
                    | with_reducible exact B9.out.trans (bS.mono B9.out.size)
                    | with_reducible exact B9.out.trans (bR.mono B9.out.size)
            · have Hx:=hide (HQ.out.2 hc1)
              have hcb:(((chA l id).length:Int) == 1)=false:=by rw [beq_eq_false_iff_ne];omega
              have BV:=hide (B7.out.alloc B7.out.size (.cells #[] 124))
              have OV:=hide (own_nilV w7 w.heap.size B7.out.size)
              have OT:=hide (G7.out.below ((Below.refl _ w7).alloc (Nat.le_refl _) (.cells #[] 124)) (Nat.le_refl _))
              clear HQ hc1 k7
              go_wp2
              refine bodyPost_ret (v:=.tuple #[.slice ga G.length gc,.bool false,.slice (some ⟨w7.heap.size,0,none⟩) 0 0,.string { data:=#[] }]) (by simp [results,Tryz.f36,go_sem]) rfl ?_
              rw [HR.out,Hx.out]
              exact ⟨_,_,rfl,OT.out,OV.out,BV.out⟩
  · have htf:thB l id=false:=by simpa using hth
    have HR:=hide (HCn.out hth)
    rw [htf]
    have BV:=hide (B3.out.alloc B3.out.size (.cells #[] 124))
    have OV:=hide (own_nilV w3 w.heap.size B3.out.size)
    have OT:=hide (O3.out.below ((Below.refl _ w3).alloc (Nat.le_refl _) (.cells #[] 124)) (Nat.le_refl _))
    clear hth htf
    go_wp2
    refine bodyPost_ret (v:=.tuple #[.slice (some ⟨w1.heap.size,0,none⟩) 0 0,.bool false,.slice (some ⟨w3.heap.size,0,none⟩) 0 0,.string { data:=#[] }]) (by simp [results,Tryz.f36,go_sem]) rfl ?_
    rw [HR.out]
    exact ⟨_,_,rfl,OT.out,OV.out,BV.out⟩
end Go.Proofs.YtohachldbpejpaaGreatDoor
