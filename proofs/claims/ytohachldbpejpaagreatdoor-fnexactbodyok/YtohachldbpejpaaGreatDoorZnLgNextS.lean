/- The model's NextEpoch. -/
import Derived.Test.YtohachldbpejpaaGreatDoorZnLgWith
import Derived.Test.YtohachldbpejpaaGreatDoorZnLgLeave
import Derived.Test.YtohachldbpejpaaGreatDoorZnLgDoS
import Derived.Deep.QuietTactic
namespace Go.Proofs.YtohachldbpejpaaGreatDoor
open Go.RowKit
set_option linter.unusedVariables false
set_option maxRecDepth 20000 in
set_option maxHeartbeats 1000000 in
theorem specNext_any (e:Int) (v:Value) (l:List Ac) (w:World) (hr:RdA w v l) (hl:l.length<=4000000) (hall:∀ a ∈ l,a.1.size<=maxLen/\a.2.2.2.2.length<=4000000) :
    Calls Tryz.prog 83 #[lgV e v] w fun en w'=>∃ v',en=.returned (lgV (neA e l).1 v')/\OwnA w.heap.size w' v' (neA e l).2/\Below w.heap.size w w':=by
  obtain ⟨av,cv,rfl⟩:=hr.shape
  have hall2:∀ a ∈ l,a.2.2.2.2.length<=4000000:=fun a ha=>(hall a ha).2
  have hfa:=fr_all (wrap64 (e+1)) l hall
  obtain ⟨w2,hw2⟩:∃ w2,(w.alloc (.cells #[.int .i64 e,.slice av l.length cv] 26)).alloc (.cells #[.int .i64 0,.slice none 0 0] 26)=w2:=⟨_,rfl⟩
  have hs2:w2.heap.size=w.heap.size+2:=by rw [<- hw2];simp
  have hb2:Below w.heap.size w w2:=by rw [<- hw2];exact ((Below.refl _ w).alloc (Nat.le_refl _) _).alloc (by simp) _
  have k1:Blk w2 w.heap.size 26 [.int .i64 e,.slice av l.length cv]:=by
    rw [<- hw2]
    exact (Blk.new w 26 [.int .i64 e,.slice av l.length cv]).alloc _
  have k2:Blk w2 (w.heap.size+1) 26 [.int .i64 0,.slice none 0 0]:=by
    rw [<- hw2]
    have h:=Blk.new (w.alloc (.cells #[.int .i64 e,.slice av l.length cv] 26)) 26 [.int .i64 0,.slice none 0 0]
    simp only [World.size_alloc] at h
    exact h
  have c0:=k1.cell 0
  have c1:=k1.cell 1
  simp only [List.getElem?_cons_zero,List.getElem?_cons_succ] at c0 c1
  have r2:=hr.below hb2 (Nat.le_refl _)
  have HD:=hide (fun w hr=>specL6Copy_any e (.slice av l.length cv) l w hr hl hall2)
  have HO:=hide (fun w hr=>specLedgerOk_any e (.slice av l.length cv) l w hr hl hall)
  have HN:=hide (fun v w hr=>specLedgerOk_any (wrap64 (e+1)) v (l.map (frA (wrap64 (e+1)))) w hr (by simpa using hl) hfa)
  simp only [lgV] at HO HN HD ⊢
  have Hb2:=hide hb2
  have K1:=hide k1
  have K2:=hide k2
  have Hr2:=hide r2
  have Hr0:=hide hr
  have Hall:=hide hall2
  have Hno:Hid (lgB e l=false->neA e l=(e,l)):=hide neA_old
  have Hno2:Hid (lgB (wrap64 (e+1)) (l.map (frA (wrap64 (e+1))))=false->neA e l=(e,l)):=hide neA_new
  have Hyes:Hid (lgB e l=true->lgB (wrap64 (e+1)) (l.map (frA (wrap64 (e+1))))=true->neA e l=(wrap64 (e+1),l.map (frA (wrap64 (e+1))))):=hide neA_yes
  clear hr hb2 k1 k2 hall hall2 hfa r2
  go_enter Tryz.func83,Tryz.ntmps83
  go_wp2_with fail
  refine (HD.out _ Hr2.out).mono ?_
  rintro en w3 ⟨v3,rfl,ho3,hb3⟩
  have hB3:=Hb2.out.trans (hb3.mono Hb2.out.size)
  have hs3:=hb3.size
  obtain ⟨g,cap,Z,rfl,hZ,hG⟩:=ho3.rowG
  obtain ⟨w4,hw4⟩:∃ w4,w3.alloc (.cells #[.int .i64 e,.slice (some ⟨g,0,none⟩) l.length cap] 26)=w4:=⟨_,rfl⟩
  have b4:Below w3.heap.size w3 w4:=by rw [<- hw4];exact (Below.refl _ w3).alloc (Nat.le_refl _) _
  have hB4:Below w.heap.size w w4:=hB3.trans (b4.mono hB3.size)
  have n4:Blk w4 w3.heap.size 26 [.int .i64 e,.slice (some ⟨g,0,none⟩) l.length cap]:=by rw [<- hw4];exact Blk.new w3 _ _
  have k14:=(K1.out.below hb3 K1.out.lt).below b4 (K1.out.below hb3 K1.out.lt).lt
  have k24:=(K2.out.below hb3 K2.out.lt).below b4 (K2.out.below hb3 K2.out.lt).lt
  have hG4:=hG.below b4 (Nat.le_refl _)
  have r4:=(Hr2.out.below hb3 (Nat.le_refl _)).below b4 (Nat.le_refl _)
  have hs4:w4.heap.size=w3.heap.size+1:=by rw [<- hw4];simp
  have d0:=k14.cell 0
  have d1:=k14.cell 1
  simp only [List.getElem?_cons_zero,List.getElem?_cons_succ] at d0 d1
  have hgl:=hG.lt
  have hlo:∀ i (hi:i < Z.length) k,Z[i].2.ownBlock=some k->w3.heap.size ≠ k:=fun i hi k hk=>by have:=(hG.lvs.own i hi).lt k hk;omega
  clear c0 c1 K1 K2 hb3 hB3 ho3 b4 Hr2 hG
  go_wp2_with fail
  refine (HO.out _ r4).mono ?_
  rintro en w5 ⟨rfl,hb5⟩
  have hB5:Below w.heap.size w w5:=hB4.trans (hb5.mono hB4.size)
  have k15:=k14.below hb5 k14.lt
  have k25:=k24.below hb5 k24.lt
  have n5:=n4.below hb5 n4.lt
  have hG5:=hG4.below hb5 (Nat.le_refl _)
  have r5:=r4.below hb5 (Nat.le_refl _)
  have hz5:=hb5.size
  clear d0 d1 k14 k24 n4 hG4 r4 hB4
  cases h1:lgB e l
  · have Hne:=hide (Hno.out h1)
    have o5:=hG5.own
    rw [hZ] at o5
    have d0:=n5.cell 0
    have d1:=n5.cell 1
    have r0:=k25.cell 0
    have r1:=k25.cell 1
    have g0:=k25.frozen 0
    have g1:=k25.frozen 1
    simp only [List.getElem?_cons_zero,List.getElem?_cons_succ] at d0 d1 r0 r1
    have Ho:=hide (((o5.older (g:=w.heap.size+1) (by omega) 0 (.int .i64 e)).older (g:=w.heap.size+1) (by omega) 1 (.slice (some ⟨g,0,none⟩) l.length cap)).mono (show w.heap.size<=_ by omega))
    have HB:=hide ((hB5.setCell (p:=⟨w.heap.size+1,0,none⟩) (show w.heap.size<=w.heap.size+1 by omega) (.int .i64 e)).setCell (p:=⟨w.heap.size+1,1,none⟩) (show w.heap.size<=w.heap.size+1 by omega) (.slice (some ⟨g,0,none⟩) l.length cap))
    clear Hno Hno2 Hyes h1 o5 hG5 r5 k15 k25 n5
    go_wp2
    refine bodyPost_ret (v:=.agg #[.int .i64 e,.slice (some ⟨g,0,none⟩) l.length cap]) (by simp [results,Tryz.f83,go_sem,r0,r1]) rfl ?_
    rw [Hne.out]
    exact ⟨_,rfl,Ho.out,HB.out⟩
  · have Hyes := hide (Hyes.out h1)
    clear Hno h1
    obtain ⟨w6,hw6⟩:∃ w6,w5.setCell ⟨w3.heap.size,0,none⟩ (.int .i64 (wrap64 (e+1)))=w6:=⟨_,rfl⟩
    have n6:Blk w6 w3.heap.size 26 [.int .i64 (wrap64 (e+1)),.slice (some ⟨g,0,none⟩) l.length cap]:=by rw [<- hw6];exact n5.set 0 _
    have k16:Blk w6 w.heap.size 26 [.int .i64 e,.slice av l.length cv]:=by rw [<- hw6];exact k15.other _ _ _ (by omega)
    have k26:Blk w6 (w.heap.size+1) 26 [.int .i64 0,.slice none 0 0]:=by rw [<- hw6];exact k25.other _ _ _ (by omega)
    have hG6:RowG w2.heap.size w6 g l.length cap Z:=by rw [<- hw6];exact hG5.other _ _ _ (by omega) hlo
    have hB6:Below w.heap.size w w6:=by rw [<- hw6];exact hB5.setCell (p:=⟨w3.heap.size,0,none⟩) (by show w.heap.size<=w3.heap.size;omega) _
    have d0:=k15.cell 0
    have m0:=n5.cell 0
    have m0f:=n5.frozen 0
    have m1:=n6.cell 1
    simp only [List.getElem?_cons_zero,List.getElem?_cons_succ] at d0 m0 m1
    have hz6:w6.heap.size=w5.heap.size:=by rw [<- hw6];simp
    have HG6:=hide hG6
    have N6:=hide n6
    have K16:=hide k16
    have K26:=hide k26
    have HB6:=hide hB6
    have HZ:=hide hZ
    clear hG6 n6 k16 k26 hB6 hZ hG5 n5 k15 k25 r5 hB5 hlo
    go_wp2
    go_loopw [4] (fun iv wr=>∃ (i:Nat) (Z:List (Ac × Value)),i<=l.length/\iv=.int .i64 (i:Int)/\Z.map (·.1)=frK (wrap64 (e+1)) l i/\RowG (w.heap.size+2) wr g l.length cap Z/\Blk wr w3.heap.size 26 [.int .i64 (wrap64 (e+1)),.slice (some ⟨g,0,none⟩) l.length cap]/\Blk wr w.heap.size 26 [.int .i64 e,.slice av l.length cv]/\Blk wr (w.heap.size+1) 26 [.int .i64 0,.slice none 0 0]/\Below w.heap.size w wr) (fun iv _=>l.length - (intOf iv).toNat)
    case atStart=>exact ⟨0,Z,by omega,rfl,by rw [frK_zero];exact HZ.out,by rw [<- hs2];exact HG6.out,N6.out,K16.out,K26.out,HB6.out⟩
    case round =>
      obtain ⟨i,Y,hi,rfl,hY,hG,m,ka,kr,hb⟩:=hrel
      obtain ⟨wo,rfl⟩:∃ x,x=wr:=⟨_,rfl⟩
      clear HG6 N6 K16 K26 HB6 HZ d0 m0 m0f m1 hw6
      have hYl:=hG.len
      have hcap:=hG.caps
      have e0:=m.cell 0
      have e1:=m.cell 1
      simp only [List.getElem?_cons_zero,List.getElem?_cons_succ] at e0 e1
      by_cases hlt:i < l.length
      · have hiY:i < Y.length:=by omega
        have hYi:Y[i].1=l[i]:=by rw [fst_get hY i hiY (by rw [frK_len];exact hlt),frK_at _ _ _ hlt]
        obtain ⟨c0,c1,c2,c3,c4⟩:=hG.at i hiY
        have hown:=hG.lvs.own i hiY
        have hlen:=Hall.out l[i] (List.getElem_mem _)
        have Hnx:=hide (frK_next (wrap64 (e+1)) l i hlt)
        rw [<- hYi] at Hnx hlen
        have hshape:=hown.rd.shape
        obtain ⟨q,hq⟩:∃ q,Y[i]=q:=⟨_,rfl⟩
        rw [hq] at c0 c1 c2 c3 c4 hown hlen Hnx hshape
        obtain ⟨⟨nm,fr,no,st,ls⟩,lv⟩:=q
        simp only at c0 c1 c2 c3 c4 hown hlen Hnx hshape
        obtain ⟨av',cv',rfl⟩:=hshape
        have hli:(i:Int) < (l.length:Int):=by omega
        have hgl:=hG.lt
        have hbl:=hb.size
        have hml:=m.lt
        have HS0:Hid (OwnL wo.heap.size (wo.alloc (.cells #[] 107)) (.slice (some ⟨wo.heap.size,0,none⟩) 0 0) []):=hide (own_nilL wo _ (Nat.le_refl _))
        have HG:=hide hG
        have HM:=hide m
        have HA:=hide ka
        have HR:=hide kr
        have HB:=hide hb
        have HQ:=hide hq
        have Hown:=hide hown
        have HY:=hide hY
        have hset0:Y.set i ((nm,fr,no,st,ls),.slice av' ls.length cv')=Y:=by rw [<- hq];simp
        have Hset0:=hide hset0
        have HlowS:Hid (∀ (a:Ac) j (hj:j < (Y.set i (a,Value.slice av' ls.length cv')).length) r,(Y.set i (a,Value.slice av' ls.length cv'))[j].2.ownBlock=some r->r < wo.heap.size):=hide (fun a j hj r hr=>by
          rw [List.getElem_set] at hr
          split at hr
          · exact hown.lt r hr
          · exact (hG.lvs.own j (by simpa using hj)).lt r hr)
        clear hG m ka kr hb hq hown hY hYi hset0
        go_wp2
        go_loopw [6,7] (fun sv kv wq=>∃ k:Nat,k<=ls.length/\kv=.int .i64 (k:Int)/\OwnL wo.heap.size wq sv (stL (wrap64 (e+1)) (ls.take k))/\RowG (w.heap.size+2) wq g l.length cap (Y.set i ((nm,frF (wrap64 (e+1)) fr (ls.take k),no,st,ls),.slice av' ls.length cv'))/\Blk wq w3.heap.size 26 [.int .i64 (wrap64 (e+1)),.slice (some ⟨g,0,none⟩) l.length cap]/\Blk wq w.heap.size 26 [.int .i64 e,.slice av l.length cv]/\Blk wq (w.heap.size+1) 26 [.int .i64 0,.slice none 0 0]/\Below w.heap.size w wq/\wo.heap.size < wq.heap.size) (fun _ kv _=>ls.length - (intOf kv).toNat)
        case atStart=>exact ⟨0,by omega,rfl,HS0.out,by rw [List.take_zero];show RowG _ _ _ _ _ (Y.set i ((nm,fr,no,st,ls),.slice av' ls.length cv'));rw [Hset0.out];exact HG.out.below ((Below.refl _ wo).alloc (Nat.le_refl _) _) (Nat.le_refl _),HM.out.alloc _,HA.out.alloc _,HR.out.alloc _,HB.out.alloc hbl _,by simp⟩
        case round =>
          obtain ⟨k,hk,rfl,ho,hG,m,ka,kr,hb,hsz⟩:=hrel
          clear c0 c1 c2 c3 c4 e0 e1
          have hiS:i < (Y.set i ((nm,frF (wrap64 (e+1)) fr (ls.take k),no,st,ls),.slice av' ls.length cv')).length:=by simpa using hiY
          have hat:=hG.at i hiS
          have hown:=hG.lvs.own i hiS
          rw [set_get] at hat hown
          obtain ⟨c0,c1,c2,c3,c4⟩:=hat
          simp only at c0 c1 c2 c3 c4 hown
          by_cases hkl:k < ls.length
          · obtain ⟨b,off,rfl,hc1,hc2,hbw,x0,x1⟩:=hown.rd.at hkl
            have HF:=hide (frF_snoc (wrap64 (e+1)) fr ls k hkl)
            have HS:=hide (stL_snoc (wrap64 (e+1)) ls k hkl)
            have hsl:=stL_len (wrap64 (e+1)) (ls.take k)
            have htl:(ls.take k).length<=k:=by simp;omega
            generalize ls[k]=x at x0 x1 HF HS
            obtain ⟨xa,xt⟩:=x
            simp only at x0 x1 HF HS
            have hkli:(k:Int) < (ls.length:Int):=by omega
            have hgl2:=hG.lt
            have hbo:b < wr.heap.size:=hbw
            have Ho:=hide ho
            have HG2:=hide hG
            have M2:=hide m
            have A2:=hide ka
            have R2:=hide kr
            have B2:=hide hb
            have fz:=hG.frozen (i * 5+1)
            have z0:=m.cell 0
            simp only [List.getElem?_cons_zero] at z0
            clear ho hG m ka kr hb hown
            by_cases h1:xt<=wrap64 (e+1)
            · rw [if_pos h1] at HF HS
              go_wp2
              go_quiet (fail)
              go_wp2
              refine region_tail 14 (by kernel_rfl) (by kernel_rfl) ?_
              simp only [List.take_succ_cons,List.take_zero,List.drop_succ_cons,List.drop_zero]
              repeat still_step
              refine wpStill_nil ?_
              have bN:=below_drewN (Below.refl wr.heap.size wr) (nq+1)
              have HP:=hide ((HG2.out.below bN (Nat.le_refl _)).put i hiS 1 (by omega) (.int .i64 (frF (wrap64 (e+1)) fr (ls.take (k+1)))) ((nm,frF (wrap64 (e+1)) fr (ls.take (k+1)),no,st,ls),.slice (some ⟨b,off,none⟩) ls.length cv') (by rw [set_get];rfl) (by rw [set_get];rfl))
              rw [List.set_set,HF.out] at HP
              have hOg:∀ j,u6.ownBlock=some j->j ≠ g:=fun j hj=>by have:=Ho.out.ge j hj;omega
              go_wp2
              go_roundw
              case rel =>
                refine ⟨k+1,by omega,by go_num,?_,?_,?_,?_,?_,?_,?_⟩
                · rw [HS.out];exact row_set Ho.out g (i * 5+1) _ hOg
                · rw [HF.out];exact HP.out
                · exact M2.out.other _ _ _ (by omega)
                · exact A2.out.other _ _ _ (by omega)
                · exact R2.out.other _ _ _ (by omega)
                · exact (B2.out.trans (bN.mono B2.out.size)).setCell (p:=⟨g,i * 5+1,none⟩) (by show w.heap.size<=g;omega) _
                · simpa using hsz
              case measure=>simp [intOf];omega
            · rw [if_neg h1] at HF HS
              have hbs:=B2.out.size
              go_wp2
              go_quiet (fail)
              have bN:=below_drewN (Below.refl wr.heap.size wr) nq
              have HoN:=hide (Ho.out.below bN (Nat.le_refl _))
              go_wp2_with (at_builtin;refine app_ownLg _ rfl _ _ rfl wo.heap.size _ _ (stL (wrap64 (e+1)) (ls.take k)) [(xa,xt)] rfl rfl (HoN.out.alloc _) (rd_one_lv _ _ xa xt (by first | rfl | simp)) (by simp;omega) (by simp;omega) ?_;intro v1 w1 ho1 hg1)
              have bA:=bN.alloc (by simp) (.cells #[.int .i64 xa,.int .i64 xt] 107)
              have hgs:wr.heap.size+1<=w1.heap.size:=by simpa using hg1.size
              go_roundw
              case rel =>
                refine ⟨k+1,by omega,by go_num,?_,?_,?_,?_,?_,?_,?_⟩
                · rw [HS.out];exact ho1
                · rw [HF.out];exact (HG2.out.below bA (Nat.le_refl _)).kept hg1 (fun e=>by have:=Ho.out.ge _ e;omega) (fun j hj q hq e=>by
                    have h2:=Ho.out.ge _ e
                    have h3:=HlowS.out _ j hj q hq
                    omega)
                · exact (M2.out.below bA M2.out.lt).kept' hg1 (fun e=>by have:=Ho.out.ge _ e.symm;omega)
                · exact (A2.out.below bA A2.out.lt).kept' hg1 (fun e=>by have:=Ho.out.ge _ e.symm;omega)
                · exact (R2.out.below bA R2.out.lt).kept' hg1 (fun e=>by have:=Ho.out.ge _ e.symm;omega)
                · exact (B2.out.trans (bA.mono hbs)).grown hg1 (by simp;omega) (fun k hk=>by have:=Ho.out.ge _ hk;omega)
                · omega
              case measure=>simp [intOf];omega
          · have ek:k=ls.length:=by omega
            subst ek
            rw [List.take_length] at ho hG
            have fz4:=hG.frozen (i * 5+4)
            obtain ⟨a6,cv6,rfl⟩:=ho.rd.shape
            have hgl2:=hG.lt
            have hge:=ho.ge
            have HP:=hide (hG.putL i (by simpa using hiY) ((nm,frF (wrap64 (e+1)) fr ls,no,st,stL (wrap64 (e+1)) ls),.slice a6 (stL (wrap64 (e+1)) ls).length cv6) (by rw [set_get];rfl) (ho.mono (by omega)) (fun b hb=>by have:=hge b hb;omega) (fun j hj _ b hb e=>by have h3:=HlowS.out _ j hj b hb;have:=hge b e;omega))
            rw [List.set_set] at HP
            have HY2:Hid ((Y.set i ((nm,frF (wrap64 (e+1)) fr ls,no,st,stL (wrap64 (e+1)) ls),.slice a6 (stL (wrap64 (e+1)) ls).length cv6)).map (·.1)=frK (wrap64 (e+1)) l (i+1)):=hide (by rw [fst_set,HY.out];exact Hnx.out)
            have HM2:=hide (m.other g (i * 5+4) (.slice a6 (stL (wrap64 (e+1)) ls).length cv6) (by omega))
            have HA2:=hide (ka.other g (i * 5+4) (.slice a6 (stL (wrap64 (e+1)) ls).length cv6) (by omega))
            have HR2:=hide (kr.other g (i * 5+4) (.slice a6 (stL (wrap64 (e+1)) ls).length cv6) (by omega))
            have HB2:=hide (hb.setCell (p:=⟨g,i * 5+4,none⟩) (by show w.heap.size<=g;omega) (.slice a6 (stL (wrap64 (e+1)) ls).length cv6))
            clear ho hG m ka kr hb hown hge
            go_wp2
            go_roundw
            case rel=>exact ⟨i+1,_,by omega,by go_num,HY2.out,HP.out,HM2.out,HA2.out,HR2.out,HB2.out⟩
            case measure=>simp [intOf];omega
      · have ei:i=l.length:=by omega
        subst ei
        rw [frK_all] at hY
        have o7:=hG.own
        rw [hY] at o7
        have hml:=m.lt
        have hgl:=hG.lt
        clear hG
        go_wp2_with fail
        refine (HN.out _ _ o7.rd).mono ?_
        rintro en w8 ⟨rfl,hb8⟩
        have hB8:Below w.heap.size w w8:=hb.trans (hb8.mono hb.size)
        have m8:=m.below hb8 m.lt
        have ka8:=ka.below hb8 ka.lt
        have kr8:=kr.below hb8 kr.lt
        have o8:=o7.below hb8 (Nat.le_refl _)
        have hz8:=hb8.size
        clear m ka kr o7
        cases h2:lgB (wrap64 (e+1)) (l.map (frA (wrap64 (e+1))))
        · have Hne:=hide (Hno2.out h2)
          have d0:=ka8.cell 0
          have d1:=ka8.cell 1
          simp only [List.getElem?_cons_zero,List.getElem?_cons_succ] at d0 d1
          clear Hno2 Hyes h2 o8
          go_wp2_with fail
          refine (HD.out _ (Hr0.out.below hB8 (Nat.le_refl _))).mono ?_
          rintro en w9 ⟨v9,rfl,ho9,hb9⟩
          have k9:=kr8.below hb9 kr8.lt
          obtain ⟨a9,cv9,rfl⟩:=ho9.rd.shape
          have r0:=k9.cell 0
          have r1:=k9.cell 1
          have g0:=k9.frozen 0
          have g1:=k9.frozen 1
          simp only [List.getElem?_cons_zero,List.getElem?_cons_succ] at r0 r1
          have Ho:=hide (((ho9.older (g:=w.heap.size+1) (by omega) 0 (.int .i64 e)).older (g:=w.heap.size+1) (by omega) 1 (.slice a9 l.length cv9)).mono (show w.heap.size<=_ by omega))
          have HB:=hide (((hB8.trans (hb9.mono hB8.size)).setCell (p:=⟨w.heap.size+1,0,none⟩) (show w.heap.size<=w.heap.size+1 by omega) (.int .i64 e)).setCell (p:=⟨w.heap.size+1,1,none⟩) (show w.heap.size<=w.heap.size+1 by omega) (.slice a9 l.length cv9))
          clear ho9 hb9 k9
          go_wp2
          refine bodyPost_ret (v:=.agg #[.int .i64 e,.slice a9 l.length cv9]) (by simp [results,Tryz.f83,go_sem,r0,r1]) rfl ?_
          rw [Hne.out]
          exact ⟨_,rfl,Ho.out,HB.out⟩
        · have Hne:=hide (Hyes.out h2)
          have d0:=m8.cell 0
          have d1:=m8.cell 1
          have r0:=kr8.cell 0
          have r1:=kr8.cell 1
          have g0:=kr8.frozen 0
          have g1:=kr8.frozen 1
          simp only [List.getElem?_cons_zero,List.getElem?_cons_succ] at d0 d1 r0 r1
          have Ho:=hide (((o8.older (g:=w.heap.size+1) (by omega) 0 (.int .i64 (wrap64 (e+1)))).older (g:=w.heap.size+1) (by omega) 1 (.slice (some ⟨g,0,none⟩) l.length cap)).mono (show w.heap.size<=_ by omega))
          have HB:=hide ((hB8.setCell (p:=⟨w.heap.size+1,0,none⟩) (show w.heap.size<=w.heap.size+1 by omega) (.int .i64 (wrap64 (e+1)))).setCell (p:=⟨w.heap.size+1,1,none⟩) (show w.heap.size<=w.heap.size+1 by omega) (.slice (some ⟨g,0,none⟩) l.length cap))
          clear Hno2 Hyes h2 o8 ka8 kr8 m8
          go_wp2
          refine bodyPost_ret (v:=.agg #[.int .i64 (wrap64 (e+1)),.slice (some ⟨g,0,none⟩) l.length cap]) (by simp [results,Tryz.f83,go_sem,r0,r1]) rfl ?_
          rw [Hne.out]
          exact ⟨_,rfl,Ho.out,HB.out⟩
end Go.Proofs.YtohachldbpejpaaGreatDoor
