/- The model's orders one behind the other. -/
import Derived.Test.YtohachldbpejpaaGreatDoorZoLgDoU
set_option maxRecDepth 20000
set_option maxHeartbeats 3000000
namespace Go.Proofs.YtohachldbpejpaaGreatDoor
open Go.RowKit
set_option linter.unusedVariables false
theorem doA_len (e:Int) (t:Tx5) (l:List Ac) (k:Nat):(doA e t l k).length<=l.length+1:=by
  unfold doA
  split
  · refine Nat.le_trans (insA_len _ _) (by simp)
  · simp
theorem doA_mem {e:Int} {t:Tx5} {l:List Ac} {k:Nat} (ht:t.2.2.1.size<=maxLen) (hk:k < l.length) (h:∀ a ∈ l,a.1.size<=maxLen/\a.2.2.2.2.length<=3999999):∀ a ∈ doA e t l k,a.1.size<=maxLen/\a.2.2.2.2.length<=4000000:=by
  have hL : ∀ a ∈ l.set k (gvA e t (l.getD k ac0)),a.1.size<=maxLen/\a.2.2.2.2.length<=4000000:=fun a ha=>by
    rcases List.mem_or_eq_of_mem_set ha with h' | h'
    · have:=h a h';omega
    · have h1:=h l[k] (List.getElem_mem _)
      have h2:(gvA e t l[k]).2.2.2.2.length<=l[k].2.2.2.2.length+1:=by
        unfold gvA
        split
        · simp
        · split
          · simp
          · exact lvP_len _ _ _
      subst h'
      rw [getD_at l k hk,gvA_name]
      omega
  unfold doA
  split
  · intro a ha
    rcases insA_mem _ _ _ ha with rfl | ha
    · refine ⟨by rw [aftA_name];exact ht,?_⟩
      unfold aftA
      cases hg:getA t.2.2.1 (l.set k (gvA e t (l.getD k ac0))) with
      | none=>simp
      | some b=>exact (hL b (getA_some hg).2).2
    · exact hL a ha
  · exact hL
theorem specApply_any (e:Int) (v:Value) (l:List Ac) (t:Tx5) (w:World) (hr:RdA w v l) (hl:l.length<=3999999) (hall:∀ a ∈ l,a.1.size<=maxLen/\a.2.2.2.2.length<=3999999) (hf:t.2.1.size<=maxLen) (ht:t.2.2.1.size<=maxLen) :
    Calls Tryz.prog 95 #[lgV e v,txV t] w fun en w'=>∃ v',en=.returned (.tuple #[lgV e v',.int .i64 (apA e l t).2])/\OwnA w.heap.size w' v' (apA e l t).1/\Below w.heap.size w w':=by
  obtain ⟨av,cv,rfl⟩:=hr.shape
  have hall1:∀ a ∈ l,a.1.size<=maxLen/\a.2.2.2.2.length<=4000000:=fun a ha=>by have:=hall a ha;omega
  have hall2:∀ a ∈ l,a.2.2.2.2.length<=4000000:=fun a ha=>(hall1 a ha).2
  obtain ⟨kd,fm,tO,am,nc⟩:=t
  obtain ⟨w1,hw1⟩:∃ w1,w.alloc (.cells #[.int .i64 e,.slice av l.length cv] 26)=w1:=⟨_,rfl⟩
  obtain ⟨w2,hw2⟩:∃ w2,w1.alloc (.cells #[.int .i64 kd,.string fm,.string tO,.int .i64 am,.int .i64 nc] 35)=w2:=⟨_,rfl⟩
  obtain ⟨w3,hw3⟩:∃ w3,w2.alloc (.cells #[.int .i64 0,.slice none 0 0] 26)=w3:=⟨_,rfl⟩
  have s1:w1.heap.size=w.heap.size+1:=by rw [<- hw1];simp
  have s2:w2.heap.size=w.heap.size+1+1:=by rw [<- hw2];simp;omega
  have s3:w3.heap.size=w.heap.size+1+1+1:=by rw [<- hw3];simp;omega
  have hB3:Below w.heap.size w w3:=by rw [<- hw3,<- hw2,<- hw1];exact (((Below.refl _ w).alloc (Nat.le_refl _) _).alloc (by simp) _).alloc (by simp;omega) _
  have kL:Blk w3 w.heap.size 26 [.int .i64 e,.slice av l.length cv]:=by rw [<- hw3,<- hw2,<- hw1];exact ((Blk.new w _ _).alloc _).alloc _
  have kT:Blk w3 (w.heap.size+1) 35 [.int .i64 kd,.string fm,.string tO,.int .i64 am,.int .i64 nc]:=by
    rw [<- hw3,<- hw2,<- s1]
    exact (Blk.new w1 _ _).alloc _
  have kR:Blk w3 (w.heap.size+1+1) 26 [.int .i64 0,.slice none 0 0]:=by rw [<- hw3,<- s2];exact Blk.new w2 _ _
  have HO:=hide (fun V m W h (h1:m.length<=4000000) h2=>specLedgerOk_any e V m W h h1 h2)
  have HX:=hide (fun W=>specTxOk_any (kd,fm,tO,am,nc) W hf ht)
  have HD:=hide (fun W h=>specL6Copy_any e (.slice av l.length cv) l W h (by omega) hall2)
  have HA:=hide (fun W h=>specAcctAt_any (.slice av l.length cv) l fm W h (by omega))
  have Hr:=hide hr
  have Hall:=hide hall
  have Hall1:=hide hall1
  simp only [lgV,txV] at HO HX HD ⊢
  have l0:=kL.cell 0
  have l1:=kL.cell 1
  simp only [List.getElem?_cons_zero,List.getElem?_cons_succ] at l0 l1
  clear hr hall hall1 hall2
  go_enter Tryz.func95,Tryz.ntmps95
  go_wp2_with fail
  refine (HD.out _ (Hr.out.below hB3 (Nat.le_refl _))).mono ?_
  rintro en w4 ⟨v4,rfl,o4,hb4⟩
  have hB4:Below w.heap.size w w4:=hB3.trans (hb4.mono hB3.size)
  replace kL:=kL.below hb4 kL.lt
  replace kT:=kT.below hb4 kT.lt
  replace kR:=kR.below hb4 kR.lt
  obtain ⟨a4,c4,rfl⟩:=o4.rd.shape
  obtain ⟨w5,hw5⟩:∃ w5,w4.alloc (.cells #[.int .i64 e,.slice a4 l.length c4] 26)=w5:=⟨_,rfl⟩
  have hb5:Below w4.heap.size w4 w5:=by rw [<- hw5];exact (Below.refl _ w4).alloc (Nat.le_refl _) _
  have kF:Blk w5 w4.heap.size 26 [.int .i64 e,.slice a4 l.length c4]:=by rw [<- hw5];exact Blk.new w4 _ _
  have s5:w5.heap.size=w4.heap.size+1:=by rw [<- hw5];simp
  have hB5:Below w.heap.size w w5:=hB4.trans (hb5.mono hB4.size)
  replace kL:=kL.below hb5 kL.lt
  replace kT:=kT.below hb5 kT.lt
  replace kR:=kR.below hb5 kR.lt
  replace o4:=o4.below hb5 (Nat.le_refl _)
  have l0:=kL.cell 0
  have l1:=kL.cell 1
  simp only [List.getElem?_cons_zero,List.getElem?_cons_succ] at l0 l1
  go_wp2_with fail
  refine (HO.out _ l _ (Hr.out.below hB5 (Nat.le_refl _)) (by omega) Hall1.out).mono ?_
  rintro en w6 ⟨rfl,hb6⟩
  have hB6:Below w.heap.size w w6:=hB5.trans (hb6.mono hB5.size)
  replace kL:=kL.below hb6 kL.lt
  replace kT:=kT.below hb6 kT.lt
  replace kR:=kR.below hb6 kR.lt
  replace kF:=kF.below hb6 kF.lt
  replace o4:=o4.below hb6 (Nat.le_refl _)
  clear l0 l1
  have z4:=hb4.size
  cases h1:lgB e l
  · have Hap:=hide (apA_form (e:=e) (l:=l) (t:=(kd,fm,tO,am,nc)) (by rw [h1];rfl))
    have r0:=kR.cell 0
    have r1:=kR.cell 1
    have g0:=kR.frozen 0
    have g1:=kR.frozen 1
    have i0:=kF.cell 0
    have i1:=kF.cell 1
    simp only [List.getElem?_cons_zero,List.getElem?_cons_succ] at r0 r1 i0 i1
    have HBx:=hide ((hB6.setCell (p:=⟨w.heap.size+1+1,0,none⟩) (show w.heap.size<=w.heap.size+1+1 by omega) (.int .i64 e)).setCell (p:=⟨w.heap.size+1+1,1,none⟩) (show w.heap.size<=w.heap.size+1+1 by omega) (.slice a4 l.length c4))
    have HOx:=hide (((o4.older (g:=w.heap.size+1+1) (by omega) 0 (.int .i64 e)).older (g:=w.heap.size+1+1) (by omega) 1 (.slice a4 l.length c4)).mono (show w.heap.size<=_ by omega))
    clear h1
    go_wp2
    refine bodyPost_ret (v:=.tuple #[.agg #[.int .i64 e,.slice a4 l.length c4],.int .i64 1]) (by simp [results,Tryz.f95,go_sem,r0,r1]) rfl ?_
    rw [Hap.out]
    exact ⟨_,rfl,HOx.out,HBx.out⟩
  · have H1 := hide h1
    clear h1
    have t0:=kT.cell 0
    have t1:=kT.cell 1
    have t2:=kT.cell 2
    have t3:=kT.cell 3
    have t4:=kT.cell 4
    simp only [List.getElem?_cons_zero,List.getElem?_cons_succ] at t0 t1 t2 t3 t4
    go_wp2_with fail
    refine (HX.out _).mono ?_
    rintro en w7 ⟨rfl,hb7⟩
    have hB7:Below w.heap.size w w7:=hB6.trans (hb7.mono hB6.size)
    replace kL:=kL.below hb7 kL.lt
    replace kT:=kT.below hb7 kT.lt
    replace kR:=kR.below hb7 kR.lt
    replace kF:=kF.below hb7 kF.lt
    replace o4:=o4.below hb7 (Nat.le_refl _)
    clear t0 t1 t2 t3 t4
    cases h2:txB (kd,fm,tO,am,nc)
    · have Hap:=hide (apA_form (e:=e) (l:=l) (t:=(kd,fm,tO,am,nc)) (by rw [H1.out,h2];rfl))
      clear h2
      have r0:=kR.cell 0
      have r1:=kR.cell 1
      have g0:=kR.frozen 0
      have g1:=kR.frozen 1
      have i0:=kF.cell 0
      have i1:=kF.cell 1
      simp only [List.getElem?_cons_zero,List.getElem?_cons_succ] at r0 r1 i0 i1
      have HBx:=hide ((hB7.setCell (p:=⟨w.heap.size+1+1,0,none⟩) (show w.heap.size<=w.heap.size+1+1 by omega) (.int .i64 e)).setCell (p:=⟨w.heap.size+1+1,1,none⟩) (show w.heap.size<=w.heap.size+1+1 by omega) (.slice a4 l.length c4))
      have HOx:=hide (((o4.older (g:=w.heap.size+1+1) (by omega) 0 (.int .i64 e)).older (g:=w.heap.size+1+1) (by omega) 1 (.slice a4 l.length c4)).mono (show w.heap.size<=_ by omega))
      go_wp2
      refine bodyPost_ret (v:=.tuple #[.agg #[.int .i64 e,.slice a4 l.length c4],.int .i64 1]) (by simp [results,Tryz.f95,go_sem,r0,r1]) rfl ?_
      rw [Hap.out]
      exact ⟨_,rfl,HOx.out,HBx.out⟩
    · have H2 : Hid ((lgB e l && txB (kd,fm,tO,am,nc))=true):=hide (by rw [H1.out,h2];rfl)
      have Hx:=hide h2
      have l1:=kL.cell 1
      have t1:=kT.cell 1
      simp only [List.getElem?_cons_zero,List.getElem?_cons_succ] at l1 t1
      clear h2 HX HD
      go_wp2_with fail
      refine (HA.out _ (Hr.out.below hB7 (Nat.le_refl _))).mono ?_
      rintro en w8 ⟨rfl,hb8⟩
      have hB8:Below w.heap.size w w8:=hB7.trans (hb8.mono hB7.size)
      replace kL:=kL.below hb8 kL.lt
      replace kT:=kT.below hb8 kT.lt
      replace kR:=kR.below hb8 kR.lt
      replace kF:=kF.below hb8 kF.lt
      replace o4:=o4.below hb8 (Nat.le_refl _)
      clear l1 t1
      rcases at_cases l fm with hat | ⟨k,hk,hat,hkn,hkb⟩
      · have Hap:=hide (apA_none (t:=(kd,fm,tO,am,nc)) H2.out (by show atA l fm < 0;rw [hat];decide))
        rw [hat]
        have r0:=kR.cell 0
        have r1:=kR.cell 1
        have g0:=kR.frozen 0
        have g1:=kR.frozen 1
        have i0:=kF.cell 0
        have i1:=kF.cell 1
        simp only [List.getElem?_cons_zero,List.getElem?_cons_succ] at r0 r1 i0 i1
        have HBx:=hide ((hB8.setCell (p:=⟨w.heap.size+1+1,0,none⟩) (show w.heap.size<=w.heap.size+1+1 by omega) (.int .i64 e)).setCell (p:=⟨w.heap.size+1+1,1,none⟩) (show w.heap.size<=w.heap.size+1+1 by omega) (.slice a4 l.length c4))
        have HOx:=hide (((o4.older (g:=w.heap.size+1+1) (by omega) 0 (.int .i64 e)).older (g:=w.heap.size+1+1) (by omega) 1 (.slice a4 l.length c4)).mono (show w.heap.size<=_ by omega))
        go_wp2
        refine bodyPost_ret (v:=.tuple #[.agg #[.int .i64 e,.slice a4 l.length c4],.int .i64 2]) (by simp [results,Tryz.f95,go_sem,r0,r1]) rfl ?_
        rw [Hap.out]
        exact ⟨_,rfl,HOx.out,HBx.out⟩
      · rw [hat]
        have hrd8:=Hr.out.below hB8 (Nat.le_refl _)
        obtain ⟨b,off,lv,hav,hc1,hc2,hbw,hatk,hrl⟩:∃ b off lv,av=some ⟨b,off,none⟩/\l.length<=cv/\cv<=maxLen/\b < w8.heap.size/\AcAt w8 b (off+k * 5) l[k] lv/\RdL w8 lv l[k].2.2.2.2:=by
          rcases hrd8 with ⟨a',cap',e1,e2,-⟩ | ⟨b,off,cap',h0,e1,h1,h2,h3,h4⟩
          · rw [e2] at hk;simp at hk
          · simp only [Value.slice.injEq,true_and] at e1
            obtain ⟨rfl,rfl⟩:=e1
            obtain ⟨lv,q1,q2⟩:=h4 k hk
            exact ⟨b,off,lv,rfl,h1,h2,h3,q1,q2⟩
        subst hav
        have hgd:l.getD k ac0=l[k]:=getD_at l k hk
        have Htp:=hide (tx_parts Hx.out)
        obtain ⟨x0,x1,x2,x3,x4⟩:=hatk
        have hshape:=hrl.shape
        obtain ⟨q,hq⟩:∃ q,l[k]=q:=⟨_,rfl⟩
        rw [hq] at x0 x1 x2 x3 hgd hshape
        obtain ⟨nm,fr,no,st,ls⟩:=q
        simp only at x0 x1 x2 x3 hgd hshape Htp
        obtain ⟨av',cv',rfl⟩:=hshape
        have hki:(k:Int) < (l.length:Int):=by omega
        obtain ⟨w9,hw9⟩:∃ w9,w8.alloc (.cells #[.string nm,.int .i64 fr,.int .i64 no,.int .i64 st,.slice av' ls.length cv'] 105)=w9:=⟨_,rfl⟩
        have hb9:Below w8.heap.size w8 w9:=by rw [<- hw9];exact (Below.refl _ w8).alloc (Nat.le_refl _) _
        have kA:Blk w9 w8.heap.size 105 [.string nm,.int .i64 fr,.int .i64 no,.int .i64 st,.slice av' ls.length cv']:=by rw [<- hw9];exact Blk.new w8 _ _
        have l1:=kL.cell 1
        simp only [List.getElem?_cons_zero,List.getElem?_cons_succ] at l1
        have Kl8:=kL
        have hB9:Below w.heap.size w w9:=hB8.trans (hb9.mono hB8.size)
        replace kL:=kL.below hb9 kL.lt
        replace kT:=kT.below hb9 kT.lt
        replace kR:=kR.below hb9 kR.lt
        replace kF:=kF.below hb9 kF.lt
        replace o4:=o4.below hb9 (Nat.le_refl _)
        have zR:=kR.lt
        have a0:=kA.cell 0
        have a1:=kA.cell 1
        have a2:=kA.cell 2
        have a3:=kA.cell 3
        have a4':=kA.cell 4
        have t0:=kT.cell 0
        have t1:=kT.cell 1
        have t2:=kT.cell 2
        have t3:=kT.cell 3
        have t4:=kT.cell 4
        simp only [List.getElem?_cons_zero,List.getElem?_cons_succ] at a0 a1 a2 a3 a4' t0 t1 t2 t3 t4
        by_cases hk3:kd=3
        · subst hk3
          have Hsp:Hid (hasA (3,fm,tO,am,nc) (nm,fr,no,st,ls)=st):=hide (by unfold hasA;exact if_pos rfl)
          by_cases hn:no=nc
          · have hnq:(no != nc)=false:=by rw [hn];simp
            by_cases hs:st < am
            · have Hap:=hide (apA_short (t:=(3,fm,tO,am,nc)) H2.out hat (by rw [hgd];exact hn) (by rw [hgd,Hsp.out];exact hs))
              clear hn
              have r0:=kR.cell 0
              have r1:=kR.cell 1
              have g0:=kR.frozen 0
              have g1:=kR.frozen 1
              have i0:=kF.cell 0
              have i1:=kF.cell 1
              simp only [List.getElem?_cons_zero,List.getElem?_cons_succ] at r0 r1 i0 i1
              have HBx:=hide ((hB9.setCell (p:=⟨w.heap.size+1+1,0,none⟩) (show w.heap.size<=w.heap.size+1+1 by omega) (.int .i64 e)).setCell (p:=⟨w.heap.size+1+1,1,none⟩) (show w.heap.size<=w.heap.size+1+1 by omega) (.slice a4 l.length c4))
              have HOx:=hide (((o4.older (g:=w.heap.size+1+1) (by omega) 0 (.int .i64 e)).older (g:=w.heap.size+1+1) (by omega) 1 (.slice a4 l.length c4)).mono (show w.heap.size<=_ by omega))
              go_wp2
              refine bodyPost_ret (v:=.tuple #[.agg #[.int .i64 e,.slice a4 l.length c4],.int .i64 4]) (by simp [results,Tryz.f95,go_sem,r0,r1]) rfl ?_
              rw [Hap.out]
              exact ⟨_,rfl,HOx.out,HBx.out⟩
            · have Hful:=hide (apA_full (t:=(3,fm,tO,am,nc)) H2.out hat (by rw [hgd];exact hn) (by rw [hgd,Hsp.out];exact hs))
              have Hgoo:=hide (apA_good (t:=(3,fm,tO,am,nc)) H2.out hat (by rw [hgd];exact hn) (by rw [hgd,Hsp.out];exact hs))
              have HDo:=hide (specDo_any e (.slice (some ⟨b,off,none⟩) l.length cv) l (3,fm,tO,am,nc) k w9 (Hr.out.below hB9 (Nat.le_refl _)) hl Hall.out Htp.out.2.2.2 hk (asc_of_ok l (lg_acs H1.out)))
              have HDl:=hide (doA_len e (3,fm,tO,am,nc) l k)
              have HDm:=hide (doA_mem (e:=e) (t:=(3,fm,tO,am,nc)) (l:=l) (k:=k) ht hk Hall.out)
              generalize doA e (3,fm,tO,am,nc) l k=D at HDo Hful Hgoo HDl HDm
              simp only [lgV,txV] at HDo
              have l0:=kL.cell 0
              have l1:=kL.cell 1
              simp only [List.getElem?_cons_zero,List.getElem?_cons_succ] at l0 l1
              clear hn
              go_wp2_with fail
              refine HDo.out.mono ?_
              rintro en w10 ⟨v10,rfl,o10,hb10⟩
              have hB10:Below w.heap.size w w10:=hB9.trans (hb10.mono hB9.size)
              replace kR:=kR.below hb10 kR.lt
              replace kF:=kF.below hb10 kF.lt
              replace o4:=o4.below hb10 (Nat.le_refl _)
              obtain ⟨a10,c10,rfl⟩:=o10.rd.shape
              obtain ⟨w11,hw11⟩:∃ w11,w10.alloc (.cells #[.int .i64 e,.slice a10 D.length c10] 26)=w11:=⟨_,rfl⟩
              have hb11:Below w10.heap.size w10 w11:=by rw [<- hw11];exact (Below.refl _ w10).alloc (Nat.le_refl _) _
              have kG:Blk w11 w10.heap.size 26 [.int .i64 e,.slice a10 D.length c10]:=by rw [<- hw11];exact Blk.new w10 _ _
              have hB11:Below w.heap.size w w11:=hB10.trans (hb11.mono hB10.size)
              replace kR:=kR.below hb11 kR.lt
              replace kF:=kF.below hb11 kF.lt
              replace o4:=o4.below hb11 (Nat.le_refl _)
              replace o10:=o10.below hb11 (Nat.le_refl _)
              have j0:=kG.cell 0
              have j1:=kG.cell 1
              simp only [List.getElem?_cons_zero,List.getElem?_cons_succ] at j0 j1
              have z9:=hB9.size
              go_wp2_with fail
              refine (HO.out _ D _ o10.rd (by have:=HDl.out;omega) HDm.out).mono ?_
              rintro en w12 ⟨rfl,hb12⟩
              have hB12:Below w.heap.size w w12:=hB11.trans (hb12.mono hB11.size)
              replace kR:=kR.below hb12 kR.lt
              replace kF:=kF.below hb12 kF.lt
              replace kG:=kG.below hb12 kG.lt
              replace o4:=o4.below hb12 (Nat.le_refl _)
              replace o10:=o10.below hb12 (Nat.le_refl _)
              clear j0 j1 l0 l1 t0 t1 t2 t3 t4 a0 a1 a2 a3 a4'
              cases h5:lgB e D
              · have Hap:=hide (Hful.out h5)
                clear h5
                have r0:=kR.cell 0
                have r1:=kR.cell 1
                have g0:=kR.frozen 0
                have g1:=kR.frozen 1
                have i0:=kF.cell 0
                have i1:=kF.cell 1
                simp only [List.getElem?_cons_zero,List.getElem?_cons_succ] at r0 r1 i0 i1
                have HBx:=hide ((hB12.setCell (p:=⟨w.heap.size+1+1,0,none⟩) (show w.heap.size<=w.heap.size+1+1 by omega) (.int .i64 e)).setCell (p:=⟨w.heap.size+1+1,1,none⟩) (show w.heap.size<=w.heap.size+1+1 by omega) (.slice a4 l.length c4))
                have HOx:=hide (((o4.older (g:=w.heap.size+1+1) (by omega) 0 (.int .i64 e)).older (g:=w.heap.size+1+1) (by omega) 1 (.slice a4 l.length c4)).mono (show w.heap.size<=_ by omega))
                go_wp2
                refine bodyPost_ret (v:=.tuple #[.agg #[.int .i64 e,.slice a4 l.length c4],.int .i64 5]) (by simp [results,Tryz.f95,go_sem,r0,r1]) rfl ?_
                rw [Hap.out]
                exact ⟨_,rfl,HOx.out,HBx.out⟩
              · have Hap:=hide (Hgoo.out h5)
                clear h5
                have r0:=kR.cell 0
                have r1:=kR.cell 1
                have g0:=kR.frozen 0
                have g1:=kR.frozen 1
                have i0:=kG.cell 0
                have i1:=kG.cell 1
                simp only [List.getElem?_cons_zero,List.getElem?_cons_succ] at r0 r1 i0 i1
                have HBx:=hide ((hB12.setCell (p:=⟨w.heap.size+1+1,0,none⟩) (show w.heap.size<=w.heap.size+1+1 by omega) (.int .i64 e)).setCell (p:=⟨w.heap.size+1+1,1,none⟩) (show w.heap.size<=w.heap.size+1+1 by omega) (.slice a10 D.length c10))
                have HOx:=hide (((o10.older (g:=w.heap.size+1+1) (by omega) 0 (.int .i64 e)).older (g:=w.heap.size+1+1) (by omega) 1 (.slice a10 D.length c10)).mono (show w.heap.size<=_ by omega))
                go_wp2
                refine bodyPost_ret (v:=.tuple #[.agg #[.int .i64 e,.slice a10 D.length c10],.int .i64 0]) (by simp [results,Tryz.f95,go_sem,r0,r1]) rfl ?_
                rw [Hap.out]
                exact ⟨_,rfl,HOx.out,HBx.out⟩
          · have Hap:=hide (apA_nonce (t:=(3,fm,tO,am,nc)) H2.out hat (by rw [hgd];exact hn))
            have hnq:(no != nc)=true:=by rw [bne_iff_ne];exact hn
            clear hn
            have r0:=kR.cell 0
            have r1:=kR.cell 1
            have g0:=kR.frozen 0
            have g1:=kR.frozen 1
            have i0:=kF.cell 0
            have i1:=kF.cell 1
            simp only [List.getElem?_cons_zero,List.getElem?_cons_succ] at r0 r1 i0 i1
            have HBx:=hide ((hB9.setCell (p:=⟨w.heap.size+1+1,0,none⟩) (show w.heap.size<=w.heap.size+1+1 by omega) (.int .i64 e)).setCell (p:=⟨w.heap.size+1+1,1,none⟩) (show w.heap.size<=w.heap.size+1+1 by omega) (.slice a4 l.length c4))
            have HOx:=hide (((o4.older (g:=w.heap.size+1+1) (by omega) 0 (.int .i64 e)).older (g:=w.heap.size+1+1) (by omega) 1 (.slice a4 l.length c4)).mono (show w.heap.size<=_ by omega))
            go_wp2
            refine bodyPost_ret (v:=.tuple #[.agg #[.int .i64 e,.slice a4 l.length c4],.int .i64 3]) (by simp [results,Tryz.f95,go_sem,r0,r1]) rfl ?_
            rw [Hap.out]
            exact ⟨_,rfl,HOx.out,HBx.out⟩
        · have hkq:(kd == 3)=false:=by rw [beq_eq_false_iff_ne];exact hk3
          have Hk3:=hide hk3
          have Hsp:Hid (hasA (kd,fm,tO,am,nc) (nm,fr,no,st,ls)=fr):=hide (by unfold hasA;exact if_neg hk3)
          clear hk3
          by_cases hn:no=nc
          · have hnq:(no != nc)=false:=by rw [hn];simp
            by_cases hs:fr < am
            · have Hap:=hide (apA_short (t:=(kd,fm,tO,am,nc)) H2.out hat (by rw [hgd];exact hn) (by rw [hgd,Hsp.out];exact hs))
              clear hn
              have r0:=kR.cell 0
              have r1:=kR.cell 1
              have g0:=kR.frozen 0
              have g1:=kR.frozen 1
              have i0:=kF.cell 0
              have i1:=kF.cell 1
              simp only [List.getElem?_cons_zero,List.getElem?_cons_succ] at r0 r1 i0 i1
              have HBx:=hide ((hB9.setCell (p:=⟨w.heap.size+1+1,0,none⟩) (show w.heap.size<=w.heap.size+1+1 by omega) (.int .i64 e)).setCell (p:=⟨w.heap.size+1+1,1,none⟩) (show w.heap.size<=w.heap.size+1+1 by omega) (.slice a4 l.length c4))
              have HOx:=hide (((o4.older (g:=w.heap.size+1+1) (by omega) 0 (.int .i64 e)).older (g:=w.heap.size+1+1) (by omega) 1 (.slice a4 l.length c4)).mono (show w.heap.size<=_ by omega))
              go_wp2
              refine bodyPost_ret (v:=.tuple #[.agg #[.int .i64 e,.slice a4 l.length c4],.int .i64 4]) (by simp [results,Tryz.f95,go_sem,r0,r1]) rfl ?_
              rw [Hap.out]
              exact ⟨_,rfl,HOx.out,HBx.out⟩
            · have Hful:=hide (apA_full (t:=(kd,fm,tO,am,nc)) H2.out hat (by rw [hgd];exact hn) (by rw [hgd,Hsp.out];exact hs))
              have Hgoo:=hide (apA_good (t:=(kd,fm,tO,am,nc)) H2.out hat (by rw [hgd];exact hn) (by rw [hgd,Hsp.out];exact hs))
              have HDo:=hide (specDo_any e (.slice (some ⟨b,off,none⟩) l.length cv) l (kd,fm,tO,am,nc) k w9 (Hr.out.below hB9 (Nat.le_refl _)) hl Hall.out Htp.out.2.2.2 hk (asc_of_ok l (lg_acs H1.out)))
              have HDl:=hide (doA_len e (kd,fm,tO,am,nc) l k)
              have HDm:=hide (doA_mem (e:=e) (t:=(kd,fm,tO,am,nc)) (l:=l) (k:=k) ht hk Hall.out)
              generalize doA e (kd,fm,tO,am,nc) l k=D at HDo Hful Hgoo HDl HDm
              simp only [lgV,txV] at HDo
              have l0:=kL.cell 0
              have l1:=kL.cell 1
              simp only [List.getElem?_cons_zero,List.getElem?_cons_succ] at l0 l1
              clear hn
              go_wp2_with fail
              refine HDo.out.mono ?_
              rintro en w10 ⟨v10,rfl,o10,hb10⟩
              have hB10:Below w.heap.size w w10:=hB9.trans (hb10.mono hB9.size)
              replace kR:=kR.below hb10 kR.lt
              replace kF:=kF.below hb10 kF.lt
              replace o4:=o4.below hb10 (Nat.le_refl _)
              obtain ⟨a10,c10,rfl⟩:=o10.rd.shape
              obtain ⟨w11,hw11⟩:∃ w11,w10.alloc (.cells #[.int .i64 e,.slice a10 D.length c10] 26)=w11:=⟨_,rfl⟩
              have hb11:Below w10.heap.size w10 w11:=by rw [<- hw11];exact (Below.refl _ w10).alloc (Nat.le_refl _) _
              have kG:Blk w11 w10.heap.size 26 [.int .i64 e,.slice a10 D.length c10]:=by rw [<- hw11];exact Blk.new w10 _ _
              have hB11:Below w.heap.size w w11:=hB10.trans (hb11.mono hB10.size)
              replace kR:=kR.below hb11 kR.lt
              replace kF:=kF.below hb11 kF.lt
              replace o4:=o4.below hb11 (Nat.le_refl _)
              replace o10:=o10.below hb11 (Nat.le_refl _)
              have j0:=kG.cell 0
              have j1:=kG.cell 1
              simp only [List.getElem?_cons_zero,List.getElem?_cons_succ] at j0 j1
              have z9:=hB9.size
              go_wp2_with fail
              refine (HO.out _ D _ o10.rd (by have:=HDl.out;omega) HDm.out).mono ?_
              rintro en w12 ⟨rfl,hb12⟩
              have hB12:Below w.heap.size w w12:=hB11.trans (hb12.mono hB11.size)
              replace kR:=kR.below hb12 kR.lt
              replace kF:=kF.below hb12 kF.lt
              replace kG:=kG.below hb12 kG.lt
              replace o4:=o4.below hb12 (Nat.le_refl _)
              replace o10:=o10.below hb12 (Nat.le_refl _)
              clear j0 j1 l0 l1 t0 t1 t2 t3 t4 a0 a1 a2 a3 a4'
              cases h5:lgB e D
              · have Hap:=hide (Hful.out h5)
                clear h5
                have r0:=kR.cell 0
                have r1:=kR.cell 1
                have g0:=kR.frozen 0
                have g1:=kR.frozen 1
                have i0:=kF.cell 0
                have i1:=kF.cell 1
                simp only [List.getElem?_cons_zero,List.getElem?_cons_succ] at r0 r1 i0 i1
                have HBx:=hide ((hB12.setCell (p:=⟨w.heap.size+1+1,0,none⟩) (show w.heap.size<=w.heap.size+1+1 by omega) (.int .i64 e)).setCell (p:=⟨w.heap.size+1+1,1,none⟩) (show w.heap.size<=w.heap.size+1+1 by omega) (.slice a4 l.length c4))
                have HOx:=hide (((o4.older (g:=w.heap.size+1+1) (by omega) 0 (.int .i64 e)).older (g:=w.heap.size+1+1) (by omega) 1 (.slice a4 l.length c4)).mono (show w.heap.size<=_ by omega))
                go_wp2
                refine bodyPost_ret (v:=.tuple #[.agg #[.int .i64 e,.slice a4 l.length c4],.int .i64 5]) (by simp [results,Tryz.f95,go_sem,r0,r1]) rfl ?_
                rw [Hap.out]
                exact ⟨_,rfl,HOx.out,HBx.out⟩
              · have Hap:=hide (Hgoo.out h5)
                clear h5
                have r0:=kR.cell 0
                have r1:=kR.cell 1
                have g0:=kR.frozen 0
                have g1:=kR.frozen 1
                have i0:=kG.cell 0
                have i1:=kG.cell 1
                simp only [List.getElem?_cons_zero,List.getElem?_cons_succ] at r0 r1 i0 i1
                have HBx:=hide ((hB12.setCell (p:=⟨w.heap.size+1+1,0,none⟩) (show w.heap.size<=w.heap.size+1+1 by omega) (.int .i64 e)).setCell (p:=⟨w.heap.size+1+1,1,none⟩) (show w.heap.size<=w.heap.size+1+1 by omega) (.slice a10 D.length c10))
                have HOx:=hide (((o10.older (g:=w.heap.size+1+1) (by omega) 0 (.int .i64 e)).older (g:=w.heap.size+1+1) (by omega) 1 (.slice a10 D.length c10)).mono (show w.heap.size<=_ by omega))
                go_wp2
                refine bodyPost_ret (v:=.tuple #[.agg #[.int .i64 e,.slice a10 D.length c10],.int .i64 0]) (by simp [results,Tryz.f95,go_sem,r0,r1]) rfl ?_
                rw [Hap.out]
                exact ⟨_,rfl,HOx.out,HBx.out⟩
          · have Hap:=hide (apA_nonce (t:=(kd,fm,tO,am,nc)) H2.out hat (by rw [hgd];exact hn))
            have hnq:(no != nc)=true:=by rw [bne_iff_ne];exact hn
            clear hn
            have r0:=kR.cell 0
            have r1:=kR.cell 1
            have g0:=kR.frozen 0
            have g1:=kR.frozen 1
            have i0:=kF.cell 0
            have i1:=kF.cell 1
            simp only [List.getElem?_cons_zero,List.getElem?_cons_succ] at r0 r1 i0 i1
            have HBx:=hide ((hB9.setCell (p:=⟨w.heap.size+1+1,0,none⟩) (show w.heap.size<=w.heap.size+1+1 by omega) (.int .i64 e)).setCell (p:=⟨w.heap.size+1+1,1,none⟩) (show w.heap.size<=w.heap.size+1+1 by omega) (.slice a4 l.length c4))
            have HOx:=hide (((o4.older (g:=w.heap.size+1+1) (by omega) 0 (.int .i64 e)).older (g:=w.heap.size+1+1) (by omega) 1 (.slice a4 l.length c4)).mono (show w.heap.size<=_ by omega))
            go_wp2
            refine bodyPost_ret (v:=.tuple #[.agg #[.int .i64 e,.slice a4 l.length c4],.int .i64 3]) (by simp [results,Tryz.f95,go_sem,r0,r1]) rfl ?_
            rw [Hap.out]
            exact ⟨_,rfl,HOx.out,HBx.out⟩
theorem RdT.at {w:World} {a:Option Addr} {cap i:Nat} {l:List Tx5} (h:RdT w (.slice a l.length cap) l) (hi:i < l.length) :
    ∃ b off,a=some ⟨b,off,none⟩/\l.length<=cap/\cap<=maxLen/\b < w.heap.size/\TxAt w b (off+i * 5) l[i]:=by
  rcases h with ⟨a',cap',e,rfl,-⟩ | ⟨b,off,cap',h0,e,h1,h2,h3,h4⟩
  · simp at hi
  · simp only [Value.slice.injEq,true_and] at e
    obtain ⟨rfl,rfl⟩:=e
    exact ⟨b,off,rfl,h1,h2,h3,h4 i hi⟩
end Go.Proofs.YtohachldbpejpaaGreatDoor
