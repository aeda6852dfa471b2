/- ProofOf of the model. -/
import Derived.Test.YtaidhenkijjcfaaGreatZrCaLkS
import Derived.Test.YtaidhenkijjcfaaGreatZrNdMod
import Derived.Test.YtaidhenkijjcfaaGreatZrPoI
set_option maxRecDepth 20000
set_option maxHeartbeats 8000000
namespace Go.Proofs.YtaidhenkijjcfaaGreat
open Go.RowKit Go.Sort
set_option linter.unusedVariables false
set_option linter.unusedSimpArgs false
theorem Tryz.infoA14:(Tryz.prog.info? 92).map (·.size)=some 14:=by kernel_rfl
theorem cell_not2S (V:World) (x y:Value) {b o g:Nat} (h:b ≠ g):(V.setCells g 0 [x,y]).cell? ⟨b,o,none⟩=V.cell? ⟨b,o,none⟩:=World.cell?_setCells_out g [x,y] 0 V ⟨b,o,none⟩ (fun e=>absurd e h)
theorem res_specAc {X:World} {a:Act} {R:Ending->World->Prop} {F:List Value} (g:Nat) (bk:Value) (h:X.rangeAt g 0 F) (h4:a.tmps[4]?.getD undef=.pointer (some ⟨g,0,none⟩)) (h5:a.tmps[5]?.getD undef=bk) (hs:(Tryz.prog.info? 35).map (·.size)=some F.length) (hd:a.defers=[]) (hR:R (.returned (.tuple #[.agg F.toArray,bk])) X):bodyPost Tryz.prog Tryz.f8 R .ret a X:=by
  have hl:=run_loadVar_mid (P:=Tryz.prog) X g 0 35 F _ h Tryz.underlying35 rfl hs
  refine bodyPost_ret (v:=.tuple #[.agg F.toArray,bk]) ?_ hd hR
  simp [results,Tryz.f8,h4,h5,asAddr,hl]
theorem specAccept_any (e : Int) (vs:Value) (st:List Vl) (p:Pf) (u:Pv) (w:World) (hr:RdV w vs st) (hp:RdPf w p u) (hls:st.length<=4000000) (hss:∀ a ∈ st,a.1.size<=maxLen) (hl:p.bs.length<=4000000) (hf:∀ b ∈ p.bs,FewK b) (hbd:∀ b ∈ p.bs,-9223372036854775808<=b.tr/\b.tr<=9223372036854775807) (hlq:p.qw.length<=4000000) (hsq:∀ s ∈ p.qw,s.size<=maxLen) :
    Calls Tryz.prog 8 #[lgV e vs,pfV p u] w fun en w'=>∃ v',en=.returned (.tuple #[lgV (clE e st p) v',.bool (clB e st p)])/\OwnV w.heap.size w' v' (clS e st p)/\Below w.heap.size w w':=by
  obtain ⟨aS,cS,rfl⟩:=hr.shape
  obtain ⟨aL,cL,hvL⟩:=hp.kb.shape
  obtain ⟨aQ,cQ,hvQ⟩:=hp.kw.shape
  obtain ⟨yb,yw⟩:=u
  simp only at hvL hvQ
  subst hvL hvQ
  obtain ⟨w1,hw1⟩:∃ x,((w.alloc (.cells #[.int .i64 e,.slice aS st.length cS] 35)).alloc (.cells #[.int .i64 p.ep,.slice aL p.bs.length cL,.int .i64 p.qr,.int .i64 p.qb,.slice aQ p.qw.length cQ] 42)).alloc (.cells #[.int .i64 0,.slice none 0 0] 35)=x:=⟨_,rfl⟩
  have s1:(w.alloc (.cells #[.int .i64 e,.slice aS st.length cS] 35)).heap.size=w.heap.size+1:=by simp
  have s2:((w.alloc (.cells #[.int .i64 e,.slice aS st.length cS] 35)).alloc (.cells #[.int .i64 p.ep,.slice aL p.bs.length cL,.int .i64 p.qr,.int .i64 p.qb,.slice aQ p.qw.length cQ] 42)).heap.size=w.heap.size+1+1:=by simp
  have b1:Below w.heap.size w w1:=by rw [<- hw1];exact (((Below.refl _ w).alloc (Nat.le_refl _) _).alloc (by rw [s1];omega) _).alloc (by rw [s2];omega) _
  have kC:=hide (show Blk w1 w.heap.size 35 [.int .i64 e,.slice aS st.length cS] from by rw [<- hw1];exact (Blk.new w _ _).below (((Below.refl (w.heap.size+1) _).alloc (by rw [s1];exact Nat.le_refl _) _).alloc (by rw [s2];omega) _) (by omega))
  have kP:=hide (show Blk w1 (w.heap.size+1) 42 [.int .i64 p.ep,.slice aL p.bs.length cL,.int .i64 p.qr,.int .i64 p.qb,.slice aQ p.qw.length cQ] from by
    rw [<- hw1]
    exact (Blk.newR _ _ [.int .i64 p.ep,.slice aL p.bs.length cL,.int .i64 p.qr,.int .i64 p.qb,.slice aQ p.qw.length cQ] _ s1.symm).below ((Below.refl (w.heap.size+1+1) _).alloc (by rw [s2];exact Nat.le_refl _) _) (by omega))
  have kR:=hide (show Blk w1 (w.heap.size+1+1) 35 [.int .i64 0,.slice none 0 0] from by rw [<- hw1];exact Blk.newR _ _ [.int .i64 0,.slice none 0 0] _ s2.symm)
  have hz1:=kR.out.lt
  have HCp:=hide (l17Copy_any e (.slice aS st.length cS) st w1 (hr.below b1 (Nat.le_refl _)) hls)
  have HSt:=hide (fun V (hV:Below w1.heap.size w1 V)=>specSetOk_any (.slice aS st.length cS) st V ((hr.below b1 (Nat.le_refl _)).below hV (Nat.le_refl _)) hls hss)
  have HLk:=hide (fun (hm:ModV st) V (hV:Below w1.heap.size w1 V)=>l17Linked_any e (.slice aS st.length cS) (.slice aL p.bs.length cL) st p.bs V ((hr.below b1 (Nat.le_refl _)).below hV (Nat.le_refl _)) ((hp.kb.below b1 (Nat.le_refl _)).below hV (Nat.le_refl _)) hls hl hf hbd hm)
  have HQc:=hide (fun (hm:ModV st) V (hV:Below w1.heap.size w1 V)=>specQcOk_any (.slice aS st.length cS) (.slice aQ p.qw.length cQ) st p.qr p.qb p.qw V ((hr.below b1 (Nat.le_refl _)).below hV (Nat.le_refl _)) ((hp.kw.below b1 (Nat.le_refl _)).below hV (Nat.le_refl _)) hls hlq hsq hm)
  have HK1:=hide (hp.kb.below b1 (Nat.le_refl _))
  have HN:=hide (fun b (h:b ∈ p.bs)=>(hf b h).n)
  have HNe:=hide (show ∀ b,(∃ off,aL=some ⟨b,off,none⟩)->p.bs ≠ []->b < w.heap.size from fun b ⟨off,h⟩ h0=>by
    rcases hp.kb with ⟨_,_,e1,e2,_⟩ | ⟨b',off',_,_,e1,_,_,h3,_⟩
    · exact absurd e2 h0
    · simp only [Value.slice.injEq] at e1
      rw [h] at e1
      simp only [Option.some.injEq,Addr.mk.injEq] at e1
      rw [e1.1.1];exact h3)
  have v0:=kC.out.cell 0
  have v1:=kC.out.cell 1
  simp only [List.getElem?_cons_zero,List.getElem?_cons_succ] at v0 v1
  have B1:=hide b1
  simp only [lgV,pfV,qcV] at *
  clear hr hp hss hf hbd hsq b1 s1 s2
  cases h1:setB st
  · have hX:=clB_no1 (e:=e) (p:=p) h1
    rw [h1] at HSt
    clear h1 HLk HQc HK1 HN HNe
    rw [show clE e st p=e from by unfold clE;rw [if_neg (by rw [hX];decide)],show clS e st p=st from by unfold clS;rw [if_neg (by rw [hX];decide)],hX]
    clear hX
    go_enter Tryz.func8,Tryz.ntmps8
    go_upto_region 1 with fail
    (try rw [hw1])
    clear hw1
    go_wp2_with fail
    refine HCp.out.mono ?_
    rintro en w2 ⟨v2,rfl,o2,hb2⟩
    obtain ⟨a2,c2,hv2⟩:=o2.rd.shape
    subst hv2
    obtain ⟨w3,hw3⟩:∃ x,w2.alloc (.cells #[.int .i64 e,.slice a2 st.length c2] 35)=x:=⟨_,rfl⟩
    have b23:Below w2.heap.size w2 w3:=by rw [<- hw3];exact (Below.refl _ w2).alloc (Nat.le_refl _) _
    have kT:=hide (show Blk w3 w2.heap.size 35 [.int .i64 e,.slice a2 st.length c2] from by rw [<- hw3];exact Blk.new w2 _ _)
    have b13:=hb2.trans (b23.mono hb2.size)
    have hz2:=hb2.size
    have HCp:=trivial
    have kC:=hide (kC.out.below b13 kC.out.lt)
    have kP:=hide (kP.out.below b13 kP.out.lt)
    have kR:=hide (kR.out.below b13 kR.out.lt)
    have HO:=hide (o2.below b23 (Nat.le_refl _))
    have B13:=hide b13
    have x0:=kC.out.cell 0
    have x1:=kC.out.cell 1
    have y0:=kP.out.cell 0
    have y1:=kP.out.cell 1
    simp only [List.getElem?_cons_zero,List.getElem?_cons_succ] at x0 x1 y0 y1
    have HSt:=hide (HSt.out w3 b13)
    have Hw3:=hide hw3
    clear hw3 b13 b23 hb2 o2 v0 v1 HCp
    go_upto_region 2 with fail
    rw [Hw3.out]
    clear Hw3
    go_upto_region 3 with fail
    go_wp2_with fail
    refine HSt.out.mono ?_
    rintro en w4 ⟨rfl,hb4⟩
    have B14:=hide (B13.out.trans (hb4.mono B13.out.size))
    have kC:=hide (kC.out.below hb4 kC.out.lt)
    have kP:=hide (kP.out.below hb4 kP.out.lt)
    have kR:=hide (kR.out.below hb4 kR.out.lt)
    have kT:=hide (kT.out.below hb4 kT.out.lt)
    have HO:=hide (HO.out.below hb4 (Nat.le_refl _))
    have x0:=kC.out.cell 0
    have x1:=kC.out.cell 1
    have y0:=kP.out.cell 0
    have y1:=kP.out.cell 1
    simp only [List.getElem?_cons_zero,List.getElem?_cons_succ] at x0 x1 y0 y1
    clear HSt hb4 B13
    have f0:=kT.out.cell 0
    have f1:=kT.out.cell 1
    have r0:=kR.out.cell 0
    have r1:=kR.out.cell 1
    have g0:=kR.out.frozen 0
    have g1:=kR.out.frozen 1
    simp only [List.getElem?_cons_zero,List.getElem?_cons_succ] at f0 f1 r0 r1
    have HOx:=hide (((HO.out.olderC (g:=w.heap.size+1+1) hz1 0 (.int .i64 e)).olderC (g:=w.heap.size+1+1) hz1 1 (.slice a2 st.length c2)).mono (show w.heap.size<=w1.heap.size by omega))
    have HBx:=hide (((B1.out.trans (B14.out.mono B1.out.size)).setCell (p:=⟨w.heap.size+1+1,0,none⟩) (show w.heap.size<=w.heap.size+1+1 by omega) (.int .i64 e)).setCell (p:=⟨w.heap.size+1+1,1,none⟩) (show w.heap.size<=w.heap.size+1+1 by omega) (.slice a2 st.length c2))
    clear kC kP kR kT HO B1 B14
    go_wp2
    refine bodyPost_ret (v:=.tuple #[.agg #[.int .i64 e,.slice a2 st.length c2],.bool false]) (by simp [results,Tryz.f8,go_sem,r0,r1]) rfl ?_
    exact ⟨_,rfl,HOx.out,HBx.out⟩
  · rw [h1] at HSt
    have hm:ModV st:=set_modC (l:=st) (by rw [h1,Bool.or_true])
    have HLk:=hide (HLk.out hm)
    have HQc:=hide (HQc.out hm)
    clear hm
    by_cases he:p.ep=e
    · have heb : (p.ep != e)=false:=by rw [he];simp
      by_cases h2:2<=p.bs.length
      · have hlt2 : ¬ ((p.bs.length:Int) < 2):=by omega
        have hd2:decide ((p.bs.length:Int) < 2)=false:=by simp;omega
        have hd3:decide (p.bs.length < 2)=false:=by simp;omega
        have hQ:=clB_eq h1 he h2
        have HU:Hid (clT e st p (p.bs[p.bs.length - 2]'(by omega)) (p.bs[p.bs.length - 1]'(by omega))=(lkB e st p.bs && (decide ((p.bs[p.bs.length - 2]'(by omega)).rd=(p.bs[p.bs.length - 1]'(by omega)).rd - 1) && ((decide (p.qb=(p.bs[p.bs.length - 1]'(by omega)).id) && (decide (p.qr=(p.bs[p.bs.length - 1]'(by omega)).rd) && qcB st p.qr p.qb p.qw)) && (p.bs.take (p.bs.length - 1)).any (fun x=>x.en))))):=hide rfl
        rw [<- hQ] at HU
        have HIs:=hide (fun (h:clB e st p=true)=>(clB_is h).1)
        clear hQ h1 he
        cases hL:lkB e st p.bs
        · rw [hL] at HLk HU
          have hX:clB e st p=false:=HU.out
          clear hL HU HQc HK1 HN HNe HIs
          rw [show clE e st p=e from by unfold clE;rw [if_neg (by rw [hX];decide)],show clS e st p=st from by unfold clS;rw [if_neg (by rw [hX];decide)],hX]
          clear hX
          go_enter Tryz.func8,Tryz.ntmps8
          go_upto_region 1 with fail
          (try rw [hw1])
          clear hw1
          go_wp2_with fail
          refine HCp.out.mono ?_
          rintro en w2 ⟨v2,rfl,o2,hb2⟩
          obtain ⟨a2,c2,hv2⟩:=o2.rd.shape
          subst hv2
          obtain ⟨w3,hw3⟩:∃ x,w2.alloc (.cells #[.int .i64 e,.slice a2 st.length c2] 35)=x:=⟨_,rfl⟩
          have b23:Below w2.heap.size w2 w3:=by rw [<- hw3];exact (Below.refl _ w2).alloc (Nat.le_refl _) _
          have kT:=hide (show Blk w3 w2.heap.size 35 [.int .i64 e,.slice a2 st.length c2] from by rw [<- hw3];exact Blk.new w2 _ _)
          have b13:=hb2.trans (b23.mono hb2.size)
          have hz2:=hb2.size
          have HCp:=trivial
          have kC:=hide (kC.out.below b13 kC.out.lt)
          have kP:=hide (kP.out.below b13 kP.out.lt)
          have kR:=hide (kR.out.below b13 kR.out.lt)
          have HO:=hide (o2.below b23 (Nat.le_refl _))
          have B13:=hide b13
          have x0:=kC.out.cell 0
          have x1:=kC.out.cell 1
          have y0:=kP.out.cell 0
          have y1:=kP.out.cell 1
          simp only [List.getElem?_cons_zero,List.getElem?_cons_succ] at x0 x1 y0 y1
          have HSt:=hide (HSt.out w3 b13)
          have Hw3:=hide hw3
          clear hw3 b13 b23 hb2 o2 v0 v1 HCp
          go_upto_region 2 with fail
          rw [Hw3.out]
          clear Hw3
          go_upto_region 3 with fail
          go_wp2_with fail
          refine HSt.out.mono ?_
          rintro en w4 ⟨rfl,hb4⟩
          have B14:=hide (B13.out.trans (hb4.mono B13.out.size))
          have kC:=hide (kC.out.below hb4 kC.out.lt)
          have kP:=hide (kP.out.below hb4 kP.out.lt)
          have kR:=hide (kR.out.below hb4 kR.out.lt)
          have kT:=hide (kT.out.below hb4 kT.out.lt)
          have HO:=hide (HO.out.below hb4 (Nat.le_refl _))
          have x0:=kC.out.cell 0
          have x1:=kC.out.cell 1
          have y0:=kP.out.cell 0
          have y1:=kP.out.cell 1
          simp only [List.getElem?_cons_zero,List.getElem?_cons_succ] at x0 x1 y0 y1
          clear HSt hb4 B13
          have HL:=hide (HLk.out w4 B14.out)
          clear HLk
          go_wp2_with fail
          refine HL.out.mono ?_
          rintro en w5 ⟨rfl,hb5⟩
          have B15:=hide (B14.out.trans (hb5.mono B14.out.size))
          have kC:=hide (kC.out.below hb5 kC.out.lt)
          have kP:=hide (kP.out.below hb5 kP.out.lt)
          have kR:=hide (kR.out.below hb5 kR.out.lt)
          have kT:=hide (kT.out.below hb5 kT.out.lt)
          have HO:=hide (HO.out.below hb5 (Nat.le_refl _))
          clear x0 x1 y0 y1 hb5 B14 HL
          have f0:=kT.out.cell 0
          have f1:=kT.out.cell 1
          have r0:=kR.out.cell 0
          have r1:=kR.out.cell 1
          have g0:=kR.out.frozen 0
          have g1:=kR.out.frozen 1
          simp only [List.getElem?_cons_zero,List.getElem?_cons_succ] at f0 f1 r0 r1
          have HOx:=hide (((HO.out.olderC (g:=w.heap.size+1+1) hz1 0 (.int .i64 e)).olderC (g:=w.heap.size+1+1) hz1 1 (.slice a2 st.length c2)).mono (show w.heap.size<=w1.heap.size by omega))
          have HBx:=hide (((B1.out.trans (B15.out.mono B1.out.size)).setCell (p:=⟨w.heap.size+1+1,0,none⟩) (show w.heap.size<=w.heap.size+1+1 by omega) (.int .i64 e)).setCell (p:=⟨w.heap.size+1+1,1,none⟩) (show w.heap.size<=w.heap.size+1+1 by omega) (.slice a2 st.length c2))
          clear kC kP kR kT HO B1 B15
          go_wp2
          refine bodyPost_ret (v:=.tuple #[.agg #[.int .i64 e,.slice a2 st.length c2],.bool false]) (by simp [results,Tryz.f8,go_sem,r0,r1]) rfl ?_
          exact ⟨_,rfl,HOx.out,HBx.out⟩
        · have HRa := hide ((blB_rd (lkB_at hL (p.bs.length - 2) (by omega)).1).2)
          rw [hL] at HLk HU
          rw [Bool.true_and] at HU
          clear hL
          generalize hYq:qcB st p.qr p.qb p.qw=YQ at HU HQc
          clear hYq
          have hwJ:((p.bs[p.bs.length - 1]'(by omega)).rd != (p.bs[p.bs.length - 2]'(by omega)).rd+1)=!(decide ((p.bs[p.bs.length - 2]'(by omega)).rd=(p.bs[p.bs.length - 1]'(by omega)).rd - 1)):=by
            by_cases h:(p.bs[p.bs.length - 2]'(by omega)).rd=(p.bs[p.bs.length - 1]'(by omega)).rd - 1
            · have h':(p.bs[p.bs.length - 1]'(by omega)).rd=(p.bs[p.bs.length - 2]'(by omega)).rd+1:=by omega
              rw [decide_eq_true h,h'];simp
            · rw [decide_eq_false h];simp;omega
          cases hJ:decide ((p.bs[p.bs.length - 2]'(by omega)).rd=(p.bs[p.bs.length - 1]'(by omega)).rd - 1)
          · rw [hJ] at HU hwJ
            rw [Bool.false_and] at HU
            rw [Bool.not_false] at hwJ
            clear hJ
            have hX:clB e st p=false:=HU.out
            clear HIs HU HN HNe
            rw [show clE e st p=e from by unfold clE;rw [if_neg (by rw [hX];decide)],show clS e st p=st from by unfold clS;rw [if_neg (by rw [hX];decide)],hX]
            clear hX
            go_enter Tryz.func8,Tryz.ntmps8
            go_upto_region 1 with fail
            (try rw [hw1])
            clear hw1
            go_wp2_with fail
            refine HCp.out.mono ?_
            rintro en w2 ⟨v2,rfl,o2,hb2⟩
            obtain ⟨a2,c2,hv2⟩:=o2.rd.shape
            subst hv2
            obtain ⟨w3,hw3⟩:∃ x,w2.alloc (.cells #[.int .i64 e,.slice a2 st.length c2] 35)=x:=⟨_,rfl⟩
            have b23:Below w2.heap.size w2 w3:=by rw [<- hw3];exact (Below.refl _ w2).alloc (Nat.le_refl _) _
            have kT:=hide (show Blk w3 w2.heap.size 35 [.int .i64 e,.slice a2 st.length c2] from by rw [<- hw3];exact Blk.new w2 _ _)
            have b13:=hb2.trans (b23.mono hb2.size)
            have hz2:=hb2.size
            have HCp:=trivial
            have kC:=hide (kC.out.below b13 kC.out.lt)
            have kP:=hide (kP.out.below b13 kP.out.lt)
            have kR:=hide (kR.out.below b13 kR.out.lt)
            have HO:=hide (o2.below b23 (Nat.le_refl _))
            have B13:=hide b13
            have x0:=kC.out.cell 0
            have x1:=kC.out.cell 1
            have y0:=kP.out.cell 0
            have y1:=kP.out.cell 1
            simp only [List.getElem?_cons_zero,List.getElem?_cons_succ] at x0 x1 y0 y1
            have HSt:=hide (HSt.out w3 b13)
            have Hw3:=hide hw3
            clear hw3 b13 b23 hb2 o2 v0 v1 HCp
            go_upto_region 2 with fail
            rw [Hw3.out]
            clear Hw3
            go_upto_region 3 with fail
            go_wp2_with fail
            refine HSt.out.mono ?_
            rintro en w4 ⟨rfl,hb4⟩
            have B14:=hide (B13.out.trans (hb4.mono B13.out.size))
            have kC:=hide (kC.out.below hb4 kC.out.lt)
            have kP:=hide (kP.out.below hb4 kP.out.lt)
            have kR:=hide (kR.out.below hb4 kR.out.lt)
            have kT:=hide (kT.out.below hb4 kT.out.lt)
            have HO:=hide (HO.out.below hb4 (Nat.le_refl _))
            have x0:=kC.out.cell 0
            have x1:=kC.out.cell 1
            have y0:=kP.out.cell 0
            have y1:=kP.out.cell 1
            simp only [List.getElem?_cons_zero,List.getElem?_cons_succ] at x0 x1 y0 y1
            clear HSt hb4 B13
            have HL:=hide (HLk.out w4 B14.out)
            clear HLk
            go_wp2_with fail
            refine HL.out.mono ?_
            rintro en w5 ⟨rfl,hb5⟩
            have B15:=hide (B14.out.trans (hb5.mono B14.out.size))
            have kC:=hide (kC.out.below hb5 kC.out.lt)
            have kP:=hide (kP.out.below hb5 kP.out.lt)
            have kR:=hide (kR.out.below hb5 kR.out.lt)
            have kT:=hide (kT.out.below hb5 kT.out.lt)
            have HO:=hide (HO.out.below hb5 (Nat.le_refl _))
            clear x0 x1 y0 y1 hb5 B14 HL
            obtain ⟨b,off,hab,hbw,hcap,hat⟩:=HK1.out.atC (by omega)
            subst hab
            obtain ⟨va,ka,ra⟩:=hat (p.bs.length - 2) (by omega)
            obtain ⟨vb,kb,rb⟩:=hat (p.bs.length - 1) (by omega)
            have hi1:(0:Int)<=(p.bs.length:Int) - 1:=by omega
            have hi2:(0:Int)<=(p.bs.length:Int) - 2:=by omega
            have hi3:(p.bs.length:Int) - 1 < (p.bs.length:Int):=by omega
            have hi4:(p.bs.length:Int) - 2 < (p.bs.length:Int):=by omega
            have RG:=hide (range_below kb.range B15.out hbw)
            have IE:=hide (show (Tryz.prog.info? 92).map (·.size)=some (bkC (p.bs[p.bs.length - 1]'(by omega)) vb).length from Tryz.infoA14)
            have H1:=hide (show (bkC (p.bs[p.bs.length - 1]'(by omega)) vb).toArray.all (·.oneCell')=true from by rw [List.all_toArray];exact bkC_one rb)
            have bz:Blk (w5.alloc (.cells #[.int .i64 0,.int .i64 0,.int .i64 0,.string { data:=#[] },.int .i64 0,.int .i64 0,.slice none 0 0,.int .i64 0,.slice none 0 0,.slice none 0 0,.slice none 0 0,.bool false,.slice none 0 0,.string { data:=#[] }] 92)) w5.heap.size 92 [.int .i64 0,.int .i64 0,.int .i64 0,.string { data:=#[] },.int .i64 0,.int .i64 0,.slice none 0 0,.int .i64 0,.slice none 0 0,.slice none 0 0,.slice none 0 0,.bool false,.slice none 0 0,.string { data:=#[] }]:=Blk.new w5 _ _
            have Hth:=hide (show (w5.alloc (.cells #[.int .i64 0,.int .i64 0,.int .i64 0,.string { data:=#[] },.int .i64 0,.int .i64 0,.slice none 0 0,.int .i64 0,.slice none 0 0,.slice none 0 0,.slice none 0 0,.bool false,.slice none 0 0,.string { data:=#[] }] 92)).there w5.heap.size 0 (bkC (p.bs[p.bs.length - 1]'(by omega)) vb).toArray.size from bz.there (by rw [List.size_toArray];rfl))
            obtain ⟨w6,hw6⟩:∃ x,(w5.alloc (.cells #[.int .i64 0,.int .i64 0,.int .i64 0,.string { data:=#[] },.int .i64 0,.int .i64 0,.slice none 0 0,.int .i64 0,.slice none 0 0,.slice none 0 0,.slice none 0 0,.bool false,.slice none 0 0,.string { data:=#[] }] 92)).setCells w5.heap.size 0 (bkC (p.bs[p.bs.length - 1]'(by omega)) vb)=x:=⟨_,rfl⟩
            have k6:Blk w6 w5.heap.size 92 (bkC (p.bs[p.bs.length - 1]'(by omega)) vb):=by rw [<- hw6];exact blk_all bz rfl
            have b56:Below w5.heap.size w5 w6:=by rw [<- hw6];exact ((Below.refl _ w5).alloc (Nat.le_refl _) _).trans (putC_below (Nat.le_refl _) _ _ _)
            have Hw6:=hide hw6
            have u1:=kP.out.cell 1
            have t0:w6.cell? ⟨w5.heap.size,0,none⟩=some (.int .i64 (p.bs[p.bs.length - 1]'(by omega)).id):=k6.cell 0
            have t2:w6.cell? ⟨w5.heap.size,2,none⟩=some (.int .i64 (p.bs[p.bs.length - 1]'(by omega)).rd):=k6.cell 2
            have B16:=hide (B15.out.trans (b56.mono B15.out.size))
            have kC:=hide (kC.out.below b56 kC.out.lt)
            have kP:=hide (kP.out.below b56 kP.out.lt)
            have kR:=hide (kR.out.below b56 kR.out.lt)
            have kT:=hide (kT.out.below b56 kT.out.lt)
            have HO:=hide (HO.out.below b56 (Nat.le_refl _))
            have ea:=(ka.below B16.out hbw).cells.2.2.1
            have hb6:=Nat.lt_of_lt_of_le hbw B16.out.size
            have x1:=kC.out.cell 1
            have y1:=kP.out.cell 1
            have y2:=kP.out.cell 2
            have y3:=kP.out.cell 3
            have y4:=kP.out.cell 4
            simp only [List.getElem?_cons_zero,List.getElem?_cons_succ] at x1 y1 y2 y3 y4 u1
            have g0:=cell_regrown t0
            have g2:=cell_regrown t2
            have ga:=cell_regrown ea
            have gc:=cell_regrown x1
            have gp1:=cell_regrown y1
            have gp2:=cell_regrown y2
            have gp3:=cell_regrown y3
            have gp4:=cell_regrown y4
            have HQ6:=hide (fun (d:Nat) (os:Array Obj)=>Calls.regrown_of (HQc.out (grow (redrawn w6 d) os) (B16.out.trans ((below_regrown w6 d os).mono B16.out.size))))
            have HAt:=hide (fun (i:Nat) (h:i < p.bs.length)=>(show ∃ bv,BkAt w1 b (off+i * 14) p.bs[i] bv/\RdK w1 p.bs[i] bv from hat i h))
            clear ka kb ra rb hat t0 t2 ea x1 y1 y2 y3 y4 bz hw6 k6 b56 hcap HQc HK1 B15
            generalize bkC (p.bs[p.bs.length - 1]'(by omega)) vb=db at RG IE H1 Hth Hw6
            generalize (p.bs[p.bs.length - 2]'(by omega)).rd=ra at ga HRa hwJ
            generalize (p.bs[p.bs.length - 1]'(by omega)).rd=rb at g2 hwJ
            generalize (p.bs[p.bs.length - 1]'(by omega)).id=ib at g0
            have hwr:IntKind.i64.wrap (ra+1)=ra+1:=by have:=HRa.out;rw [IntKind.wrap_i64];omega
            have hwr2:wrap64 (ra+1)=ra+1:=by have:=HRa.out;unfold wrap64;omega
            go_upto_region 6 with (first
              | (refine wpList_load_mid rfl 92 _ rfl b (off+(p.bs.length - 1) * 14) rfl db _ RG.out Tryz.underlying92 rfl IE.out ?_)
              | (refine wpList_store_mid rfl 92 _ _ rfl w5.heap.size 0 db.toArray rfl rfl Hth.out (by simpa using IE.out) H1.out ?_;rw [Hw6.out])
              | fail)
            refine wp_region_quiet_below (by kernel_rfl) (by kernel_rfl) ?_
            (try dsimp only [List.append])
            (try simp only [Act.put])
            iterate 35 (go_big_quiet_step (first | (go_at_call 36;exact HQ6.out _ _)))
            refine wpQuiet_nil ?_
            intro _ hw'
            obtain ⟨⟨dq,osq⟩,hw''⟩:=hw'
            subst hw''
            have hb7:=below_regrown w6 dq osq
            obtain ⟨w7,hw7⟩:∃ x,grow (redrawn w6 dq) osq=x:=⟨_,rfl⟩
            rw [hw7] at hb7 ⊢
            have B17:=hide (B16.out.trans (hb7.mono B16.out.size))
            have kC:=hide (kC.out.below hb7 kC.out.lt)
            have kP:=hide (kP.out.below hb7 kP.out.lt)
            have kR:=hide (kR.out.below hb7 kR.out.lt)
            have kT:=hide (kT.out.below hb7 kT.out.lt)
            have HO:=hide (HO.out.below hb7 (Nat.le_refl _))
            clear hw7 hb7 g0 g2 ga gc gp1 gp2 gp3 gp4 u1 HQ6 B16 RG IE H1 Hth Hw6 hwr hwr2
            have f0:=kT.out.cell 0
            have f1:=kT.out.cell 1
            have r0:=kR.out.cell 0
            have r1:=kR.out.cell 1
            have g0:=kR.out.frozen 0
            have g1:=kR.out.frozen 1
            simp only [List.getElem?_cons_zero,List.getElem?_cons_succ] at f0 f1 r0 r1
            have HOx:=hide (((HO.out.olderC (g:=w.heap.size+1+1) hz1 0 (.int .i64 e)).olderC (g:=w.heap.size+1+1) hz1 1 (.slice a2 st.length c2)).mono (show w.heap.size<=w1.heap.size by omega))
            have HBx:=hide (((B1.out.trans (B17.out.mono B1.out.size)).setCell (p:=⟨w.heap.size+1+1,0,none⟩) (show w.heap.size<=w.heap.size+1+1 by omega) (.int .i64 e)).setCell (p:=⟨w.heap.size+1+1,1,none⟩) (show w.heap.size<=w.heap.size+1+1 by omega) (.slice a2 st.length c2))
            clear kC kP kR kT HO B1 B17
            go_wp2
            refine bodyPost_ret (v:=.tuple #[.agg #[.int .i64 e,.slice a2 st.length c2],.bool false]) (by simp [results,Tryz.f8,go_sem,r0,r1]) rfl ?_
            exact ⟨_,rfl,HOx.out,HBx.out⟩
          · rw [hJ] at HU hwJ
            rw [Bool.true_and] at HU
            rw [Bool.not_true] at hwJ
            clear hJ
            cases YQ
            · rw [Bool.and_false,Bool.and_false,Bool.false_and] at HU
              have hX:clB e st p=false:=HU.out
              clear HIs HU HN HNe
              rw [show clE e st p=e from by unfold clE;rw [if_neg (by rw [hX];decide)],show clS e st p=st from by unfold clS;rw [if_neg (by rw [hX];decide)],hX]
              clear hX
              go_enter Tryz.func8,Tryz.ntmps8
              go_upto_region 1 with fail
              (try rw [hw1])
              clear hw1
              go_wp2_with fail
              refine HCp.out.mono ?_
              rintro en w2 ⟨v2,rfl,o2,hb2⟩
              obtain ⟨a2,c2,hv2⟩:=o2.rd.shape
              subst hv2
              obtain ⟨w3,hw3⟩:∃ x,w2.alloc (.cells #[.int .i64 e,.slice a2 st.length c2] 35)=x:=⟨_,rfl⟩
              have b23:Below w2.heap.size w2 w3:=by rw [<- hw3];exact (Below.refl _ w2).alloc (Nat.le_refl _) _
              have kT:=hide (show Blk w3 w2.heap.size 35 [.int .i64 e,.slice a2 st.length c2] from by rw [<- hw3];exact Blk.new w2 _ _)
              have b13:=hb2.trans (b23.mono hb2.size)
              have hz2:=hb2.size
              have HCp:=trivial
              have kC:=hide (kC.out.below b13 kC.out.lt)
              have kP:=hide (kP.out.below b13 kP.out.lt)
              have kR:=hide (kR.out.below b13 kR.out.lt)
              have HO:=hide (o2.below b23 (Nat.le_refl _))
              have B13:=hide b13
              have x0:=kC.out.cell 0
              have x1:=kC.out.cell 1
              have y0:=kP.out.cell 0
              have y1:=kP.out.cell 1
              simp only [List.getElem?_cons_zero,List.getElem?_cons_succ] at x0 x1 y0 y1
              have HSt:=hide (HSt.out w3 b13)
              have Hw3:=hide hw3
              clear hw3 b13 b23 hb2 o2 v0 v1 HCp
              go_upto_region 2 with fail
              rw [Hw3.out]
              clear Hw3
              go_upto_region 3 with fail
              go_wp2_with fail
              refine HSt.out.mono ?_
              rintro en w4 ⟨rfl,hb4⟩
              have B14:=hide (B13.out.trans (hb4.mono B13.out.size))
              have kC:=hide (kC.out.below hb4 kC.out.lt)
              have kP:=hide (kP.out.below hb4 kP.out.lt)
              have kR:=hide (kR.out.below hb4 kR.out.lt)
              have kT:=hide (kT.out.below hb4 kT.out.lt)
              have HO:=hide (HO.out.below hb4 (Nat.le_refl _))
              have x0:=kC.out.cell 0
              have x1:=kC.out.cell 1
              have y0:=kP.out.cell 0
              have y1:=kP.out.cell 1
              simp only [List.getElem?_cons_zero,List.getElem?_cons_succ] at x0 x1 y0 y1
              clear HSt hb4 B13
              have HL:=hide (HLk.out w4 B14.out)
              clear HLk
              go_wp2_with fail
              refine HL.out.mono ?_
              rintro en w5 ⟨rfl,hb5⟩
              have B15:=hide (B14.out.trans (hb5.mono B14.out.size))
              have kC:=hide (kC.out.below hb5 kC.out.lt)
              have kP:=hide (kP.out.below hb5 kP.out.lt)
              have kR:=hide (kR.out.below hb5 kR.out.lt)
              have kT:=hide (kT.out.below hb5 kT.out.lt)
              have HO:=hide (HO.out.below hb5 (Nat.le_refl _))
              clear x0 x1 y0 y1 hb5 B14 HL
              obtain ⟨b,off,hab,hbw,hcap,hat⟩:=HK1.out.atC (by omega)
              subst hab
              obtain ⟨va,ka,ra⟩:=hat (p.bs.length - 2) (by omega)
              obtain ⟨vb,kb,rb⟩:=hat (p.bs.length - 1) (by omega)
              have hi1:(0:Int)<=(p.bs.length:Int) - 1:=by omega
              have hi2:(0:Int)<=(p.bs.length:Int) - 2:=by omega
              have hi3:(p.bs.length:Int) - 1 < (p.bs.length:Int):=by omega
              have hi4:(p.bs.length:Int) - 2 < (p.bs.length:Int):=by omega
              have RG:=hide (range_below kb.range B15.out hbw)
              have IE:=hide (show (Tryz.prog.info? 92).map (·.size)=some (bkC (p.bs[p.bs.length - 1]'(by omega)) vb).length from Tryz.infoA14)
              have H1:=hide (show (bkC (p.bs[p.bs.length - 1]'(by omega)) vb).toArray.all (·.oneCell')=true from by rw [List.all_toArray];exact bkC_one rb)
              have bz:Blk (w5.alloc (.cells #[.int .i64 0,.int .i64 0,.int .i64 0,.string { data:=#[] },.int .i64 0,.int .i64 0,.slice none 0 0,.int .i64 0,.slice none 0 0,.slice none 0 0,.slice none 0 0,.bool false,.slice none 0 0,.string { data:=#[] }] 92)) w5.heap.size 92 [.int .i64 0,.int .i64 0,.int .i64 0,.string { data:=#[] },.int .i64 0,.int .i64 0,.slice none 0 0,.int .i64 0,.slice none 0 0,.slice none 0 0,.slice none 0 0,.bool false,.slice none 0 0,.string { data:=#[] }]:=Blk.new w5 _ _
              have Hth:=hide (show (w5.alloc (.cells #[.int .i64 0,.int .i64 0,.int .i64 0,.string { data:=#[] },.int .i64 0,.int .i64 0,.slice none 0 0,.int .i64 0,.slice none 0 0,.slice none 0 0,.slice none 0 0,.bool false,.slice none 0 0,.string { data:=#[] }] 92)).there w5.heap.size 0 (bkC (p.bs[p.bs.length - 1]'(by omega)) vb).toArray.size from bz.there (by rw [List.size_toArray];rfl))
              obtain ⟨w6,hw6⟩:∃ x,(w5.alloc (.cells #[.int .i64 0,.int .i64 0,.int .i64 0,.string { data:=#[] },.int .i64 0,.int .i64 0,.slice none 0 0,.int .i64 0,.slice none 0 0,.slice none 0 0,.slice none 0 0,.bool false,.slice none 0 0,.string { data:=#[] }] 92)).setCells w5.heap.size 0 (bkC (p.bs[p.bs.length - 1]'(by omega)) vb)=x:=⟨_,rfl⟩
              have k6:Blk w6 w5.heap.size 92 (bkC (p.bs[p.bs.length - 1]'(by omega)) vb):=by rw [<- hw6];exact blk_all bz rfl
              have b56:Below w5.heap.size w5 w6:=by rw [<- hw6];exact ((Below.refl _ w5).alloc (Nat.le_refl _) _).trans (putC_below (Nat.le_refl _) _ _ _)
              have Hw6:=hide hw6
              have u1:=kP.out.cell 1
              have t0:w6.cell? ⟨w5.heap.size,0,none⟩=some (.int .i64 (p.bs[p.bs.length - 1]'(by omega)).id):=k6.cell 0
              have t2:w6.cell? ⟨w5.heap.size,2,none⟩=some (.int .i64 (p.bs[p.bs.length - 1]'(by omega)).rd):=k6.cell 2
              have B16:=hide (B15.out.trans (b56.mono B15.out.size))
              have kC:=hide (kC.out.below b56 kC.out.lt)
              have kP:=hide (kP.out.below b56 kP.out.lt)
              have kR:=hide (kR.out.below b56 kR.out.lt)
              have kT:=hide (kT.out.below b56 kT.out.lt)
              have HO:=hide (HO.out.below b56 (Nat.le_refl _))
              have ea:=(ka.below B16.out hbw).cells.2.2.1
              have hb6:=Nat.lt_of_lt_of_le hbw B16.out.size
              have x1:=kC.out.cell 1
              have y1:=kP.out.cell 1
              have y2:=kP.out.cell 2
              have y3:=kP.out.cell 3
              have y4:=kP.out.cell 4
              simp only [List.getElem?_cons_zero,List.getElem?_cons_succ] at x1 y1 y2 y3 y4 u1
              have g0:=cell_regrown t0
              have g2:=cell_regrown t2
              have ga:=cell_regrown ea
              have gc:=cell_regrown x1
              have gp1:=cell_regrown y1
              have gp2:=cell_regrown y2
              have gp3:=cell_regrown y3
              have gp4:=cell_regrown y4
              have HQ6:=hide (fun (d:Nat) (os:Array Obj)=>Calls.regrown_of (HQc.out (grow (redrawn w6 d) os) (B16.out.trans ((below_regrown w6 d os).mono B16.out.size))))
              have HAt:=hide (fun (i:Nat) (h:i < p.bs.length)=>(show ∃ bv,BkAt w1 b (off+i * 14) p.bs[i] bv/\RdK w1 p.bs[i] bv from hat i h))
              clear ka kb ra rb hat t0 t2 ea x1 y1 y2 y3 y4 bz hw6 k6 b56 hcap HQc HK1 B15
              generalize bkC (p.bs[p.bs.length - 1]'(by omega)) vb=db at RG IE H1 Hth Hw6
              generalize (p.bs[p.bs.length - 2]'(by omega)).rd=ra at ga HRa hwJ
              generalize (p.bs[p.bs.length - 1]'(by omega)).rd=rb at g2 hwJ
              generalize (p.bs[p.bs.length - 1]'(by omega)).id=ib at g0
              have hwr:IntKind.i64.wrap (ra+1)=ra+1:=by have:=HRa.out;rw [IntKind.wrap_i64];omega
              have hwr2:wrap64 (ra+1)=ra+1:=by have:=HRa.out;unfold wrap64;omega
              go_upto_region 6 with (first
                | (refine wpList_load_mid rfl 92 _ rfl b (off+(p.bs.length - 1) * 14) rfl db _ RG.out Tryz.underlying92 rfl IE.out ?_)
                | (refine wpList_store_mid rfl 92 _ _ rfl w5.heap.size 0 db.toArray rfl rfl Hth.out (by simpa using IE.out) H1.out ?_;rw [Hw6.out])
                | fail)
              refine wp_region_quiet_below (by kernel_rfl) (by kernel_rfl) ?_
              (try dsimp only [List.append])
              (try simp only [Act.put])
              iterate 35 (go_big_quiet_step (first | (go_at_call 36;exact HQ6.out _ _)))
              refine wpQuiet_nil ?_
              intro _ hw'
              obtain ⟨⟨dq,osq⟩,hw''⟩:=hw'
              subst hw''
              have hb7:=below_regrown w6 dq osq
              obtain ⟨w7,hw7⟩:∃ x,grow (redrawn w6 dq) osq=x:=⟨_,rfl⟩
              rw [hw7] at hb7 ⊢
              have B17:=hide (B16.out.trans (hb7.mono B16.out.size))
              have kC:=hide (kC.out.below hb7 kC.out.lt)
              have kP:=hide (kP.out.below hb7 kP.out.lt)
              have kR:=hide (kR.out.below hb7 kR.out.lt)
              have kT:=hide (kT.out.below hb7 kT.out.lt)
              have HO:=hide (HO.out.below hb7 (Nat.le_refl _))
              clear hw7 hb7 g0 g2 ga gc gp1 gp2 gp3 gp4 u1 HQ6 B16 RG IE H1 Hth Hw6 hwr hwr2
              have f0:=kT.out.cell 0
              have f1:=kT.out.cell 1
              have r0:=kR.out.cell 0
              have r1:=kR.out.cell 1
              have g0:=kR.out.frozen 0
              have g1:=kR.out.frozen 1
              simp only [List.getElem?_cons_zero,List.getElem?_cons_succ] at f0 f1 r0 r1
              have HOx:=hide (((HO.out.olderC (g:=w.heap.size+1+1) hz1 0 (.int .i64 e)).olderC (g:=w.heap.size+1+1) hz1 1 (.slice a2 st.length c2)).mono (show w.heap.size<=w1.heap.size by omega))
              have HBx:=hide (((B1.out.trans (B17.out.mono B1.out.size)).setCell (p:=⟨w.heap.size+1+1,0,none⟩) (show w.heap.size<=w.heap.size+1+1 by omega) (.int .i64 e)).setCell (p:=⟨w.heap.size+1+1,1,none⟩) (show w.heap.size<=w.heap.size+1+1 by omega) (.slice a2 st.length c2))
              clear kC kP kR kT HO B1 B17
              go_wp2
              refine bodyPost_ret (v:=.tuple #[.agg #[.int .i64 e,.slice a2 st.length c2],.bool false]) (by simp [results,Tryz.f8,go_sem,r0,r1]) rfl ?_
              exact ⟨_,rfl,HOx.out,HBx.out⟩
            · rw [Bool.and_true] at HU
              by_cases hR:p.qr=(p.bs[p.bs.length - 1]'(by omega)).rd
              · have hRb : (p.qr != (p.bs[p.bs.length - 1]'(by omega)).rd)=false:=by rw [hR];simp
                rw [decide_eq_true hR,Bool.and_true] at HU
                clear hR
                by_cases hB:p.qb=(p.bs[p.bs.length - 1]'(by omega)).id
                · have hBb:(p.qb != (p.bs[p.bs.length - 1]'(by omega)).id)=false:=by rw [hB];simp
                  rw [decide_eq_true hB,Bool.true_and] at HU
                  clear hB
                  cases hE:(p.bs.take (p.bs.length - 1)).any (fun x=>x.en)
                  · rw [hE] at HU
                    have HAny:=hide hE
                    clear hE
                    have hX:clB e st p=false:=HU.out
                    clear HIs HU HN HNe
                    rw [show clE e st p=e from by unfold clE;rw [if_neg (by rw [hX];decide)],show clS e st p=st from by unfold clS;rw [if_neg (by rw [hX];decide)],hX]
                    clear hX
                    go_enter Tryz.func8,Tryz.ntmps8
                    go_upto_region 1 with fail
                    (try rw [hw1])
                    clear hw1
                    go_wp2_with fail
                    refine HCp.out.mono ?_
                    rintro en w2 ⟨v2,rfl,o2,hb2⟩
                    obtain ⟨a2,c2,hv2⟩:=o2.rd.shape
                    subst hv2
                    obtain ⟨w3,hw3⟩:∃ x,w2.alloc (.cells #[.int .i64 e,.slice a2 st.length c2] 35)=x:=⟨_,rfl⟩
                    have b23:Below w2.heap.size w2 w3:=by rw [<- hw3];exact (Below.refl _ w2).alloc (Nat.le_refl _) _
                    have kT:=hide (show Blk w3 w2.heap.size 35 [.int .i64 e,.slice a2 st.length c2] from by rw [<- hw3];exact Blk.new w2 _ _)
                    have b13:=hb2.trans (b23.mono hb2.size)
                    have hz2:=hb2.size
                    have HCp:=trivial
                    have kC:=hide (kC.out.below b13 kC.out.lt)
                    have kP:=hide (kP.out.below b13 kP.out.lt)
                    have kR:=hide (kR.out.below b13 kR.out.lt)
                    have HO:=hide (o2.below b23 (Nat.le_refl _))
                    have B13:=hide b13
                    have x0:=kC.out.cell 0
                    have x1:=kC.out.cell 1
                    have y0:=kP.out.cell 0
                    have y1:=kP.out.cell 1
                    simp only [List.getElem?_cons_zero,List.getElem?_cons_succ] at x0 x1 y0 y1
                    have HSt:=hide (HSt.out w3 b13)
                    have Hw3:=hide hw3
                    clear hw3 b13 b23 hb2 o2 v0 v1 HCp
                    go_upto_region 2 with fail
                    rw [Hw3.out]
                    clear Hw3
                    go_upto_region 3 with fail
                    go_wp2_with fail
                    refine HSt.out.mono ?_
                    rintro en w4 ⟨rfl,hb4⟩
                    have B14:=hide (B13.out.trans (hb4.mono B13.out.size))
                    have kC:=hide (kC.out.below hb4 kC.out.lt)
                    have kP:=hide (kP.out.below hb4 kP.out.lt)
                    have kR:=hide (kR.out.below hb4 kR.out.lt)
                    have kT:=hide (kT.out.below hb4 kT.out.lt)
                    have HO:=hide (HO.out.below hb4 (Nat.le_refl _))
                    have x0:=kC.out.cell 0
                    have x1:=kC.out.cell 1
                    have y0:=kP.out.cell 0
                    have y1:=kP.out.cell 1
                    simp only [List.getElem?_cons_zero,List.getElem?_cons_succ] at x0 x1 y0 y1
                    clear HSt hb4 B13
                    have HL:=hide (HLk.out w4 B14.out)
                    clear HLk
                    go_wp2_with fail
                    refine HL.out.mono ?_
                    rintro en w5 ⟨rfl,hb5⟩
                    have B15:=hide (B14.out.trans (hb5.mono B14.out.size))
                    have kC:=hide (kC.out.below hb5 kC.out.lt)
                    have kP:=hide (kP.out.below hb5 kP.out.lt)
                    have kR:=hide (kR.out.below hb5 kR.out.lt)
                    have kT:=hide (kT.out.below hb5 kT.out.lt)
                    have HO:=hide (HO.out.below hb5 (Nat.le_refl _))
                    clear x0 x1 y0 y1 hb5 B14 HL
                    obtain ⟨b,off,hab,hbw,hcap,hat⟩:=HK1.out.atC (by omega)
                    subst hab
                    obtain ⟨va,ka,ra⟩:=hat (p.bs.length - 2) (by omega)
                    obtain ⟨vb,kb,rb⟩:=hat (p.bs.length - 1) (by omega)
                    have hi1:(0:Int)<=(p.bs.length:Int) - 1:=by omega
                    have hi2:(0:Int)<=(p.bs.length:Int) - 2:=by omega
                    have hi3:(p.bs.length:Int) - 1 < (p.bs.length:Int):=by omega
                    have hi4:(p.bs.length:Int) - 2 < (p.bs.length:Int):=by omega
                    have RG:=hide (range_below kb.range B15.out hbw)
                    have IE:=hide (show (Tryz.prog.info? 92).map (·.size)=some (bkC (p.bs[p.bs.length - 1]'(by omega)) vb).length from Tryz.infoA14)
                    have H1:=hide (show (bkC (p.bs[p.bs.length - 1]'(by omega)) vb).toArray.all (·.oneCell')=true from by rw [List.all_toArray];exact bkC_one rb)
                    have bz:Blk (w5.alloc (.cells #[.int .i64 0,.int .i64 0,.int .i64 0,.string { data:=#[] },.int .i64 0,.int .i64 0,.slice none 0 0,.int .i64 0,.slice none 0 0,.slice none 0 0,.slice none 0 0,.bool false,.slice none 0 0,.string { data:=#[] }] 92)) w5.heap.size 92 [.int .i64 0,.int .i64 0,.int .i64 0,.string { data:=#[] },.int .i64 0,.int .i64 0,.slice none 0 0,.int .i64 0,.slice none 0 0,.slice none 0 0,.slice none 0 0,.bool false,.slice none 0 0,.string { data:=#[] }]:=Blk.new w5 _ _
                    have Hth:=hide (show (w5.alloc (.cells #[.int .i64 0,.int .i64 0,.int .i64 0,.string { data:=#[] },.int .i64 0,.int .i64 0,.slice none 0 0,.int .i64 0,.slice none 0 0,.slice none 0 0,.slice none 0 0,.bool false,.slice none 0 0,.string { data:=#[] }] 92)).there w5.heap.size 0 (bkC (p.bs[p.bs.length - 1]'(by omega)) vb).toArray.size from bz.there (by rw [List.size_toArray];rfl))
                    obtain ⟨w6,hw6⟩:∃ x,(w5.alloc (.cells #[.int .i64 0,.int .i64 0,.int .i64 0,.string { data:=#[] },.int .i64 0,.int .i64 0,.slice none 0 0,.int .i64 0,.slice none 0 0,.slice none 0 0,.slice none 0 0,.bool false,.slice none 0 0,.string { data:=#[] }] 92)).setCells w5.heap.size 0 (bkC (p.bs[p.bs.length - 1]'(by omega)) vb)=x:=⟨_,rfl⟩
                    have k6:Blk w6 w5.heap.size 92 (bkC (p.bs[p.bs.length - 1]'(by omega)) vb):=by rw [<- hw6];exact blk_all bz rfl
                    have b56:Below w5.heap.size w5 w6:=by rw [<- hw6];exact ((Below.refl _ w5).alloc (Nat.le_refl _) _).trans (putC_below (Nat.le_refl _) _ _ _)
                    have Hw6:=hide hw6
                    have u1:=kP.out.cell 1
                    have t0:w6.cell? ⟨w5.heap.size,0,none⟩=some (.int .i64 (p.bs[p.bs.length - 1]'(by omega)).id):=k6.cell 0
                    have t2:w6.cell? ⟨w5.heap.size,2,none⟩=some (.int .i64 (p.bs[p.bs.length - 1]'(by omega)).rd):=k6.cell 2
                    have B16:=hide (B15.out.trans (b56.mono B15.out.size))
                    have kC:=hide (kC.out.below b56 kC.out.lt)
                    have kP:=hide (kP.out.below b56 kP.out.lt)
                    have kR:=hide (kR.out.below b56 kR.out.lt)
                    have kT:=hide (kT.out.below b56 kT.out.lt)
                    have HO:=hide (HO.out.below b56 (Nat.le_refl _))
                    have ea:=(ka.below B16.out hbw).cells.2.2.1
                    have hb6:=Nat.lt_of_lt_of_le hbw B16.out.size
                    have x1:=kC.out.cell 1
                    have y1:=kP.out.cell 1
                    have y2:=kP.out.cell 2
                    have y3:=kP.out.cell 3
                    have y4:=kP.out.cell 4
                    simp only [List.getElem?_cons_zero,List.getElem?_cons_succ] at x1 y1 y2 y3 y4 u1
                    have g0:=cell_regrown t0
                    have g2:=cell_regrown t2
                    have ga:=cell_regrown ea
                    have gc:=cell_regrown x1
                    have gp1:=cell_regrown y1
                    have gp2:=cell_regrown y2
                    have gp3:=cell_regrown y3
                    have gp4:=cell_regrown y4
                    have HQ6:=hide (fun (d:Nat) (os:Array Obj)=>Calls.regrown_of (HQc.out (grow (redrawn w6 d) os) (B16.out.trans ((below_regrown w6 d os).mono B16.out.size))))
                    have HAt:=hide (fun (i:Nat) (h:i < p.bs.length)=>(show ∃ bv,BkAt w1 b (off+i * 14) p.bs[i] bv/\RdK w1 p.bs[i] bv from hat i h))
                    clear ka kb ra rb hat t0 t2 ea x1 y1 y2 y3 y4 bz hw6 k6 b56 hcap HQc HK1 B15
                    generalize bkC (p.bs[p.bs.length - 1]'(by omega)) vb=db at RG IE H1 Hth Hw6
                    generalize (p.bs[p.bs.length - 2]'(by omega)).rd=ra at ga HRa hwJ
                    generalize (p.bs[p.bs.length - 1]'(by omega)).rd=rb at g2 hwJ hRb
                    generalize (p.bs[p.bs.length - 1]'(by omega)).id=ib at g0 hBb
                    have hwr:IntKind.i64.wrap (ra+1)=ra+1:=by have:=HRa.out;rw [IntKind.wrap_i64];omega
                    have hwr2:wrap64 (ra+1)=ra+1:=by have:=HRa.out;unfold wrap64;omega
                    go_upto_region 6 with (first
                      | (refine wpList_load_mid rfl 92 _ rfl b (off+(p.bs.length - 1) * 14) rfl db _ RG.out Tryz.underlying92 rfl IE.out ?_)
                      | (refine wpList_store_mid rfl 92 _ _ rfl w5.heap.size 0 db.toArray rfl rfl Hth.out (by simpa using IE.out) H1.out ?_;rw [Hw6.out])
                      | fail)
                    refine wp_region_quiet_below (by kernel_rfl) (by kernel_rfl) ?_
                    (try dsimp only [List.append])
                    (try simp only [Act.put])
                    iterate 35 (go_big_quiet_step (first | (go_at_call 36;exact HQ6.out _ _)))
                    refine wpQuiet_nil ?_
                    intro _ hw'
                    obtain ⟨⟨dq,osq⟩,hw''⟩:=hw'
                    subst hw''
                    have hb7:=below_regrown w6 dq osq
                    obtain ⟨w7,hw7⟩:∃ x,grow (redrawn w6 dq) osq=x:=⟨_,rfl⟩
                    rw [hw7] at hb7 ⊢
                    have B17:=hide (B16.out.trans (hb7.mono B16.out.size))
                    have kC:=hide (kC.out.below hb7 kC.out.lt)
                    have kP:=hide (kP.out.below hb7 kP.out.lt)
                    have kR:=hide (kR.out.below hb7 kR.out.lt)
                    have kT:=hide (kT.out.below hb7 kT.out.lt)
                    have HO:=hide (HO.out.below hb7 (Nat.le_refl _))
                    clear hw7 hb7 g0 g2 ga gc gp1 gp2 gp3 gp4 u1 HQ6 B16 RG IE H1 Hth Hw6 hwr hwr2
                    have z1:=kP.out.cell 1
                    simp only [List.getElem?_cons_zero,List.getElem?_cons_succ] at z1
                    go_wp2
                    go_loopw [9] (fun iv wr=>∃ k:Nat,k<=p.bs.length - 1/\iv=.int .i64 (k:Int)/\(∀ j (h:j < p.bs.length),j < k->p.bs[j].en=false)/\wr=w7) (fun iv _=>p.bs.length - (intOf iv).toNat)
                    case atStart=>exact ⟨0,by omega,rfl,fun j _ h=>by omega,rfl⟩
                    case round =>
                      obtain ⟨k,hk,rfl,hno,rfl⟩:=hrel
                      have Hno:=hide hno
                      clear hno
                      by_cases hlt:k < p.bs.length - 1
                      · have hli:(k:Int) < (p.bs.length:Int) - 1:=by omega
                        have hlj:(k:Int) < (p.bs.length:Int):=by omega
                        obtain ⟨bv,hk1,hrk⟩:=HAt.out k (by omega)
                        have hk7:=hk1.below B17.out hbw
                        have en7:=hk7.cells.2.2.2.2.2.2.2.2.2.2.2.1
                        cases hen:(p.bs[k]'(by omega)).en
                        · skip
                          have Hn2:=hide (show ∀ j (h:j < p.bs.length),j < k+1->p.bs[j].en=false from fun j h hj=>by
                            rcases Nat.lt_succ_iff_lt_or_eq.1 hj with h' | h'
                            · exact Hno.out j h h'
                            · subst h';exact hen)
                          rw [hen] at en7
                          clear Hno hen hk1 hrk hk7
                          go_wp2
                          go_roundw
                          case rel=>exact ⟨k+1,by omega,by go_num,Hn2.out,by trivial⟩
                          case measure=>simp [intOf];omega
                        · have hA:=HAny.out
                          rw [List.any_eq_false] at hA
                          exact absurd hen (hA _ (List.mem_iff_getElem.2 ⟨k,by rw [List.length_take];omega,by rw [List.getElem_take]⟩))
                      · have hle:¬ ((k:Int) < (p.bs.length:Int) - 1):=by omega
                        clear Hno HAt HAny
                        have f0:=kT.out.cell 0
                        have f1:=kT.out.cell 1
                        have r0:=kR.out.cell 0
                        have r1:=kR.out.cell 1
                        have g0:=kR.out.frozen 0
                        have g1:=kR.out.frozen 1
                        simp only [List.getElem?_cons_zero,List.getElem?_cons_succ] at f0 f1 r0 r1
                        have HOx:=hide (((HO.out.olderC (g:=w.heap.size+1+1) hz1 0 (.int .i64 e)).olderC (g:=w.heap.size+1+1) hz1 1 (.slice a2 st.length c2)).mono (show w.heap.size<=w1.heap.size by omega))
                        have HBx:=hide (((B1.out.trans (B17.out.mono B1.out.size)).setCell (p:=⟨w.heap.size+1+1,0,none⟩) (show w.heap.size<=w.heap.size+1+1 by omega) (.int .i64 e)).setCell (p:=⟨w.heap.size+1+1,1,none⟩) (show w.heap.size<=w.heap.size+1+1 by omega) (.slice a2 st.length c2))
                        go_wp2
                        refine bodyPost_ret (v:=.tuple #[.agg #[.int .i64 e,.slice a2 st.length c2],.bool false]) (by simp [results,Tryz.f8,go_sem,r0,r1]) rfl ?_
                        exact ⟨_,rfl,HOx.out,HBx.out⟩
                  · rw [hE] at HU
                    have HAny:=hide hE
                    have hX:clB e st p=true:=HU.out
                    obtain ⟨he0,he9⟩:=HIs.out HU.out
                    have hew:IntKind.i64.wrap (e+1)=e+1:=by rw [IntKind.wrap_i64];omega
                    clear hE HIs HU
                    rw [show clE e st p=e+1 from by unfold clE;rw [if_pos hX],show clS e st p=enN p.bs from by unfold clS;rw [if_pos hX],hX]
                    clear hX
                    go_enter Tryz.func8,Tryz.ntmps8
                    go_upto_region 1 with fail
                    (try rw [hw1])
                    clear hw1
                    go_wp2_with fail
                    refine HCp.out.mono ?_
                    rintro en w2 ⟨v2,rfl,o2,hb2⟩
                    obtain ⟨a2,c2,hv2⟩:=o2.rd.shape
                    subst hv2
                    obtain ⟨w3,hw3⟩:∃ x,w2.alloc (.cells #[.int .i64 e,.slice a2 st.length c2] 35)=x:=⟨_,rfl⟩
                    have b23:Below w2.heap.size w2 w3:=by rw [<- hw3];exact (Below.refl _ w2).alloc (Nat.le_refl _) _
                    have kT:=hide (show Blk w3 w2.heap.size 35 [.int .i64 e,.slice a2 st.length c2] from by rw [<- hw3];exact Blk.new w2 _ _)
                    have b13:=hb2.trans (b23.mono hb2.size)
                    have hz2:=hb2.size
                    have HCp:=trivial
                    have kC:=hide (kC.out.below b13 kC.out.lt)
                    have kP:=hide (kP.out.below b13 kP.out.lt)
                    have kR:=hide (kR.out.below b13 kR.out.lt)
                    have HO:=hide (o2.below b23 (Nat.le_refl _))
                    have B13:=hide b13
                    have x0:=kC.out.cell 0
                    have x1:=kC.out.cell 1
                    have y0:=kP.out.cell 0
                    have y1:=kP.out.cell 1
                    simp only [List.getElem?_cons_zero,List.getElem?_cons_succ] at x0 x1 y0 y1
                    have HSt:=hide (HSt.out w3 b13)
                    have Hw3:=hide hw3
                    clear hw3 b13 b23 hb2 o2 v0 v1 HCp
                    go_upto_region 2 with fail
                    rw [Hw3.out]
                    clear Hw3
                    go_upto_region 3 with fail
                    go_wp2_with fail
                    refine HSt.out.mono ?_
                    rintro en w4 ⟨rfl,hb4⟩
                    have B14:=hide (B13.out.trans (hb4.mono B13.out.size))
                    have kC:=hide (kC.out.below hb4 kC.out.lt)
                    have kP:=hide (kP.out.below hb4 kP.out.lt)
                    have kR:=hide (kR.out.below hb4 kR.out.lt)
                    have kT:=hide (kT.out.below hb4 kT.out.lt)
                    have HO:=hide (HO.out.below hb4 (Nat.le_refl _))
                    have x0:=kC.out.cell 0
                    have x1:=kC.out.cell 1
                    have y0:=kP.out.cell 0
                    have y1:=kP.out.cell 1
                    simp only [List.getElem?_cons_zero,List.getElem?_cons_succ] at x0 x1 y0 y1
                    clear HSt hb4 B13
                    have HL:=hide (HLk.out w4 B14.out)
                    clear HLk
                    go_wp2_with fail
                    refine HL.out.mono ?_
                    rintro en w5 ⟨rfl,hb5⟩
                    have B15:=hide (B14.out.trans (hb5.mono B14.out.size))
                    have kC:=hide (kC.out.below hb5 kC.out.lt)
                    have kP:=hide (kP.out.below hb5 kP.out.lt)
                    have kR:=hide (kR.out.below hb5 kR.out.lt)
                    have kT:=hide (kT.out.below hb5 kT.out.lt)
                    have HO:=hide (HO.out.below hb5 (Nat.le_refl _))
                    clear x0 x1 y0 y1 hb5 B14 HL
                    obtain ⟨b,off,hab,hbw,hcap,hat⟩:=HK1.out.atC (by omega)
                    subst hab
                    obtain ⟨va,ka,ra⟩:=hat (p.bs.length - 2) (by omega)
                    obtain ⟨vb,kb,rb⟩:=hat (p.bs.length - 1) (by omega)
                    have hi1:(0:Int)<=(p.bs.length:Int) - 1:=by omega
                    have hi2:(0:Int)<=(p.bs.length:Int) - 2:=by omega
                    have hi3:(p.bs.length:Int) - 1 < (p.bs.length:Int):=by omega
                    have hi4:(p.bs.length:Int) - 2 < (p.bs.length:Int):=by omega
                    have RG:=hide (range_below kb.range B15.out hbw)
                    have IE:=hide (show (Tryz.prog.info? 92).map (·.size)=some (bkC (p.bs[p.bs.length - 1]'(by omega)) vb).length from Tryz.infoA14)
                    have H1:=hide (show (bkC (p.bs[p.bs.length - 1]'(by omega)) vb).toArray.all (·.oneCell')=true from by rw [List.all_toArray];exact bkC_one rb)
                    have bz:Blk (w5.alloc (.cells #[.int .i64 0,.int .i64 0,.int .i64 0,.string { data:=#[] },.int .i64 0,.int .i64 0,.slice none 0 0,.int .i64 0,.slice none 0 0,.slice none 0 0,.slice none 0 0,.bool false,.slice none 0 0,.string { data:=#[] }] 92)) w5.heap.size 92 [.int .i64 0,.int .i64 0,.int .i64 0,.string { data:=#[] },.int .i64 0,.int .i64 0,.slice none 0 0,.int .i64 0,.slice none 0 0,.slice none 0 0,.slice none 0 0,.bool false,.slice none 0 0,.string { data:=#[] }]:=Blk.new w5 _ _
                    have Hth:=hide (show (w5.alloc (.cells #[.int .i64 0,.int .i64 0,.int .i64 0,.string { data:=#[] },.int .i64 0,.int .i64 0,.slice none 0 0,.int .i64 0,.slice none 0 0,.slice none 0 0,.slice none 0 0,.bool false,.slice none 0 0,.string { data:=#[] }] 92)).there w5.heap.size 0 (bkC (p.bs[p.bs.length - 1]'(by omega)) vb).toArray.size from bz.there (by rw [List.size_toArray];rfl))
                    obtain ⟨w6,hw6⟩:∃ x,(w5.alloc (.cells #[.int .i64 0,.int .i64 0,.int .i64 0,.string { data:=#[] },.int .i64 0,.int .i64 0,.slice none 0 0,.int .i64 0,.slice none 0 0,.slice none 0 0,.slice none 0 0,.bool false,.slice none 0 0,.string { data:=#[] }] 92)).setCells w5.heap.size 0 (bkC (p.bs[p.bs.length - 1]'(by omega)) vb)=x:=⟨_,rfl⟩
                    have k6:Blk w6 w5.heap.size 92 (bkC (p.bs[p.bs.length - 1]'(by omega)) vb):=by rw [<- hw6];exact blk_all bz rfl
                    have b56:Below w5.heap.size w5 w6:=by rw [<- hw6];exact ((Below.refl _ w5).alloc (Nat.le_refl _) _).trans (putC_below (Nat.le_refl _) _ _ _)
                    have Hw6:=hide hw6
                    have u1:=kP.out.cell 1
                    have t0:w6.cell? ⟨w5.heap.size,0,none⟩=some (.int .i64 (p.bs[p.bs.length - 1]'(by omega)).id):=k6.cell 0
                    have t2:w6.cell? ⟨w5.heap.size,2,none⟩=some (.int .i64 (p.bs[p.bs.length - 1]'(by omega)).rd):=k6.cell 2
                    have B16:=hide (B15.out.trans (b56.mono B15.out.size))
                    have kC:=hide (kC.out.below b56 kC.out.lt)
                    have kP:=hide (kP.out.below b56 kP.out.lt)
                    have kR:=hide (kR.out.below b56 kR.out.lt)
                    have kT:=hide (kT.out.below b56 kT.out.lt)
                    have HO:=hide (HO.out.below b56 (Nat.le_refl _))
                    have ea:=(ka.below B16.out hbw).cells.2.2.1
                    have hb6:=Nat.lt_of_lt_of_le hbw B16.out.size
                    have x1:=kC.out.cell 1
                    have y1:=kP.out.cell 1
                    have y2:=kP.out.cell 2
                    have y3:=kP.out.cell 3
                    have y4:=kP.out.cell 4
                    simp only [List.getElem?_cons_zero,List.getElem?_cons_succ] at x1 y1 y2 y3 y4 u1
                    have g0:=cell_regrown t0
                    have g2:=cell_regrown t2
                    have ga:=cell_regrown ea
                    have gc:=cell_regrown x1
                    have gp1:=cell_regrown y1
                    have gp2:=cell_regrown y2
                    have gp3:=cell_regrown y3
                    have gp4:=cell_regrown y4
                    have HQ6:=hide (fun (d:Nat) (os:Array Obj)=>Calls.regrown_of (HQc.out (grow (redrawn w6 d) os) (B16.out.trans ((below_regrown w6 d os).mono B16.out.size))))
                    have HAt:=hide (fun (i:Nat) (h:i < p.bs.length)=>(show ∃ bv,BkAt w1 b (off+i * 14) p.bs[i] bv/\RdK w1 p.bs[i] bv from hat i h))
                    clear ka kb ra rb hat t0 t2 ea x1 y1 y2 y3 y4 bz hw6 k6 b56 hcap HQc HK1 B15
                    generalize bkC (p.bs[p.bs.length - 1]'(by omega)) vb=db at RG IE H1 Hth Hw6
                    generalize (p.bs[p.bs.length - 2]'(by omega)).rd=ra at ga HRa hwJ
                    generalize (p.bs[p.bs.length - 1]'(by omega)).rd=rb at g2 hwJ hRb
                    generalize (p.bs[p.bs.length - 1]'(by omega)).id=ib at g0 hBb
                    have hwr:IntKind.i64.wrap (ra+1)=ra+1:=by have:=HRa.out;rw [IntKind.wrap_i64];omega
                    have hwr2:wrap64 (ra+1)=ra+1:=by have:=HRa.out;unfold wrap64;omega
                    go_upto_region 6 with (first
                      | (refine wpList_load_mid rfl 92 _ rfl b (off+(p.bs.length - 1) * 14) rfl db _ RG.out Tryz.underlying92 rfl IE.out ?_)
                      | (refine wpList_store_mid rfl 92 _ _ rfl w5.heap.size 0 db.toArray rfl rfl Hth.out (by simpa using IE.out) H1.out ?_;rw [Hw6.out])
                      | fail)
                    refine wp_region_quiet_below (by kernel_rfl) (by kernel_rfl) ?_
                    (try dsimp only [List.append])
                    (try simp only [Act.put])
                    iterate 35 (go_big_quiet_step (first | (go_at_call 36;exact HQ6.out _ _)))
                    refine wpQuiet_nil ?_
                    intro _ hw'
                    obtain ⟨⟨dq,osq⟩,hw''⟩:=hw'
                    subst hw''
                    have hb7:=below_regrown w6 dq osq
                    obtain ⟨w7,hw7⟩:∃ x,grow (redrawn w6 dq) osq=x:=⟨_,rfl⟩
                    rw [hw7] at hb7 ⊢
                    have B17:=hide (B16.out.trans (hb7.mono B16.out.size))
                    have kC:=hide (kC.out.below hb7 kC.out.lt)
                    have kP:=hide (kP.out.below hb7 kP.out.lt)
                    have kR:=hide (kR.out.below hb7 kR.out.lt)
                    have kT:=hide (kT.out.below hb7 kT.out.lt)
                    have HO:=hide (HO.out.below hb7 (Nat.le_refl _))
                    clear hw7 hb7 g0 g2 ga gc gp1 gp2 gp3 gp4 u1 HQ6 B16 RG IE H1 Hth Hw6 hwr hwr2
                    have z1:=kP.out.cell 1
                    simp only [List.getElem?_cons_zero,List.getElem?_cons_succ] at z1
                    go_wp2
                    go_loopw [9] (fun iv wr=>∃ k:Nat,k<=p.bs.length - 1/\iv=.int .i64 (k:Int)/\(∀ j (h:j < p.bs.length),j < k->p.bs[j].en=false)/\wr=w7) (fun iv _=>p.bs.length - (intOf iv).toNat)
                    case atStart=>exact ⟨0,by omega,rfl,fun j _ h=>by omega,rfl⟩
                    case round =>
                      obtain ⟨k,hk,rfl,hno,rfl⟩:=hrel
                      have Hno:=hide hno
                      clear hno
                      by_cases hlt:k < p.bs.length - 1
                      · have hli:(k:Int) < (p.bs.length:Int) - 1:=by omega
                        have hlj:(k:Int) < (p.bs.length:Int):=by omega
                        obtain ⟨bv,hk1,hrk⟩:=HAt.out k (by omega)
                        have hk7:=hk1.below B17.out hbw
                        have en7:=hk7.cells.2.2.2.2.2.2.2.2.2.2.2.1
                        cases hen:(p.bs[k]'(by omega)).en
                        · skip
                          have Hn2:=hide (show ∀ j (h:j < p.bs.length),j < k+1->p.bs[j].en=false from fun j h hj=>by
                            rcases Nat.lt_succ_iff_lt_or_eq.1 hj with h' | h'
                            · exact Hno.out j h h'
                            · subst h';exact hen)
                          rw [hen] at en7
                          clear Hno hen hk1 hrk hk7
                          go_wp2
                          go_roundw
                          case rel=>exact ⟨k+1,by omega,by go_num,Hn2.out,by trivial⟩
                          case measure=>simp [intOf];omega
                        · have HEN:=hide (show enN p.bs=(p.bs[k]'(by omega)).nx from by
                            unfold enN
                            rw [show p.bs.find? (fun x=>x.en)=some (p.bs[k]'(by omega)) from List.find?_eq_some_iff_getElem.2 ⟨hen,k,by omega,rfl,fun j hj=>by simp [Hno.out j (by omega) hj]⟩]
                            rfl)
                          rw [hen] at en7
                          obtain ⟨aN,cN,hvN⟩:=hrk.n.shape
                          have hn:=HN.out _ (List.getElem_mem (show k < p.bs.length by omega))
                          have hbr:=Nat.lt_of_lt_of_le hbw B17.out.size
                          have hne:b ≠ w.heap.size+1+1:=by have:=HNe.out b ⟨off,rfl⟩ (List.ne_nil_of_length_pos (by omega));omega
                          have cN7:∀ V,Below wr.heap.size wr V->V.cell? ⟨b,off+k * 14+12,none⟩=some (.slice aN (p.bs[k]'(by omega)).nx.length cN):=fun V hV=>by rw [<- hvN];exact (hk7.below hV hbr).cells.2.2.2.2.2.2.2.2.2.2.2.2.1
                          have bD:Below wr.heap.size wr wr.drew:=(Below.refl _ wr).drew
                          have HSS:=hide (fun V (hV:Below wr.heap.size wr V)=>(show V.cell? ⟨w.heap.size,0,none⟩=some (.int .i64 e)/\V.cell? ⟨w.heap.size+1,1,none⟩=some (.slice (some ⟨b,off,none⟩) p.bs.length cL)/\V.cell? ⟨b,off+k * 14+12,none⟩=some (.slice aN (p.bs[k]'(by omega)).nx.length cN) from ⟨(kC.out.below hV kC.out.lt).cell 0,(kP.out.below hV kP.out.lt).cell 1,cN7 V hV⟩))
                          have HST:=hide (fun V (x y:Value) (hV:Below wr.heap.size wr V)=>(show (V.setCells (w.heap.size+1+1) 0 [x,y]).cell? ⟨w.heap.size,0,none⟩=some (.int .i64 e)/\(V.setCells (w.heap.size+1+1) 0 [x,y]).cell? ⟨w.heap.size+1,1,none⟩=some (.slice (some ⟨b,off,none⟩) p.bs.length cL)/\(V.setCells (w.heap.size+1+1) 0 [x,y]).cell? ⟨b,off+k * 14+12,none⟩=some (.slice aN (p.bs[k]'(by omega)).nx.length cN) from by
                            have k1:=(kC.out.below hV kC.out.lt).not2 (g:=w.heap.size+1+1) (by omega) x y
                            have k2:=(kP.out.below hV kP.out.lt).not2 (g:=w.heap.size+1+1) (by omega) x y
                            exact ⟨k1.cell 0,k2.cell 1,by rw [cell_not2S _ _ _ hne];exact cN7 V hV⟩))
                          have HRR:=hide (fun V (hV:Below wr.heap.size wr V)=>kR.out.below hV kR.out.lt)
                          have hrn:=(hrk.n.below B17.out (Nat.le_refl _))
                          rw [hvN] at hrn
                          have HRd:=hide (fun V (hV:Below wr.heap.size wr V)=>hrn.below hV (Nat.le_refl _))
                          have HB2:=hide (B1.out.trans (B17.out.mono B1.out.size))
                          have hs2:w.heap.size+1+1 < wr.heap.size:=Nat.lt_of_lt_of_le hz1 B17.out.size
                          have hki:(k:Int) < (p.bs.length:Int):=hlj
                          clear Hno hen hk1 hrk hk7 hvN hrn HAt HAny kC kP kR kT HO B1 B17 cN7
                          generalize (p.bs[k]'(by omega)).nx=Y at HSS HST HRd HEN hn
                          go_upto_region 12 with fail
                          refine wp_region_held_drew (S:=fun W=>W.cell? ⟨w.heap.size,0,none⟩=some (.int .i64 e)/\W.cell? ⟨w.heap.size+1,1,none⟩=some (.slice (some ⟨b,off,none⟩) p.bs.length cL)/\W.cell? ⟨b,off+k * 14+12,none⟩=some (.slice aN Y.length cN)) (by kernel_rfl) (HSS.out _ bD) (fun hHeld=>?_)
                          refine wpAnyH_take (i:=0) (v:=.pointer (some ⟨w.heap.size,0,none⟩)) rfl (by kernel_rfl) (by kernel_rfl) (by kernel_rfl) (fun _ _ _ h=>h) (Or.inl ⟨by rfl,fun W hW=>by (obtain ⟨q0,q1,q2⟩:=hW;go_simp)⟩) (by assumption) ?_
                          change wpAnyH Tryz.prog _ _ _ _ _ _ (Act.put _ (some 92) _) _
                          simp only [Act.put,List.setIfInBounds_toArray,List.set_cons_zero,List.set_cons_succ]
                          refine wpAnyH_take (i:=1) (v:=.int .i64 e) rfl (by kernel_rfl) (by kernel_rfl) (by kernel_rfl) (fun _ _ _ h=>h) (Or.inl ⟨by rfl,fun W hW=>by (obtain ⟨q0,q1,q2⟩:=hW;go_simp)⟩) (by assumption) ?_
                          change wpAnyH Tryz.prog _ _ _ _ _ _ (Act.put _ (some 93) _) _
                          simp only [Act.put,List.setIfInBounds_toArray,List.set_cons_zero,List.set_cons_succ]
                          refine wpAnyH_take (i:=2) (v:=.int .i64 (e+1)) rfl (by kernel_rfl) (by kernel_rfl) (by kernel_rfl) (fun _ _ _ h=>h) (Or.inl ⟨by rfl,fun W hW=>by (obtain ⟨q0,q1,q2⟩:=hW;go_simp)⟩) (by assumption) ?_
                          change wpAnyH Tryz.prog _ _ _ _ _ _ (Act.put _ (some 94) _) _
                          simp only [Act.put,List.setIfInBounds_toArray,List.set_cons_zero,List.set_cons_succ]
                          refine wpAnyH_take (i:=4) (v:=.pointer (some ⟨w.heap.size+1,1,none⟩)) rfl (by kernel_rfl) (by kernel_rfl) (by kernel_rfl) (fun _ _ _ h=>h) (Or.inl ⟨by rfl,fun W hW=>by (obtain ⟨q0,q1,q2⟩:=hW;go_simp)⟩) (by assumption) ?_
                          change wpAnyH Tryz.prog _ _ _ _ _ _ (Act.put _ (some 96) _) _
                          simp only [Act.put,List.setIfInBounds_toArray,List.set_cons_zero,List.set_cons_succ]
                          refine wpAnyH_take (i:=5) (v:=.slice (some ⟨b,off,none⟩) p.bs.length cL) rfl (by kernel_rfl) (by kernel_rfl) (by kernel_rfl) (fun _ _ _ h=>h) (Or.inl ⟨by rfl,fun W hW=>by (obtain ⟨q0,q1,q2⟩:=hW;go_simp)⟩) (by assumption) ?_
                          change wpAnyH Tryz.prog _ _ _ _ _ _ (Act.put _ (some 97) _) _
                          simp only [Act.put,List.setIfInBounds_toArray,List.set_cons_zero,List.set_cons_succ]
                          refine wpAnyH_take (i:=6) (v:=.int .i64 (k:Int)) rfl (by kernel_rfl) (by kernel_rfl) (by kernel_rfl) (fun _ _ _ h=>h) (Or.inl ⟨by rfl,fun W hW=>by (obtain ⟨q0,q1,q2⟩:=hW;go_simp)⟩) (by assumption) ?_
                          change wpAnyH Tryz.prog _ _ _ _ _ _ (Act.put _ (some 98) _) _
                          simp only [Act.put,List.setIfInBounds_toArray,List.set_cons_zero,List.set_cons_succ]
                          refine wpAnyH_take (i:=7) (v:=.pointer (some ⟨b,off+k * 14,none⟩)) rfl (by kernel_rfl) (by kernel_rfl) (by kernel_rfl) (fun _ _ _ h=>h) (Or.inl ⟨by rfl,fun W hW=>by (obtain ⟨q0,q1,q2⟩:=hW;go_simp)⟩) (by assumption) ?_
                          change wpAnyH Tryz.prog _ _ _ _ _ _ (Act.put _ (some 99) _) _
                          simp only [Act.put,List.setIfInBounds_toArray,List.set_cons_zero,List.set_cons_succ]
                          refine wpAnyH_take (i:=8) (v:=.pointer (some ⟨b,off+k * 14+12,none⟩)) rfl (by kernel_rfl) (by kernel_rfl) (by kernel_rfl) (fun _ _ _ h=>h) (Or.inl ⟨by rfl,fun W hW=>by (obtain ⟨q0,q1,q2⟩:=hW;go_simp)⟩) (by assumption) ?_
                          change wpAnyH Tryz.prog _ _ _ _ _ _ (Act.put _ (some 100) _) _
                          simp only [Act.put,List.setIfInBounds_toArray,List.set_cons_zero,List.set_cons_succ]
                          refine wpAnyH_take (i:=9) (v:=.slice aN Y.length cN) rfl (by kernel_rfl) (by kernel_rfl) (by kernel_rfl) (fun _ _ _ h=>h) (Or.inl ⟨by rfl,fun W hW=>by (obtain ⟨q0,q1,q2⟩:=hW;go_simp)⟩) (by assumption) ?_
                          change wpAnyH Tryz.prog _ _ _ _ _ _ (Act.put _ (some 101) _) _
                          simp only [Act.put,List.setIfInBounds_toArray,List.set_cons_zero,List.set_cons_succ]
                          refine wpAnyH_ready (rs:=[3]) (by kernel_rfl) (by simp) ?_
                          refine AllReadyH.cons rfl (fun K hK=>?_) AllReadyH.nil
                          go_simp
                          have ba:Below wr.heap.size wr (wr.alloc (.cells #[] 100)).drew:=((Below.refl _ wr).alloc (Nat.le_refl _) _).drew
                          have oa:OwnV wr.heap.size (wr.alloc (.cells #[] 100)).drew (.slice (some ⟨wr.heap.size,0,none⟩) 0 0) []:=(own_nilV wr _ (Nat.le_refl _)).drew
                          refine hK.out _ _ (HSS.out _ ba) (fun hHeld=>?_)
                          try simp only [Act.put,List.setIfInBounds_toArray,List.set_cons_zero,List.set_cons_succ]
                          refine wpAnyH_ready (rs:=[10]) (by kernel_rfl) (by simp) ?_
                          refine AllReadyH.cons rfl (fun K hK=>?_) AllReadyH.nil
                          refine wp_appVs _ _ rfl wr.heap.size _ _ [] Y rfl rfl oa (HRd.out _ ba) (by simp;omega) ba.size ?_
                          intro v3 w3 o3 hb3
                          rw [List.nil_append] at o3
                          obtain ⟨a3,c3,hv3⟩:=o3.rd.shape
                          subst hv3
                          have b3:=ba.trans hb3
                          refine hK.out _ _ (HSS.out _ b3) (fun hHeld=>?_)
                          try simp only [Act.put,List.setIfInBounds_toArray,List.set_cons_zero,List.set_cons_succ]
                          refine wpAnyH_take (i:=11) (v:=.agg #[.int .i64 (e+1),.slice a3 Y.length c3]) rfl (by kernel_rfl) (by kernel_rfl) (by kernel_rfl) (fun _ _ _ h=>h) (Or.inl ⟨by rfl,fun W hW=>by (obtain ⟨q0,q1,q2⟩:=hW;go_simp)⟩) (by assumption) ?_
                          change wpAnyH Tryz.prog _ _ _ _ _ _ (Act.put _ (some 103) _) _
                          simp only [Act.put,List.setIfInBounds_toArray,List.set_cons_zero,List.set_cons_succ]
                          have kr:=HRR.out _ b3
                          refine wpAnyH_ready (rs:=[12]) (by kernel_rfl) (by simp) ?_
                          refine AllReadyH.cons rfl (fun K hK=>?_) AllReadyH.nil
                          refine wp_store_mid 35 _ _ rfl (w.heap.size+1+1) 0 #[.int .i64 (e+1),.slice a3 Y.length c3] rfl rfl (kr.there2 (n:=2) rfl) (by kernel_rfl) (all_oneCell_toArray (cs:=[.int .i64 (e+1),.slice a3 Y.length c3]) (List.all_eq_true.1 rfl)) ?_
                          refine hK.out _ _ (HST.out _ _ _ b3) (fun hHeld=>?_)
                          try simp only [Act.put,List.setIfInBounds_toArray,List.set_cons_zero,List.set_cons_succ]
                          refine wpAnyH_take (i:=13) (v:=.bool true) rfl (by kernel_rfl) (by kernel_rfl) (by kernel_rfl) (fun _ _ _ h=>h) (Or.inl ⟨by rfl,fun W hW=>by go_simp⟩) (by assumption) ?_
                          change wpAnyH Tryz.prog _ _ _ _ _ _ (Act.put _ (some 5) _) _
                          simp only [Act.put,List.setIfInBounds_toArray,List.set_cons_zero,List.set_cons_succ]
                          refine wpAnyH_done (by kernel_rfl) ?_ _
                          have KX:=hide (show Blk (w3.setCells (w.heap.size+1+1) 0 [.int .i64 (e+1),.slice a3 Y.length c3]) (w.heap.size+1+1) 35 [.int .i64 (e+1),.slice a3 Y.length c3] from kr.set2 _ _)
                          have HB:=hide (below_set2 (HB2.out.trans (b3.mono HB2.out.size)) (g:=w.heap.size+1+1) (by omega) (.int .i64 (e+1)) (.slice a3 Y.length c3))
                          have HO:=hide ((o3.setsC (g:=w.heap.size+1+1) hs2 (.int .i64 (e+1)) (.slice a3 Y.length c3)).mono (show w.heap.size<=wr.heap.size from HB2.out.size))
                          clear HSS HST HRR HRd kr ba oa o3 hb3 b3
                          go_wp2
                          refine res_specAc (F:=[.int .i64 (e+1),.slice a3 Y.length c3]) (w.heap.size+1+1) (.bool true) KX.out.range2 (by rfl) (by rfl) (by kernel_rfl) rfl ?_
                          exact ⟨.slice a3 Y.length c3,rfl,by rw [HEN.out];exact HO.out,HB.out⟩
                      · exact absurd HAny.out (by
                          rw [Bool.not_eq_true]
                          rw [List.any_eq_false]
                          intro x hx
                          obtain ⟨j,hj,rfl⟩:=List.mem_iff_getElem.1 hx
                          rw [List.length_take] at hj
                          rw [List.getElem_take,Hno.out j (by omega) (by omega)]
                          decide)
                · have hBb:(p.qb != (p.bs[p.bs.length - 1]'(by omega)).id)=true:=by rw [bne_iff_ne];exact hB
                  rw [decide_eq_false hB,Bool.false_and] at HU
                  clear hB
                  have hX:clB e st p=false:=HU.out
                  clear HIs HU HN HNe
                  rw [show clE e st p=e from by unfold clE;rw [if_neg (by rw [hX];decide)],show clS e st p=st from by unfold clS;rw [if_neg (by rw [hX];decide)],hX]
                  clear hX
                  go_enter Tryz.func8,Tryz.ntmps8
                  go_upto_region 1 with fail
                  (try rw [hw1])
                  clear hw1
                  go_wp2_with fail
                  refine HCp.out.mono ?_
                  rintro en w2 ⟨v2,rfl,o2,hb2⟩
                  obtain ⟨a2,c2,hv2⟩:=o2.rd.shape
                  subst hv2
                  obtain ⟨w3,hw3⟩:∃ x,w2.alloc (.cells #[.int .i64 e,.slice a2 st.length c2] 35)=x:=⟨_,rfl⟩
                  have b23:Below w2.heap.size w2 w3:=by rw [<- hw3];exact (Below.refl _ w2).alloc (Nat.le_refl _) _
                  have kT:=hide (show Blk w3 w2.heap.size 35 [.int .i64 e,.slice a2 st.length c2] from by rw [<- hw3];exact Blk.new w2 _ _)
                  have b13:=hb2.trans (b23.mono hb2.size)
                  have hz2:=hb2.size
                  have HCp:=trivial
                  have kC:=hide (kC.out.below b13 kC.out.lt)
                  have kP:=hide (kP.out.below b13 kP.out.lt)
                  have kR:=hide (kR.out.below b13 kR.out.lt)
                  have HO:=hide (o2.below b23 (Nat.le_refl _))
                  have B13:=hide b13
                  have x0:=kC.out.cell 0
                  have x1:=kC.out.cell 1
                  have y0:=kP.out.cell 0
                  have y1:=kP.out.cell 1
                  simp only [List.getElem?_cons_zero,List.getElem?_cons_succ] at x0 x1 y0 y1
                  have HSt:=hide (HSt.out w3 b13)
                  have Hw3:=hide hw3
                  clear hw3 b13 b23 hb2 o2 v0 v1 HCp
                  go_upto_region 2 with fail
                  rw [Hw3.out]
                  clear Hw3
                  go_upto_region 3 with fail
                  go_wp2_with fail
                  refine HSt.out.mono ?_
                  rintro en w4 ⟨rfl,hb4⟩
                  have B14:=hide (B13.out.trans (hb4.mono B13.out.size))
                  have kC:=hide (kC.out.below hb4 kC.out.lt)
                  have kP:=hide (kP.out.below hb4 kP.out.lt)
                  have kR:=hide (kR.out.below hb4 kR.out.lt)
                  have kT:=hide (kT.out.below hb4 kT.out.lt)
                  have HO:=hide (HO.out.below hb4 (Nat.le_refl _))
                  have x0:=kC.out.cell 0
                  have x1:=kC.out.cell 1
                  have y0:=kP.out.cell 0
                  have y1:=kP.out.cell 1
                  simp only [List.getElem?_cons_zero,List.getElem?_cons_succ] at x0 x1 y0 y1
                  clear HSt hb4 B13
                  have HL:=hide (HLk.out w4 B14.out)
                  clear HLk
                  go_wp2_with fail
                  refine HL.out.mono ?_
                  rintro en w5 ⟨rfl,hb5⟩
                  have B15:=hide (B14.out.trans (hb5.mono B14.out.size))
                  have kC:=hide (kC.out.below hb5 kC.out.lt)
                  have kP:=hide (kP.out.below hb5 kP.out.lt)
                  have kR:=hide (kR.out.below hb5 kR.out.lt)
                  have kT:=hide (kT.out.below hb5 kT.out.lt)
                  have HO:=hide (HO.out.below hb5 (Nat.le_refl _))
                  clear x0 x1 y0 y1 hb5 B14 HL
                  obtain ⟨b,off,hab,hbw,hcap,hat⟩:=HK1.out.atC (by omega)
                  subst hab
                  obtain ⟨va,ka,ra⟩:=hat (p.bs.length - 2) (by omega)
                  obtain ⟨vb,kb,rb⟩:=hat (p.bs.length - 1) (by omega)
                  have hi1:(0:Int)<=(p.bs.length:Int) - 1:=by omega
                  have hi2:(0:Int)<=(p.bs.length:Int) - 2:=by omega
                  have hi3:(p.bs.length:Int) - 1 < (p.bs.length:Int):=by omega
                  have hi4:(p.bs.length:Int) - 2 < (p.bs.length:Int):=by omega
                  have RG:=hide (range_below kb.range B15.out hbw)
                  have IE:=hide (show (Tryz.prog.info? 92).map (·.size)=some (bkC (p.bs[p.bs.length - 1]'(by omega)) vb).length from Tryz.infoA14)
                  have H1:=hide (show (bkC (p.bs[p.bs.length - 1]'(by omega)) vb).toArray.all (·.oneCell')=true from by rw [List.all_toArray];exact bkC_one rb)
                  have bz:Blk (w5.alloc (.cells #[.int .i64 0,.int .i64 0,.int .i64 0,.string { data:=#[] },.int .i64 0,.int .i64 0,.slice none 0 0,.int .i64 0,.slice none 0 0,.slice none 0 0,.slice none 0 0,.bool false,.slice none 0 0,.string { data:=#[] }] 92)) w5.heap.size 92 [.int .i64 0,.int .i64 0,.int .i64 0,.string { data:=#[] },.int .i64 0,.int .i64 0,.slice none 0 0,.int .i64 0,.slice none 0 0,.slice none 0 0,.slice none 0 0,.bool false,.slice none 0 0,.string { data:=#[] }]:=Blk.new w5 _ _
                  have Hth:=hide (show (w5.alloc (.cells #[.int .i64 0,.int .i64 0,.int .i64 0,.string { data:=#[] },.int .i64 0,.int .i64 0,.slice none 0 0,.int .i64 0,.slice none 0 0,.slice none 0 0,.slice none 0 0,.bool false,.slice none 0 0,.string { data:=#[] }] 92)).there w5.heap.size 0 (bkC (p.bs[p.bs.length - 1]'(by omega)) vb).toArray.size from bz.there (by rw [List.size_toArray];rfl))
                  obtain ⟨w6,hw6⟩:∃ x,(w5.alloc (.cells #[.int .i64 0,.int .i64 0,.int .i64 0,.string { data:=#[] },.int .i64 0,.int .i64 0,.slice none 0 0,.int .i64 0,.slice none 0 0,.slice none 0 0,.slice none 0 0,.bool false,.slice none 0 0,.string { data:=#[] }] 92)).setCells w5.heap.size 0 (bkC (p.bs[p.bs.length - 1]'(by omega)) vb)=x:=⟨_,rfl⟩
                  have k6:Blk w6 w5.heap.size 92 (bkC (p.bs[p.bs.length - 1]'(by omega)) vb):=by rw [<- hw6];exact blk_all bz rfl
                  have b56:Below w5.heap.size w5 w6:=by rw [<- hw6];exact ((Below.refl _ w5).alloc (Nat.le_refl _) _).trans (putC_below (Nat.le_refl _) _ _ _)
                  have Hw6:=hide hw6
                  have u1:=kP.out.cell 1
                  have t0:w6.cell? ⟨w5.heap.size,0,none⟩=some (.int .i64 (p.bs[p.bs.length - 1]'(by omega)).id):=k6.cell 0
                  have t2:w6.cell? ⟨w5.heap.size,2,none⟩=some (.int .i64 (p.bs[p.bs.length - 1]'(by omega)).rd):=k6.cell 2
                  have B16:=hide (B15.out.trans (b56.mono B15.out.size))
                  have kC:=hide (kC.out.below b56 kC.out.lt)
                  have kP:=hide (kP.out.below b56 kP.out.lt)
                  have kR:=hide (kR.out.below b56 kR.out.lt)
                  have kT:=hide (kT.out.below b56 kT.out.lt)
                  have HO:=hide (HO.out.below b56 (Nat.le_refl _))
                  have ea:=(ka.below B16.out hbw).cells.2.2.1
                  have hb6:=Nat.lt_of_lt_of_le hbw B16.out.size
                  have x1:=kC.out.cell 1
                  have y1:=kP.out.cell 1
                  have y2:=kP.out.cell 2
                  have y3:=kP.out.cell 3
                  have y4:=kP.out.cell 4
                  simp only [List.getElem?_cons_zero,List.getElem?_cons_succ] at x1 y1 y2 y3 y4 u1
                  have g0:=cell_regrown t0
                  have g2:=cell_regrown t2
                  have ga:=cell_regrown ea
                  have gc:=cell_regrown x1
                  have gp1:=cell_regrown y1
                  have gp2:=cell_regrown y2
                  have gp3:=cell_regrown y3
                  have gp4:=cell_regrown y4
                  have HQ6:=hide (fun (d:Nat) (os:Array Obj)=>Calls.regrown_of (HQc.out (grow (redrawn w6 d) os) (B16.out.trans ((below_regrown w6 d os).mono B16.out.size))))
                  have HAt:=hide (fun (i:Nat) (h:i < p.bs.length)=>(show ∃ bv,BkAt w1 b (off+i * 14) p.bs[i] bv/\RdK w1 p.bs[i] bv from hat i h))
                  clear ka kb ra rb hat t0 t2 ea x1 y1 y2 y3 y4 bz hw6 k6 b56 hcap HQc HK1 B15
                  generalize bkC (p.bs[p.bs.length - 1]'(by omega)) vb=db at RG IE H1 Hth Hw6
                  generalize (p.bs[p.bs.length - 2]'(by omega)).rd=ra at ga HRa hwJ
                  generalize (p.bs[p.bs.length - 1]'(by omega)).rd=rb at g2 hwJ hRb
                  generalize (p.bs[p.bs.length - 1]'(by omega)).id=ib at g0 hBb
                  have hwr:IntKind.i64.wrap (ra+1)=ra+1:=by have:=HRa.out;rw [IntKind.wrap_i64];omega
                  have hwr2:wrap64 (ra+1)=ra+1:=by have:=HRa.out;unfold wrap64;omega
                  go_upto_region 6 with (first
                    | (refine wpList_load_mid rfl 92 _ rfl b (off+(p.bs.length - 1) * 14) rfl db _ RG.out Tryz.underlying92 rfl IE.out ?_)
                    | (refine wpList_store_mid rfl 92 _ _ rfl w5.heap.size 0 db.toArray rfl rfl Hth.out (by simpa using IE.out) H1.out ?_;rw [Hw6.out])
                    | fail)
                  refine wp_region_quiet_below (by kernel_rfl) (by kernel_rfl) ?_
                  (try dsimp only [List.append])
                  (try simp only [Act.put])
                  iterate 35 (go_big_quiet_step (first | (go_at_call 36;exact HQ6.out _ _)))
                  refine wpQuiet_nil ?_
                  intro _ hw'
                  obtain ⟨⟨dq,osq⟩,hw''⟩:=hw'
                  subst hw''
                  have hb7:=below_regrown w6 dq osq
                  obtain ⟨w7,hw7⟩:∃ x,grow (redrawn w6 dq) osq=x:=⟨_,rfl⟩
                  rw [hw7] at hb7 ⊢
                  have B17:=hide (B16.out.trans (hb7.mono B16.out.size))
                  have kC:=hide (kC.out.below hb7 kC.out.lt)
                  have kP:=hide (kP.out.below hb7 kP.out.lt)
                  have kR:=hide (kR.out.below hb7 kR.out.lt)
                  have kT:=hide (kT.out.below hb7 kT.out.lt)
                  have HO:=hide (HO.out.below hb7 (Nat.le_refl _))
                  clear hw7 hb7 g0 g2 ga gc gp1 gp2 gp3 gp4 u1 HQ6 B16 RG IE H1 Hth Hw6 hwr hwr2
                  have f0:=kT.out.cell 0
                  have f1:=kT.out.cell 1
                  have r0:=kR.out.cell 0
                  have r1:=kR.out.cell 1
                  have g0:=kR.out.frozen 0
                  have g1:=kR.out.frozen 1
                  simp only [List.getElem?_cons_zero,List.getElem?_cons_succ] at f0 f1 r0 r1
                  have HOx:=hide (((HO.out.olderC (g:=w.heap.size+1+1) hz1 0 (.int .i64 e)).olderC (g:=w.heap.size+1+1) hz1 1 (.slice a2 st.length c2)).mono (show w.heap.size<=w1.heap.size by omega))
                  have HBx:=hide (((B1.out.trans (B17.out.mono B1.out.size)).setCell (p:=⟨w.heap.size+1+1,0,none⟩) (show w.heap.size<=w.heap.size+1+1 by omega) (.int .i64 e)).setCell (p:=⟨w.heap.size+1+1,1,none⟩) (show w.heap.size<=w.heap.size+1+1 by omega) (.slice a2 st.length c2))
                  clear kC kP kR kT HO B1 B17
                  go_wp2
                  refine bodyPost_ret (v:=.tuple #[.agg #[.int .i64 e,.slice a2 st.length c2],.bool false]) (by simp [results,Tryz.f8,go_sem,r0,r1]) rfl ?_
                  exact ⟨_,rfl,HOx.out,HBx.out⟩
              · have hRb:(p.qr != (p.bs[p.bs.length - 1]'(by omega)).rd)=true:=by rw [bne_iff_ne];exact hR
                rw [decide_eq_false hR,Bool.and_false,Bool.false_and] at HU
                clear hR
                have hX:clB e st p=false:=HU.out
                clear HIs HU HN HNe
                rw [show clE e st p=e from by unfold clE;rw [if_neg (by rw [hX];decide)],show clS e st p=st from by unfold clS;rw [if_neg (by rw [hX];decide)],hX]
                clear hX
                go_enter Tryz.func8,Tryz.ntmps8
                go_upto_region 1 with fail
                (try rw [hw1])
                clear hw1
                go_wp2_with fail
                refine HCp.out.mono ?_
                rintro en w2 ⟨v2,rfl,o2,hb2⟩
                obtain ⟨a2,c2,hv2⟩:=o2.rd.shape
                subst hv2
                obtain ⟨w3,hw3⟩:∃ x,w2.alloc (.cells #[.int .i64 e,.slice a2 st.length c2] 35)=x:=⟨_,rfl⟩
                have b23:Below w2.heap.size w2 w3:=by rw [<- hw3];exact (Below.refl _ w2).alloc (Nat.le_refl _) _
                have kT:=hide (show Blk w3 w2.heap.size 35 [.int .i64 e,.slice a2 st.length c2] from by rw [<- hw3];exact Blk.new w2 _ _)
                have b13:=hb2.trans (b23.mono hb2.size)
                have hz2:=hb2.size
                have HCp:=trivial
                have kC:=hide (kC.out.below b13 kC.out.lt)
                have kP:=hide (kP.out.below b13 kP.out.lt)
                have kR:=hide (kR.out.below b13 kR.out.lt)
                have HO:=hide (o2.below b23 (Nat.le_refl _))
                have B13:=hide b13
                have x0:=kC.out.cell 0
                have x1:=kC.out.cell 1
                have y0:=kP.out.cell 0
                have y1:=kP.out.cell 1
                simp only [List.getElem?_cons_zero,List.getElem?_cons_succ] at x0 x1 y0 y1
                have HSt:=hide (HSt.out w3 b13)
                have Hw3:=hide hw3
                clear hw3 b13 b23 hb2 o2 v0 v1 HCp
                go_upto_region 2 with fail
                rw [Hw3.out]
                clear Hw3
                go_upto_region 3 with fail
                go_wp2_with fail
                refine HSt.out.mono ?_
                rintro en w4 ⟨rfl,hb4⟩
                have B14:=hide (B13.out.trans (hb4.mono B13.out.size))
                have kC:=hide (kC.out.below hb4 kC.out.lt)
                have kP:=hide (kP.out.below hb4 kP.out.lt)
                have kR:=hide (kR.out.below hb4 kR.out.lt)
                have kT:=hide (kT.out.below hb4 kT.out.lt)
                have HO:=hide (HO.out.below hb4 (Nat.le_refl _))
                have x0:=kC.out.cell 0
                have x1:=kC.out.cell 1
                have y0:=kP.out.cell 0
                have y1:=kP.out.cell 1
                simp only [List.getElem?_cons_zero,List.getElem?_cons_succ] at x0 x1 y0 y1
                clear HSt hb4 B13
                have HL:=hide (HLk.out w4 B14.out)
                clear HLk
                go_wp2_with fail
                refine HL.out.mono ?_
                rintro en w5 ⟨rfl,hb5⟩
                have B15:=hide (B14.out.trans (hb5.mono B14.out.size))
                have kC:=hide (kC.out.below hb5 kC.out.lt)
                have kP:=hide (kP.out.below hb5 kP.out.lt)
                have kR:=hide (kR.out.below hb5 kR.out.lt)
                have kT:=hide (kT.out.below hb5 kT.out.lt)
                have HO:=hide (HO.out.below hb5 (Nat.le_refl _))
                clear x0 x1 y0 y1 hb5 B14 HL
                obtain ⟨b,off,hab,hbw,hcap,hat⟩:=HK1.out.atC (by omega)
                subst hab
                obtain ⟨va,ka,ra⟩:=hat (p.bs.length - 2) (by omega)
                obtain ⟨vb,kb,rb⟩:=hat (p.bs.length - 1) (by omega)
                have hi1:(0:Int)<=(p.bs.length:Int) - 1:=by omega
                have hi2:(0:Int)<=(p.bs.length:Int) - 2:=by omega
                have hi3:(p.bs.length:Int) - 1 < (p.bs.length:Int):=by omega
                have hi4:(p.bs.length:Int) - 2 < (p.bs.length:Int):=by omega
                have RG:=hide (range_below kb.range B15.out hbw)
                have IE:=hide (show (Tryz.prog.info? 92).map (·.size)=some (bkC (p.bs[p.bs.length - 1]'(by omega)) vb).length from Tryz.infoA14)
                have H1:=hide (show (bkC (p.bs[p.bs.length - 1]'(by omega)) vb).toArray.all (·.oneCell')=true from by rw [List.all_toArray];exact bkC_one rb)
                have bz:Blk (w5.alloc (.cells #[.int .i64 0,.int .i64 0,.int .i64 0,.string { data:=#[] },.int .i64 0,.int .i64 0,.slice none 0 0,.int .i64 0,.slice none 0 0,.slice none 0 0,.slice none 0 0,.bool false,.slice none 0 0,.string { data:=#[] }] 92)) w5.heap.size 92 [.int .i64 0,.int .i64 0,.int .i64 0,.string { data:=#[] },.int .i64 0,.int .i64 0,.slice none 0 0,.int .i64 0,.slice none 0 0,.slice none 0 0,.slice none 0 0,.bool false,.slice none 0 0,.string { data:=#[] }]:=Blk.new w5 _ _
                have Hth:=hide (show (w5.alloc (.cells #[.int .i64 0,.int .i64 0,.int .i64 0,.string { data:=#[] },.int .i64 0,.int .i64 0,.slice none 0 0,.int .i64 0,.slice none 0 0,.slice none 0 0,.slice none 0 0,.bool false,.slice none 0 0,.string { data:=#[] }] 92)).there w5.heap.size 0 (bkC (p.bs[p.bs.length - 1]'(by omega)) vb).toArray.size from bz.there (by rw [List.size_toArray];rfl))
                obtain ⟨w6,hw6⟩:∃ x,(w5.alloc (.cells #[.int .i64 0,.int .i64 0,.int .i64 0,.string { data:=#[] },.int .i64 0,.int .i64 0,.slice none 0 0,.int .i64 0,.slice none 0 0,.slice none 0 0,.slice none 0 0,.bool false,.slice none 0 0,.string { data:=#[] }] 92)).setCells w5.heap.size 0 (bkC (p.bs[p.bs.length - 1]'(by omega)) vb)=x:=⟨_,rfl⟩
                have k6:Blk w6 w5.heap.size 92 (bkC (p.bs[p.bs.length - 1]'(by omega)) vb):=by rw [<- hw6];exact blk_all bz rfl
                have b56:Below w5.heap.size w5 w6:=by rw [<- hw6];exact ((Below.refl _ w5).alloc (Nat.le_refl _) _).trans (putC_below (Nat.le_refl _) _ _ _)
                have Hw6:=hide hw6
                have u1:=kP.out.cell 1
                have t0:w6.cell? ⟨w5.heap.size,0,none⟩=some (.int .i64 (p.bs[p.bs.length - 1]'(by omega)).id):=k6.cell 0
                have t2:w6.cell? ⟨w5.heap.size,2,none⟩=some (.int .i64 (p.bs[p.bs.length - 1]'(by omega)).rd):=k6.cell 2
                have B16:=hide (B15.out.trans (b56.mono B15.out.size))
                have kC:=hide (kC.out.below b56 kC.out.lt)
                have kP:=hide (kP.out.below b56 kP.out.lt)
                have kR:=hide (kR.out.below b56 kR.out.lt)
                have kT:=hide (kT.out.below b56 kT.out.lt)
                have HO:=hide (HO.out.below b56 (Nat.le_refl _))
                have ea:=(ka.below B16.out hbw).cells.2.2.1
                have hb6:=Nat.lt_of_lt_of_le hbw B16.out.size
                have x1:=kC.out.cell 1
                have y1:=kP.out.cell 1
                have y2:=kP.out.cell 2
                have y3:=kP.out.cell 3
                have y4:=kP.out.cell 4
                simp only [List.getElem?_cons_zero,List.getElem?_cons_succ] at x1 y1 y2 y3 y4 u1
                have g0:=cell_regrown t0
                have g2:=cell_regrown t2
                have ga:=cell_regrown ea
                have gc:=cell_regrown x1
                have gp1:=cell_regrown y1
                have gp2:=cell_regrown y2
                have gp3:=cell_regrown y3
                have gp4:=cell_regrown y4
                have HQ6:=hide (fun (d:Nat) (os:Array Obj)=>Calls.regrown_of (HQc.out (grow (redrawn w6 d) os) (B16.out.trans ((below_regrown w6 d os).mono B16.out.size))))
                have HAt:=hide (fun (i:Nat) (h:i < p.bs.length)=>(show ∃ bv,BkAt w1 b (off+i * 14) p.bs[i] bv/\RdK w1 p.bs[i] bv from hat i h))
                clear ka kb ra rb hat t0 t2 ea x1 y1 y2 y3 y4 bz hw6 k6 b56 hcap HQc HK1 B15
                generalize bkC (p.bs[p.bs.length - 1]'(by omega)) vb=db at RG IE H1 Hth Hw6
                generalize (p.bs[p.bs.length - 2]'(by omega)).rd=ra at ga HRa hwJ
                generalize (p.bs[p.bs.length - 1]'(by omega)).rd=rb at g2 hwJ hRb
                generalize (p.bs[p.bs.length - 1]'(by omega)).id=ib at g0
                have hwr:IntKind.i64.wrap (ra+1)=ra+1:=by have:=HRa.out;rw [IntKind.wrap_i64];omega
                have hwr2:wrap64 (ra+1)=ra+1:=by have:=HRa.out;unfold wrap64;omega
                go_upto_region 6 with (first
                  | (refine wpList_load_mid rfl 92 _ rfl b (off+(p.bs.length - 1) * 14) rfl db _ RG.out Tryz.underlying92 rfl IE.out ?_)
                  | (refine wpList_store_mid rfl 92 _ _ rfl w5.heap.size 0 db.toArray rfl rfl Hth.out (by simpa using IE.out) H1.out ?_;rw [Hw6.out])
                  | fail)
                refine wp_region_quiet_below (by kernel_rfl) (by kernel_rfl) ?_
                (try dsimp only [List.append])
                (try simp only [Act.put])
                iterate 35 (go_big_quiet_step (first | (go_at_call 36;exact HQ6.out _ _)))
                refine wpQuiet_nil ?_
                intro _ hw'
                obtain ⟨⟨dq,osq⟩,hw''⟩:=hw'
                subst hw''
                have hb7:=below_regrown w6 dq osq
                obtain ⟨w7,hw7⟩:∃ x,grow (redrawn w6 dq) osq=x:=⟨_,rfl⟩
                rw [hw7] at hb7 ⊢
                have B17:=hide (B16.out.trans (hb7.mono B16.out.size))
                have kC:=hide (kC.out.below hb7 kC.out.lt)
                have kP:=hide (kP.out.below hb7 kP.out.lt)
                have kR:=hide (kR.out.below hb7 kR.out.lt)
                have kT:=hide (kT.out.below hb7 kT.out.lt)
                have HO:=hide (HO.out.below hb7 (Nat.le_refl _))
                clear hw7 hb7 g0 g2 ga gc gp1 gp2 gp3 gp4 u1 HQ6 B16 RG IE H1 Hth Hw6 hwr hwr2
                have f0:=kT.out.cell 0
                have f1:=kT.out.cell 1
                have r0:=kR.out.cell 0
                have r1:=kR.out.cell 1
                have g0:=kR.out.frozen 0
                have g1:=kR.out.frozen 1
                simp only [List.getElem?_cons_zero,List.getElem?_cons_succ] at f0 f1 r0 r1
                have HOx:=hide (((HO.out.olderC (g:=w.heap.size+1+1) hz1 0 (.int .i64 e)).olderC (g:=w.heap.size+1+1) hz1 1 (.slice a2 st.length c2)).mono (show w.heap.size<=w1.heap.size by omega))
                have HBx:=hide (((B1.out.trans (B17.out.mono B1.out.size)).setCell (p:=⟨w.heap.size+1+1,0,none⟩) (show w.heap.size<=w.heap.size+1+1 by omega) (.int .i64 e)).setCell (p:=⟨w.heap.size+1+1,1,none⟩) (show w.heap.size<=w.heap.size+1+1 by omega) (.slice a2 st.length c2))
                clear kC kP kR kT HO B1 B17
                go_wp2
                refine bodyPost_ret (v:=.tuple #[.agg #[.int .i64 e,.slice a2 st.length c2],.bool false]) (by simp [results,Tryz.f8,go_sem,r0,r1]) rfl ?_
                exact ⟨_,rfl,HOx.out,HBx.out⟩
      · have hX:=clB_no3 (e:=e) (st:=st) h2
        have hlt2:(p.bs.length:Int) < 2:=by omega
        have hd2:decide ((p.bs.length:Int) < 2)=true:=by simp;omega
        have hd3:decide (p.bs.length < 2)=true:=by simp;omega
        clear h1 he HLk HQc HK1 HN HNe h2
        rw [show clE e st p=e from by unfold clE;rw [if_neg (by rw [hX];decide)],show clS e st p=st from by unfold clS;rw [if_neg (by rw [hX];decide)],hX]
        clear hX
        go_enter Tryz.func8,Tryz.ntmps8
        go_upto_region 1 with fail
        (try rw [hw1])
        clear hw1
        go_wp2_with fail
        refine HCp.out.mono ?_
        rintro en w2 ⟨v2,rfl,o2,hb2⟩
        obtain ⟨a2,c2,hv2⟩:=o2.rd.shape
        subst hv2
        obtain ⟨w3,hw3⟩:∃ x,w2.alloc (.cells #[.int .i64 e,.slice a2 st.length c2] 35)=x:=⟨_,rfl⟩
        have b23:Below w2.heap.size w2 w3:=by rw [<- hw3];exact (Below.refl _ w2).alloc (Nat.le_refl _) _
        have kT:=hide (show Blk w3 w2.heap.size 35 [.int .i64 e,.slice a2 st.length c2] from by rw [<- hw3];exact Blk.new w2 _ _)
        have b13:=hb2.trans (b23.mono hb2.size)
        have hz2:=hb2.size
        have HCp:=trivial
        have kC:=hide (kC.out.below b13 kC.out.lt)
        have kP:=hide (kP.out.below b13 kP.out.lt)
        have kR:=hide (kR.out.below b13 kR.out.lt)
        have HO:=hide (o2.below b23 (Nat.le_refl _))
        have B13:=hide b13
        have x0:=kC.out.cell 0
        have x1:=kC.out.cell 1
        have y0:=kP.out.cell 0
        have y1:=kP.out.cell 1
        simp only [List.getElem?_cons_zero,List.getElem?_cons_succ] at x0 x1 y0 y1
        have HSt:=hide (HSt.out w3 b13)
        have Hw3:=hide hw3
        clear hw3 b13 b23 hb2 o2 v0 v1 HCp
        go_upto_region 2 with fail
        rw [Hw3.out]
        clear Hw3
        go_upto_region 3 with fail
        go_wp2_with fail
        refine HSt.out.mono ?_
        rintro en w4 ⟨rfl,hb4⟩
        have B14:=hide (B13.out.trans (hb4.mono B13.out.size))
        have kC:=hide (kC.out.below hb4 kC.out.lt)
        have kP:=hide (kP.out.below hb4 kP.out.lt)
        have kR:=hide (kR.out.below hb4 kR.out.lt)
        have kT:=hide (kT.out.below hb4 kT.out.lt)
        have HO:=hide (HO.out.below hb4 (Nat.le_refl _))
        have x0:=kC.out.cell 0
        have x1:=kC.out.cell 1
        have y0:=kP.out.cell 0
        have y1:=kP.out.cell 1
        simp only [List.getElem?_cons_zero,List.getElem?_cons_succ] at x0 x1 y0 y1
        clear HSt hb4 B13
        have f0:=kT.out.cell 0
        have f1:=kT.out.cell 1
        have r0:=kR.out.cell 0
        have r1:=kR.out.cell 1
        have g0:=kR.out.frozen 0
        have g1:=kR.out.frozen 1
        simp only [List.getElem?_cons_zero,List.getElem?_cons_succ] at f0 f1 r0 r1
        have HOx:=hide (((HO.out.olderC (g:=w.heap.size+1+1) hz1 0 (.int .i64 e)).olderC (g:=w.heap.size+1+1) hz1 1 (.slice a2 st.length c2)).mono (show w.heap.size<=w1.heap.size by omega))
        have HBx:=hide (((B1.out.trans (B14.out.mono B1.out.size)).setCell (p:=⟨w.heap.size+1+1,0,none⟩) (show w.heap.size<=w.heap.size+1+1 by omega) (.int .i64 e)).setCell (p:=⟨w.heap.size+1+1,1,none⟩) (show w.heap.size<=w.heap.size+1+1 by omega) (.slice a2 st.length c2))
        clear kC kP kR kT HO B1 B14
        go_wp2
        refine bodyPost_ret (v:=.tuple #[.agg #[.int .i64 e,.slice a2 st.length c2],.bool false]) (by simp [results,Tryz.f8,go_sem,r0,r1]) rfl ?_
        exact ⟨_,rfl,HOx.out,HBx.out⟩
    · have heb:(p.ep != e)=true:=by rw [bne_iff_ne];exact he
      have hX:=clB_no2 (e:=e) (st:=st) he
      clear h1 he HLk HQc HK1 HN HNe
      rw [show clE e st p=e from by unfold clE;rw [if_neg (by rw [hX];decide)],show clS e st p=st from by unfold clS;rw [if_neg (by rw [hX];decide)],hX]
      clear hX
      go_enter Tryz.func8,Tryz.ntmps8
      go_upto_region 1 with fail
      (try rw [hw1])
      clear hw1
      go_wp2_with fail
      refine HCp.out.mono ?_
      rintro en w2 ⟨v2,rfl,o2,hb2⟩
      obtain ⟨a2,c2,hv2⟩:=o2.rd.shape
      subst hv2
      obtain ⟨w3,hw3⟩:∃ x,w2.alloc (.cells #[.int .i64 e,.slice a2 st.length c2] 35)=x:=⟨_,rfl⟩
      have b23:Below w2.heap.size w2 w3:=by rw [<- hw3];exact (Below.refl _ w2).alloc (Nat.le_refl _) _
      have kT:=hide (show Blk w3 w2.heap.size 35 [.int .i64 e,.slice a2 st.length c2] from by rw [<- hw3];exact Blk.new w2 _ _)
      have b13:=hb2.trans (b23.mono hb2.size)
      have hz2:=hb2.size
      have HCp:=trivial
      have kC:=hide (kC.out.below b13 kC.out.lt)
      have kP:=hide (kP.out.below b13 kP.out.lt)
      have kR:=hide (kR.out.below b13 kR.out.lt)
      have HO:=hide (o2.below b23 (Nat.le_refl _))
      have B13:=hide b13
      have x0:=kC.out.cell 0
      have x1:=kC.out.cell 1
      have y0:=kP.out.cell 0
      have y1:=kP.out.cell 1
      simp only [List.getElem?_cons_zero,List.getElem?_cons_succ] at x0 x1 y0 y1
      have HSt:=hide (HSt.out w3 b13)
      have Hw3:=hide hw3
      clear hw3 b13 b23 hb2 o2 v0 v1 HCp
      go_upto_region 2 with fail
      rw [Hw3.out]
      clear Hw3
      go_upto_region 3 with fail
      go_wp2_with fail
      refine HSt.out.mono ?_
      rintro en w4 ⟨rfl,hb4⟩
      have B14:=hide (B13.out.trans (hb4.mono B13.out.size))
      have kC:=hide (kC.out.below hb4 kC.out.lt)
      have kP:=hide (kP.out.below hb4 kP.out.lt)
      have kR:=hide (kR.out.below hb4 kR.out.lt)
      have kT:=hide (kT.out.below hb4 kT.out.lt)
      have HO:=hide (HO.out.below hb4 (Nat.le_refl _))
      have x0:=kC.out.cell 0
      have x1:=kC.out.cell 1
      have y0:=kP.out.cell 0
      have y1:=kP.out.cell 1
      simp only [List.getElem?_cons_zero,List.getElem?_cons_succ] at x0 x1 y0 y1
      clear HSt hb4 B13
      have f0:=kT.out.cell 0
      have f1:=kT.out.cell 1
      have r0:=kR.out.cell 0
      have r1:=kR.out.cell 1
      have g0:=kR.out.frozen 0
      have g1:=kR.out.frozen 1
      simp only [List.getElem?_cons_zero,List.getElem?_cons_succ] at f0 f1 r0 r1
      have HOx:=hide (((HO.out.olderC (g:=w.heap.size+1+1) hz1 0 (.int .i64 e)).olderC (g:=w.heap.size+1+1) hz1 1 (.slice a2 st.length c2)).mono (show w.heap.size<=w1.heap.size by omega))
      have HBx:=hide (((B1.out.trans (B14.out.mono B1.out.size)).setCell (p:=⟨w.heap.size+1+1,0,none⟩) (show w.heap.size<=w.heap.size+1+1 by omega) (.int .i64 e)).setCell (p:=⟨w.heap.size+1+1,1,none⟩) (show w.heap.size<=w.heap.size+1+1 by omega) (.slice a2 st.length c2))
      clear kC kP kR kT HO B1 B14
      go_wp2
      refine bodyPost_ret (v:=.tuple #[.agg #[.int .i64 e,.slice a2 st.length c2],.bool false]) (by simp [results,Tryz.f8,go_sem,r0,r1]) rfl ?_
      exact ⟨_,rfl,HOx.out,HBx.out⟩
end Go.Proofs.YtaidhenkijjcfaaGreat
namespace Go.Proofs.YtaidhenkijjcfaaGreat
open Go.RowKit
set_option linter.unusedVariables false
theorem res_specPo {X:World} {a:Act} {R:Ending->World->Prop} {F:List Value} (g:Nat) (bk:Value) (h:X.rangeAt g 0 F) (h4:a.tmps[4]?.getD undef=.pointer (some ⟨g,0,none⟩)) (h5:a.tmps[5]?.getD undef=bk) (hs:(Tryz.prog.info? 42).map (·.size)=some F.length) (hd:a.defers=[]) (hR:R (.returned (.tuple #[.agg F.toArray,bk])) X):bodyPost Tryz.prog Tryz.f18 R .ret a X:=by
  have hl:=run_loadVar_mid (P:=Tryz.prog) X g 0 42 F _ h Tryz.underlying42 rfl hs
  refine bodyPost_ret (v:=.tuple #[.agg F.toArray,bk]) ?_ hd hR
  simp [results,Tryz.f18,h4,h5,asAddr,hl]
theorem specProofOf_any (p:Nd) (u:Nv) (e:Int) (w:World) (hr:RdNd w p u) (hl:p.ps.length<=4000000) (hf:∀ q ∈ p.ps,FewPf q) (hb:∀ q ∈ p.ps,q.bs.length<=3999999) :
    Calls Tryz.prog 18 #[noV p u,.int .i64 e] w fun en w'=>∃ y,en=.returned (.tuple #[pfV (poP p.ps e) y,.bool (poO p.ps e)])/\RdPf w' (poP p.ps e) y/\Below w.heap.size w w':=by
  obtain ⟨w1,hw1⟩:∃ x,(w.alloc (.cells (noC p u).toArray 73)).alloc (.cells #[.int .i64 0,.slice none 0 0,.int .i64 0,.int .i64 0,.slice none 0 0] 42)=x:=⟨_,rfl⟩
  have b1:Below w.heap.size w w1:=by rw [<- hw1];exact ((Below.refl _ w).alloc (Nat.le_refl _) _).alloc (by simp) _
  have k1:Blk w1 w.heap.size 73 (noC p u):=by rw [<- hw1];exact (Blk.new w _ _).below ((Below.refl (w.heap.size+1) _).alloc (by simp) _) (by omega)
  have r1:Blk w1 (w.heap.size+1) 42 [.int .i64 0,.slice none 0 0,.int .i64 0,.int .i64 0,.slice none 0 0]:=by rw [<- hw1];exact Blk.newR _ _ [.int .i64 0,.slice none 0 0,.int .i64 0,.int .i64 0,.slice none 0 0] _ (by simp)
  have hq:=hr.kq
  obtain ⟨aq,cq,hqv⟩:=hq.shape
  have q1:w1.cell? ⟨w.heap.size,19,none⟩=some (.slice aq p.ps.length cq):=(k1.cell 19).trans (by rw [<- hqv];rfl)
  rw [hqv] at hq
  rw [show noV p u=.agg (noC p u).toArray from rfl]
  have HX:=hide (fun q y V (h:RdPf V q y) (hm:q ∈ p.ps)=>specCopyPf_any q y V h (hf q hm) (hb q hm))
  have HP:Hid (poP p.ps e=(pfF p.ps e).getD poZ/\poO p.ps e=(pfF p.ps e).isSome):=hide ⟨rfl,rfl⟩
  generalize poP p.ps e=P at HP ⊢
  generalize poO p.ps e=O at HP ⊢
  clear hr hf hb hqv
  generalize p.ps=L at HX HP hl hq q1
  generalize noC p u=cs at hw1 k1 ⊢
  have Hq:=hide hq
  have B1:=hide b1
  have R1:=hide r1
  have hs1:w.heap.size+1 < w1.heap.size:=r1.lt
  clear b1 r1 hq k1
  go_enter Tryz.func18,Tryz.ntmps18
  go_upto_region 1 with fail
  (try rw [hw1])
  clear hw1
  go_wp2
  go_loopw [6] (fun iv wr=>∃ k:Nat,k<=L.length/\iv=.int .i64 (k:Int)/\(∀ j (h:j < L.length),j < k->¬ L[j].ep=e)/\wr=w1) (fun iv _=>L.length - (intOf iv).toNat)
  case atStart=>exact ⟨0,by omega,rfl,fun j _ h=>by omega,rfl⟩
  case round =>
    obtain ⟨k,hk,rfl,hn,rfl⟩:=hrel
    by_cases hlt:k < L.length
    · obtain ⟨b,off,rfl,hbw,hat⟩:=Hq.out.atP (by omega)
      obtain ⟨y,hrg,hrd⟩:=hat k hlt
      have hli:(k:Int) < (L.length:Int):=by omega
      have hrg:=range_below hrg B1.out hbw
      have Hyes:=hide (fun he=>pfF_at L e k hlt he hn)
      have Hm:=hide (List.getElem_mem hlt)
      have Hstep:=hide (fun (he:¬ L[k].ep=e) j (h:j < L.length) (hj:j < k+1)=>show ¬ L[j].ep=e from by
        rcases Nat.lt_succ_iff_lt_or_eq.1 hj with h' | h'
        · exact hn j h h'
        · subst h';exact he)
      clear hat hn
      generalize L[k]=q at hrg hrd Hyes Hstep Hm
      obtain ⟨ep,bs,qr,qb,qw⟩:=q
      obtain ⟨yb,yw⟩:=y
      obtain ⟨ab,cb,hyb⟩:=hrd.kb.shape
      obtain ⟨aw,cw,hyw⟩:=hrd.kw.shape
      simp only at hyb hyw
      subst hyb hyw
      have c0:=hrg 0 _ rfl
      have c1:=hrg 1 _ rfl
      have c2:=hrg 2 _ rfl
      have c3:=hrg 3 _ rfl
      have c4:=hrg 4 _ rfl
      simp only [Nat.add_zero] at c0
      simp only at Hyes Hstep c0 c1 c2 c3 c4
      have Hrd:=hide (hrd.below B1.out (Nat.le_refl _))
      clear hrg hrd
      by_cases he:ep=e
      · have Hy2:=hide (Hyes.out he)
        clear Hstep Hyes
        subst he
        have hP:=HP.out
        rw [Hy2.out] at hP
        simp only [Option.getD_some,Option.isSome_some] at hP
        obtain ⟨h1,rfl⟩:=hP
        have HPq:=hide h1
        clear HP h1 Hy2
        have HC:=hide (HX.out _ _ _ Hrd.out Hm.out)
        clear HX Hrd Hm
        simp only [pfV] at *
        go_wp2_with fail
        refine HC.out.mono ?_
        rintro en w4 ⟨y4,rfl,o4,hb4⟩
        obtain ⟨ad4,cp4,hv4⟩:=o4.rd.kb.shape
        obtain ⟨aw4,cw4,hw4⟩:=o4.rd.kw.shape
        obtain ⟨c4,hc4⟩:∃ c,pfC ⟨ep,bs,qr,qb,qw⟩ y4=c:=⟨_,rfl⟩
        have ev:pfV ⟨ep,bs,qr,qb,qw⟩ y4=.agg c4.toArray:=by rw [<- hc4];rfl
        have I4:=hide (show (Tryz.prog.info? 42).map (·.size)=some c4.length from by rw [<- hc4];exact Tryz.infoP5)
        have O4:=hide (show c4.toArray.all (·.oneCell')=true from by rw [<- hc4];unfold pfC;rw [hv4,hw4];exact all_oneCell_toArray (List.all_eq_true.1 rfl))
        have L4:=hide (show c4.length=5 from by rw [<- hc4];rfl)
        have R4:=hide (R1.out.below hb4 R1.out.lt)
        have T4:=hide (show w4.there (w.heap.size+1) 0 c4.toArray.size from R4.out.there (by rw [List.size_toArray,L4.out];rfl))
        obtain ⟨w5,hw5⟩:∃ x,w4.setCells (w.heap.size+1) 0 c4=x:=⟨_,rfl⟩
        have K5:=hide (show Blk w5 (w.heap.size+1) 42 c4 from by rw [<- hw5];exact blk_all R4.out (by rw [L4.out];rfl))
        have B5:=hide (show Below w.heap.size w w5 from by rw [<- hw5];exact (B1.out.trans (hb4.mono B1.out.size)).trans (putC_below (by omega) _ _ _))
        have X5:=hide (show RdPf w5 ⟨ep,bs,qr,qb,qw⟩ y4 from by rw [<- hw5];exact (o4.kept (Kept.setCs w4 0 c4 (.inl (by omega)))).rd)
        have HW5:=hide hw5
        have EV:=hide ev
        have ev2:(Value.agg #[.int .i64 ep,y4.b,.int .i64 qr,.int .i64 qb,y4.w])=.agg c4.toArray:=ev
        rw [ev2]
        clear ev ev2 hw5 hc4 hv4 hw4 o4 hb4 HC R4
        go_wp2_with (first
          | (refine wpList_store_mid rfl 42 _ _ rfl (w.heap.size+1) 0 c4.toArray rfl rfl T4.out (by simpa using I4.out) O4.out ?_;rw [HW5.out])
          | fail)
        refine res_specPo (F:=c4) (w.heap.size+1) (.bool true) (blk_range K5.out) (by rfl) (by rfl) I4.out rfl ?_
        exact ⟨y4,by rw [HPq.out,<- EV.out],by rw [HPq.out];exact X5.out,B5.out⟩
      · have Hst2:=hide (Hstep.out he)
        clear Hyes Hstep
        go_wp2
        go_roundw
        case rel=>exact ⟨k+1,by omega,by go_num,Hst2.out,by trivial⟩
        case measure=>simp [intOf];omega
    · have hno:=pfF_none L e (fun j hj=>hn j hj (by omega))
      have hP:=HP.out
      rw [hno] at hP
      simp only [Option.getD_none,Option.isSome_none] at hP
      obtain ⟨rfl,rfl⟩:=hP
      clear hno hn HP HX
      have g0:=R1.out.frozen 0
      have g1:=R1.out.frozen 1
      have g2:=R1.out.frozen 2
      have g3:=R1.out.frozen 3
      have g4:=R1.out.frozen 4
      have x0:=R1.out.cell 0
      have x1:=R1.out.cell 1
      have x2:=R1.out.cell 2
      have x3:=R1.out.cell 3
      have x4:=R1.out.cell 4
      simp only [List.getElem?_cons_zero,List.getElem?_cons_succ] at x0 x1 x2 x3 x4
      obtain ⟨zs,hzs⟩:∃ c,([.int .i64 0,.slice none 0 0,.int .i64 0,.int .i64 0,.slice none 0 0]:List Value)=c:=⟨_,rfl⟩
      have I4:=hide (show (Tryz.prog.info? 42).map (·.size)=some zs.length from by rw [<- hzs];exact Tryz.infoP5)
      have O4:=hide (show zs.toArray.all (·.oneCell')=true from by rw [<- hzs];exact all_oneCell_toArray (List.all_eq_true.1 rfl))
      have T4:=hide (show wr.there (w.heap.size+1) 0 zs.toArray.size from R1.out.there (by rw [List.size_toArray,<- hzs]))
      obtain ⟨w5,hw5⟩:∃ x,wr.setCells (w.heap.size+1) 0 zs=x:=⟨_,rfl⟩
      have K5:=hide (show Blk w5 (w.heap.size+1) 42 zs from by rw [<- hw5];exact blk_all R1.out (by rw [<- hzs]))
      have B5:=hide (show Below w.heap.size w w5 from by rw [<- hw5];exact B1.out.trans (putC_below (by omega) _ _ _))
      have HW5:=hide hw5
      have EV:=hide (show pfV poZ poY=.agg zs.toArray from by rw [<- hzs];rfl)
      have EA:=hide (show (Value.agg #[.int .i64 0,.slice none 0 0,.int .i64 0,.int .i64 0,.slice none 0 0])=.agg zs.toArray from by rw [<- hzs])
      have HZ:=hide (show RdPf w5 poZ poY from rdPf_zero w5)
      clear hw5 hzs x0 x1 x2 x3 x4 g0 g1 g2 g3 g4
      go_wp2_with (first
        | (simp only [EA.out];refine wpList_store_mid rfl 42 _ _ rfl (w.heap.size+1) 0 zs.toArray rfl rfl T4.out (by simpa using I4.out) O4.out ?_;rw [HW5.out])
        | fail)
      refine res_specPo (F:=zs) (w.heap.size+1) (.bool false) (blk_range K5.out) (by rfl) (by rfl) I4.out rfl ?_
      exact ⟨poY,by rw [EV.out],HZ.out,B5.out⟩
end Go.Proofs.YtaidhenkijjcfaaGreat
