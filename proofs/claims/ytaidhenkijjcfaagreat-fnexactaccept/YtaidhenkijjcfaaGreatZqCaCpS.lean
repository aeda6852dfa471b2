/- A client copied, of the model. -/
import Derived.Test.YtaidhenkijjcfaaGreatZqCaBel
import Derived.Test.YtaidhenkijjcfaaGreatZqClNew
set_option maxRecDepth 20000
set_option maxHeartbeats 8000000
namespace Go.Proofs.YtaidhenkijjcfaaGreat
open Go.RowKit Go.Sort
set_option linter.unusedVariables false
set_option linter.unusedSimpArgs false
theorem res_implAc {X:World} {a:Act} {R:Ending->World->Prop} {F:List Value} (g:Nat) (bk:Value) (h:X.rangeAt g 0 F) (h4:a.tmps[4]?.getD undef=.pointer (some ⟨g,0,none⟩)) (h5:a.tmps[5]?.getD undef=bk) (hs:(Tryz.prog.info? 35).map (·.size)=some F.length) (hd:a.defers=[]) (hR:R (.returned (.tuple #[.agg F.toArray,bk])) X):bodyPost Tryz.prog Tryz.f11 R .ret a X:=by
  have hl:=run_loadVar_mid (P:=Tryz.prog) X g 0 35 F _ h Tryz.underlying35 rfl hs
  refine bodyPost_ret (v:=.tuple #[.agg F.toArray,bk]) ?_ hd hR
  simp [results,Tryz.f11,h4,h5,asAddr,hl]
theorem cell_not2 (V:World) (x y:Value) {b o g:Nat} (h:b ≠ g):(V.setCells g 0 [x,y]).cell? ⟨b,o,none⟩=V.cell? ⟨b,o,none⟩:=World.cell?_setCells_out g [x,y] 0 V ⟨b,o,none⟩ (fun e=>absurd e h)
theorem implAccept_any (e:Int) (vs:Value) (st:List Vl) (p:Pf) (u:Pv) (w:World) (hr:RdV w vs st) (hp:RdPf w p u) (hls:st.length<=4000000) (hss:∀ a ∈ st,a.1.size<=maxLen) (hl:p.bs.length<=4000000) (hf:∀ b ∈ p.bs,FewK b) (hbd:∀ b ∈ p.bs,-9223372036854775808<=b.tr/\b.tr<=9223372036854775807) (hlq:p.qw.length<=4000000) (hsq:∀ s ∈ p.qw,s.size<=maxLen) :
    Calls Tryz.prog 11 #[lgV e vs,pfV p u] w fun en w'=>∃ v',en=.returned (.tuple #[lgV (clE e st p) v',.bool (clB e st p)])/\OwnV w.heap.size w' v' (clS e st p)/\Below w.heap.size w w':=by
  obtain ⟨aS,cS,rfl⟩:=hr.shape
  obtain ⟨aL,cL,hvL⟩:=hp.kb.shape
  obtain ⟨aQ,cQ,hvQ⟩:=hp.kw.shape
  obtain ⟨yb,yw⟩:=u
  simp only at hvL hvQ
  subst hvL hvQ
  obtain ⟨w1,hw1⟩:∃ x,((w.alloc (.cells #[.int .i64 e,.slice aS st.length cS] 35)).alloc (.cells #[.int .i64 p.ep,.slice aL p.bs.length cL,.int .i64 p.qr,.int .i64 p.qb,.slice aQ p.qw.length cQ] 42)).alloc (.cells #[.int .i64 0,.slice none 0 0] 35)=x:=⟨_,rfl⟩
  have s1:(w.alloc (.cells #[.int .i64 e,.slice aS st.length cS] 35)).heap.size=w.heap.size+1:=by simp
  have s2:((w.alloc (.cells #[.int .i64 e,.slice aS st.length cS] 35)).alloc (.cells #[.int .i64 p.ep,.slice aL p.bs.length cL,.int .i64 p.qr,.int .i64 p.qb,.slice aQ p.qw.length cQ] 42)).heap.size=w.heap.size+1+1:=by simp
  have b1:Below w.heap.size w w1:=by rw [<- hw1];exact (((Below.refl _ w).alloc (Nat.le_refl _) _).alloc (by rw [s1];omega) _).alloc (by rw [s2];omega) _
  have kC:=hide (show Blk w1 w.heap.size 35 [.int .i64 e,.slice aS st.length cS] from by rw [<- hw1];exact (Blk.new w _ _).below (((Below.refl (w.heap.size+1) _).alloc (by rw [s1];exact Nat.le_refl _) _).alloc (by rw [s2];omega) _) (by omega))
  have kP:=hide (show Blk w1 (w.heap.size+1) 42 [.int .i64 p.ep,.slice aL p.bs.length cL,.int .i64 p.qr,.int .i64 p.qb,.slice aQ p.qw.length cQ] from by
    rw [<- hw1]
    exact (Blk.newR _ _ [.int .i64 p.ep,.slice aL p.bs.length cL,.int .i64 p.qr,.int .i64 p.qb,.slice aQ p.qw.length cQ] _ s1.symm).below ((Below.refl (w.heap.size+1+1) _).alloc (by rw [s2];exact Nat.le_refl _) _) (by omega))
  have kR:=hide (show Blk w1 (w.heap.size+1+1) 35 [.int .i64 0,.slice none 0 0] from by rw [<- hw1];exact Blk.newR _ _ [.int .i64 0,.slice none 0 0] _ s2.symm)
  have HBl:=hide (believes_any e (.slice aS st.length cS) st p ⟨.slice aL p.bs.length cL,.slice aQ p.qw.length cQ⟩ w1 (hr.below b1 (Nat.le_refl _)) (hp.below b1 (Nat.le_refl _)) hls hss hl hf hbd hlq hsq)
  have Hr1:=hide (hr.below b1 (Nat.le_refl _))
  have Hk1:=hide (hp.kb.below b1 (Nat.le_refl _))
  have HNe:=hide (show ∀ b,(∃ off,aL=some ⟨b,off,none⟩)->p.bs ≠ []->b < w.heap.size from fun b ⟨off,h⟩ h0=>by
    rcases hp.kb with ⟨_,_,e1,e2,_⟩ | ⟨b',off',_,_,e1,_,_,h3,_⟩
    · exact absurd e2 h0
    · simp only [Value.slice.injEq] at e1
      rw [h] at e1
      simp only [Option.some.injEq,Addr.mk.injEq] at e1
      rw [e1.1.1];exact h3)
  have HE:=hide (show clE e st p=if clB e st p=true then e+1 else e from rfl)
  have HT:=hide (show clS e st p=if clB e st p=true then enN p.bs else st from rfl)
  have HI:=hide (fun (h:clB e st p=true)=>clB_is h)
  have HN:=hide (fun b (h:b ∈ p.bs)=>(hf b h).n)
  have x0:=kC.out.cell 0
  have x1:=kC.out.cell 1
  have y0:=kP.out.cell 0
  have y1:=kP.out.cell 1
  have y2:=kP.out.cell 2
  have y3:=kP.out.cell 3
  have y4:=kP.out.cell 4
  simp only [List.getElem?_cons_zero,List.getElem?_cons_succ] at x0 x1 y0 y1 y2 y3 y4
  have B1:=hide b1
  have hz1:=kR.out.lt
  simp only [lgV,pfV] at *
  clear hr hp hss hf hbd hsq b1 s1 s2
  cases hX:clB e st p
  · rw [hX] at HBl HE HT
    rw [if_neg (by decide)] at HE HT
    rw [HE.out,HT.out]
    clear hX HI HE HT HN HNe Hk1
    go_enter Tryz.func11,Tryz.ntmps11
    go_upto_region 1 with fail
    (try rw [hw1])
    clear hw1
    go_wp2_with fail
    refine HBl.out.mono ?_
    rintro en w2 ⟨rfl,hb2⟩
    have HB2:=hide (B1.out.trans (hb2.mono B1.out.size))
    have hs2:w.heap.size+1+1 < w2.heap.size:=Nat.lt_of_lt_of_le hz1 hb2.size
    have kC2:=hide (kC.out.below hb2 kC.out.lt)
    have kR2:=hide (kR.out.below hb2 kR.out.lt)
    have Hr2:=hide (Hr1.out.below hb2 (Nat.le_refl _))
    have bD:Below w2.heap.size w2 w2.drew:=(Below.refl _ w2).drew
    have HSS:=hide (fun V (hV:Below w2.heap.size w2 V)=>(show V.cell? ⟨w.heap.size,0,none⟩=some (.int .i64 e)/\V.cell? ⟨w.heap.size,1,none⟩=some (.slice aS st.length cS) from ⟨(kC2.out.below hV kC2.out.lt).cell 0,(kC2.out.below hV kC2.out.lt).cell 1⟩))
    have HST:=hide (fun V (x y:Value) (hV:Below w2.heap.size w2 V)=>(show (V.setCells (w.heap.size+1+1) 0 [x,y]).cell? ⟨w.heap.size,0,none⟩=some (.int .i64 e)/\(V.setCells (w.heap.size+1+1) 0 [x,y]).cell? ⟨w.heap.size,1,none⟩=some (.slice aS st.length cS) from by
      have k:=(kC2.out.below hV kC2.out.lt).not2 (g:=w.heap.size+1+1) (by omega) x y
      exact ⟨k.cell 0,k.cell 1⟩))
    have HRR:=hide (fun V (hV:Below w2.heap.size w2 V)=>kR2.out.below hV kR2.out.lt)
    have HCt:=hide (fun V (hV:Below w2.heap.size w2 V) (hc:V.cell? ⟨w2.heap.size,0,none⟩=some (.slice aS st.length cS)) (hg:w2.heap.size < V.heap.size)=>concatVal_any (.slice aS st.length cS) st w2.heap.size V (Hr2.out.below hV (Nat.le_refl _)) hls hc hg)
    clear x0 x1 y0 y1 y2 y3 y4 hb2 HBl kC kP kR kC2 kR2 Hr1 Hr2 B1 hz1
    go_upto_region 2 with fail
    go_wp2
    refine wp_region_held_drew (S:=fun W=>W.cell? ⟨w.heap.size,0,none⟩=some (.int .i64 e)/\W.cell? ⟨w.heap.size,1,none⟩=some (.slice aS st.length cS)) (by kernel_rfl) (HSS.out _ bD) (fun hHeld=>?_)
    refine wpAnyH_take (i:=0) (v:=.pointer (some ⟨w.heap.size,0,none⟩)) rfl (by kernel_rfl) (by kernel_rfl) (by kernel_rfl) (fun _ _ _ h=>h) (Or.inl ⟨by rfl,fun W hW=>by (obtain ⟨q0,q1⟩:=hW;go_simp)⟩) (by assumption) ?_
    change wpAnyH Tryz.prog _ _ _ _ _ _ (Act.put _ (some 11) _) _
    simp only [Act.put,List.setIfInBounds_toArray,List.set_cons_zero,List.set_cons_succ]
    refine wpAnyH_take (i:=1) (v:=.int .i64 e) rfl (by kernel_rfl) (by kernel_rfl) (by kernel_rfl) (fun _ _ _ h=>h) (Or.inl ⟨by rfl,fun W hW=>by (obtain ⟨q0,q1⟩:=hW;go_simp)⟩) (by assumption) ?_
    change wpAnyH Tryz.prog _ _ _ _ _ _ (Act.put _ (some 12) _) _
    simp only [Act.put,List.setIfInBounds_toArray,List.set_cons_zero,List.set_cons_succ]
    refine wpAnyH_take (i:=2) (v:=.pointer (some ⟨w.heap.size,1,none⟩)) rfl (by kernel_rfl) (by kernel_rfl) (by kernel_rfl) (fun _ _ _ h=>h) (Or.inl ⟨by rfl,fun W hW=>by (obtain ⟨q0,q1⟩:=hW;go_simp)⟩) (by assumption) ?_
    change wpAnyH Tryz.prog _ _ _ _ _ _ (Act.put _ (some 13) _) _
    simp only [Act.put,List.setIfInBounds_toArray,List.set_cons_zero,List.set_cons_succ]
    refine wpAnyH_take (i:=3) (v:=.slice aS st.length cS) rfl (by kernel_rfl) (by kernel_rfl) (by kernel_rfl) (fun _ _ _ h=>h) (Or.inl ⟨by rfl,fun W hW=>by (obtain ⟨q0,q1⟩:=hW;go_simp)⟩) (by assumption) ?_
    change wpAnyH Tryz.prog _ _ _ _ _ _ (Act.put _ (some 14) _) _
    simp only [Act.put,List.setIfInBounds_toArray,List.set_cons_zero,List.set_cons_succ]
    refine wpAnyH_ready (rs:=[4]) (by kernel_rfl) (by simp) ?_
    refine AllReadyH.cons rfl (fun K hK=>?_) AllReadyH.nil
    go_simp
    have ba:Below w2.heap.size w2 (w2.alloc (.cells #[.slice aS st.length cS] 33)).drew:=((Below.refl _ w2).alloc (Nat.le_refl _) _).drew
    have ka:Blk (w2.alloc (.cells #[.slice aS st.length cS] 33)).drew w2.heap.size 33 [.slice aS st.length cS]:=Blk.new w2 _ _
    have HC:=hide (HCt.out _ ba (ka.cell 0) ka.lt)
    refine hK.out _ _ (HSS.out _ ba) (fun hHeld=>?_)
    try simp only [Act.put,List.setIfInBounds_toArray,List.set_cons_zero,List.set_cons_succ]
    refine wpAnyH_ready (rs:=[5]) (by kernel_rfl) (by simp) ?_
    refine AllReadyH.cons rfl (fun K hK=>?_) AllReadyH.nil
    go_simp
    go_wp2_with (go_at_call 41;(with_reducible refine HC.out.mono ?_);rintro en w3 ⟨v3,rfl,o3,hb3⟩;obtain ⟨a3,c3,hv3⟩:=o3.rd.shape;subst hv3;have b3:=ba.trans (hb3.mono ba.size))
    refine hK.out _ _ (HSS.out _ b3) (fun hHeld=>?_)
    try simp only [Act.put,List.setIfInBounds_toArray,List.set_cons_zero,List.set_cons_succ]
    refine wpAnyH_take (i:=6) (v:=.agg #[.int .i64 e,.slice a3 st.length c3]) rfl (by kernel_rfl) (by kernel_rfl) (by kernel_rfl) (fun _ _ _ h=>h) (Or.inl ⟨by rfl,fun W hW=>by (obtain ⟨q0,q1⟩:=hW;go_simp)⟩) (by assumption) ?_
    change wpAnyH Tryz.prog _ _ _ _ _ _ (Act.put _ (some 17) _) _
    simp only [Act.put,List.setIfInBounds_toArray,List.set_cons_zero,List.set_cons_succ]
    have kr:=HRR.out _ b3
    have b4:Below w2.heap.size w2 (w3.setCells (w.heap.size+1+1) 0 [.int .i64 e,.slice a3 st.length c3])->True:=fun _=>trivial
    refine wpAnyH_ready (rs:=[7]) (by kernel_rfl) (by simp) ?_
    refine AllReadyH.cons rfl (fun K hK=>?_) AllReadyH.nil
    refine wp_store_mid 35 _ _ rfl (w.heap.size+1+1) 0 #[.int .i64 e,.slice a3 st.length c3] rfl rfl (kr.there2 (n:=2) rfl) (by kernel_rfl) (all_oneCell_toArray (cs:=[.int .i64 e,.slice a3 st.length c3]) (List.all_eq_true.1 rfl)) ?_
    refine hK.out _ _ (HST.out _ _ _ b3) (fun hHeld=>?_)
    try simp only [Act.put,List.setIfInBounds_toArray,List.set_cons_zero,List.set_cons_succ]
    refine wpAnyH_take (i:=8) (v:=.bool false) rfl (by kernel_rfl) (by kernel_rfl) (by kernel_rfl) (fun _ _ _ h=>h) (Or.inl ⟨by rfl,fun W hW=>by go_simp⟩) (by assumption) ?_
    change wpAnyH Tryz.prog _ _ _ _ _ _ (Act.put _ (some 5) _) _
    simp only [Act.put,List.setIfInBounds_toArray,List.set_cons_zero,List.set_cons_succ]
    refine wpAnyH_done (by kernel_rfl) ?_ _
    have KX:=hide (show Blk (w3.setCells (w.heap.size+1+1) 0 [.int .i64 e,.slice a3 st.length c3]) (w.heap.size+1+1) 35 [.int .i64 e,.slice a3 st.length c3] from kr.set2 _ _)
    have HB:=hide (below_set2 (HB2.out.trans (b3.mono HB2.out.size)) (g:=w.heap.size+1+1) (by omega) (.int .i64 e) (.slice a3 st.length c3))
    have HO:=hide ((o3.setsC (g:=w.heap.size+1+1) (Nat.lt_of_lt_of_le hs2 ba.size) (.int .i64 e) (.slice a3 st.length c3)).mono (show w.heap.size<=(w2.alloc (.cells #[.slice aS st.length cS] 33)).drew.heap.size by have:=ba.size;omega))
    clear HSS HST HRR kr ba ka HC o3 hb3 b3 b4
    go_wp2
    refine res_implAc (F:=[.int .i64 e,.slice a3 st.length c3]) (w.heap.size+1+1) (.bool false) KX.out.range2 (by rfl) (by rfl) (by kernel_rfl) rfl ?_
    exact ⟨.slice a3 st.length c3,rfl,HO.out,HB.out⟩
  · obtain ⟨⟨he0,he9⟩,h2,hany⟩:=HI.out hX
    rw [hX] at HBl HE HT
    rw [if_pos rfl] at HE HT
    rw [HE.out,HT.out]
    have Hany:=hide (show p.bs.any (fun x=>x.en)=true from by
      rw [List.any_eq_true] at hany ⊢
      obtain ⟨x,hx,hy⟩:=hany
      exact ⟨x,List.mem_of_mem_take hx,hy⟩)
    have hew:IntKind.i64.wrap (e+1)=e+1:=by rw [IntKind.wrap_i64];omega
    clear hX HI HE HT hany
    go_enter Tryz.func11,Tryz.ntmps11
    go_upto_region 1 with fail
    (try rw [hw1])
    clear hw1
    go_wp2_with fail
    refine HBl.out.mono ?_
    rintro en w2 ⟨rfl,hb2⟩
    have kC2:=hide (kC.out.below hb2 kC.out.lt)
    have kP2:=hide (kP.out.below hb2 kP.out.lt)
    have kR2:=hide (kR.out.below hb2 kR.out.lt)
    have Hk2:=hide (Hk1.out.below hb2 (Nat.le_refl _))
    have HB2:=hide (B1.out.trans (hb2.mono B1.out.size))
    have z1:=kP2.out.cell 1
    simp only [List.getElem?_cons_zero,List.getElem?_cons_succ] at z1
    have HIx:=hide (indexEnd_any (.slice aL p.bs.length cL) p.bs w2 Hk2.out hl)
    have hs2:w.heap.size+1+1 < w2.heap.size:=Nat.lt_of_lt_of_le hz1 hb2.size
    clear x0 x1 y0 y1 y2 y3 y4 hb2 HBl kC kP kR Hr1 Hk1 B1 hz1
    go_wp2_with fail
    refine HIx.out.mono ?_
    rintro en w4 ⟨⟨i,rfl,hi⟩,hb4⟩
    rcases hi with ⟨-,hno⟩ | ⟨k,hk,rfl,hen,hfd⟩
    · exact absurd Hany.out (by rw [hno];decide)
    have hEN:enN p.bs=p.bs[k].nx:=by unfold enN;rw [hfd];rfl
    have HEN:=hide hEN
    clear hEN hfd hen HIx z1
    obtain ⟨b,off,hab,hbw,hcap,hat⟩:=Hk2.out.atC (by omega)
    subst hab
    obtain ⟨bv,hk1,hrk⟩:=hat k hk
    obtain ⟨aN,cN,hvN⟩:=hrk.n.shape
    have hn:=HN.out _ (List.getElem_mem hk)
    have kC4:=hide (kC2.out.below hb4 kC2.out.lt)
    have kP4:=hide (kP2.out.below hb4 kP2.out.lt)
    have kR4:=hide (kR2.out.below hb4 kR2.out.lt)
    have hq4:=hide (hk1.below hb4 hbw)
    have Hn4:=hide (hrk.n.below hb4 (Nat.le_refl _))
    rw [hvN] at Hn4
    have HB2:=hide (HB2.out.trans (hb4.mono HB2.out.size))
    have hs2:w.heap.size+1+1 < w4.heap.size:=Nat.lt_of_lt_of_le hs2 hb4.size
    have hb4z:=Nat.lt_of_lt_of_le hbw hb4.size
    have hne:b ≠ w.heap.size+1+1:=by have:=HNe.out b ⟨off,rfl⟩ (List.ne_nil_of_length_pos (by omega));omega
    have cN4:∀ V,Below w4.heap.size w4 V->V.cell? ⟨b,off+k * 14+12,none⟩=some (.slice aN p.bs[k].nx.length cN):=fun V hV=>by rw [<- hvN];exact (hq4.out.below hV hb4z).cells.2.2.2.2.2.2.2.2.2.2.2.2.1
    have hki:(k:Int) < (p.bs.length:Int):=by omega
    have bD:Below w4.heap.size w4 w4.drew:=(Below.refl _ w4).drew
    have HSS:=hide (fun V (hV:Below w4.heap.size w4 V)=>(show V.cell? ⟨w.heap.size,0,none⟩=some (.int .i64 e)/\V.cell? ⟨w.heap.size+1,1,none⟩=some (.slice (some ⟨b,off,none⟩) p.bs.length cL)/\V.cell? ⟨b,off+k * 14+12,none⟩=some (.slice aN p.bs[k].nx.length cN) from ⟨(kC4.out.below hV kC4.out.lt).cell 0,(kP4.out.below hV kP4.out.lt).cell 1,cN4 V hV⟩))
    have HST:=hide (fun V (x y:Value) (hV:Below w4.heap.size w4 V)=>(show (V.setCells (w.heap.size+1+1) 0 [x,y]).cell? ⟨w.heap.size,0,none⟩=some (.int .i64 e)/\(V.setCells (w.heap.size+1+1) 0 [x,y]).cell? ⟨w.heap.size+1,1,none⟩=some (.slice (some ⟨b,off,none⟩) p.bs.length cL)/\(V.setCells (w.heap.size+1+1) 0 [x,y]).cell? ⟨b,off+k * 14+12,none⟩=some (.slice aN p.bs[k].nx.length cN) from by
      have k1:=(kC4.out.below hV kC4.out.lt).not2 (g:=w.heap.size+1+1) (by omega) x y
      have k2:=(kP4.out.below hV kP4.out.lt).not2 (g:=w.heap.size+1+1) (by omega) x y
      exact ⟨k1.cell 0,k2.cell 1,by rw [cell_not2 _ _ _ hne];exact cN4 V hV⟩))
    have HRR:=hide (fun V (hV:Below w4.heap.size w4 V)=>kR4.out.below hV kR4.out.lt)
    have HCt:=hide (fun V (hV:Below w4.heap.size w4 V) (hc:V.cell? ⟨w4.heap.size,0,none⟩=some (.slice aN p.bs[k].nx.length cN)) (hg:w4.heap.size < V.heap.size)=>concatVal_any (.slice aN p.bs[k].nx.length cN) p.bs[k].nx w4.heap.size V (Hn4.out.below hV (Nat.le_refl _)) hn hc hg)
    generalize p.bs[k].nx=Y at HSS HST HCt HEN
    clear HNe hb4 kC2 kP2 kR2 Hk2 hat hk1 hrk hvN hn hq4 Hn4 cN4 Hany HN kC4 kP4 kR4 hcap
    go_upto_region 4 with fail
    go_wp2
    refine wp_region_held_drew (S:=fun W=>W.cell? ⟨w.heap.size,0,none⟩=some (.int .i64 e)/\W.cell? ⟨w.heap.size+1,1,none⟩=some (.slice (some ⟨b,off,none⟩) p.bs.length cL)/\W.cell? ⟨b,off+k * 14+12,none⟩=some (.slice aN Y.length cN)) (by kernel_rfl) (HSS.out _ bD) (fun hHeld=>?_)
    refine wpAnyH_take (i:=0) (v:=.pointer (some ⟨w.heap.size,0,none⟩)) rfl (by kernel_rfl) (by kernel_rfl) (by kernel_rfl) (fun _ _ _ h=>h) (Or.inl ⟨by rfl,fun W hW=>by (obtain ⟨q0,q1,q2⟩:=hW;go_simp)⟩) (by assumption) ?_
    change wpAnyH Tryz.prog _ _ _ _ _ _ (Act.put _ (some 21) _) _
    simp only [Act.put,List.setIfInBounds_toArray,List.set_cons_zero,List.set_cons_succ]
    refine wpAnyH_take (i:=1) (v:=.int .i64 e) rfl (by kernel_rfl) (by kernel_rfl) (by kernel_rfl) (fun _ _ _ h=>h) (Or.inl ⟨by rfl,fun W hW=>by (obtain ⟨q0,q1,q2⟩:=hW;go_simp)⟩) (by assumption) ?_
    change wpAnyH Tryz.prog _ _ _ _ _ _ (Act.put _ (some 22) _) _
    simp only [Act.put,List.setIfInBounds_toArray,List.set_cons_zero,List.set_cons_succ]
    refine wpAnyH_take (i:=2) (v:=.int .i64 (e+1)) rfl (by kernel_rfl) (by kernel_rfl) (by kernel_rfl) (fun _ _ _ h=>h) (Or.inl ⟨by rfl,fun W hW=>by (obtain ⟨q0,q1,q2⟩:=hW;go_simp)⟩) (by assumption) ?_
    change wpAnyH Tryz.prog _ _ _ _ _ _ (Act.put _ (some 23) _) _
    simp only [Act.put,List.setIfInBounds_toArray,List.set_cons_zero,List.set_cons_succ]
    refine wpAnyH_take (i:=3) (v:=.pointer (some ⟨w.heap.size+1,1,none⟩)) rfl (by kernel_rfl) (by kernel_rfl) (by kernel_rfl) (fun _ _ _ h=>h) (Or.inl ⟨by rfl,fun W hW=>by (obtain ⟨q0,q1,q2⟩:=hW;go_simp)⟩) (by assumption) ?_
    change wpAnyH Tryz.prog _ _ _ _ _ _ (Act.put _ (some 24) _) _
    simp only [Act.put,List.setIfInBounds_toArray,List.set_cons_zero,List.set_cons_succ]
    refine wpAnyH_take (i:=4) (v:=.slice (some ⟨b,off,none⟩) p.bs.length cL) rfl (by kernel_rfl) (by kernel_rfl) (by kernel_rfl) (fun _ _ _ h=>h) (Or.inl ⟨by rfl,fun W hW=>by (obtain ⟨q0,q1,q2⟩:=hW;go_simp)⟩) (by assumption) ?_
    change wpAnyH Tryz.prog _ _ _ _ _ _ (Act.put _ (some 25) _) _
    simp only [Act.put,List.setIfInBounds_toArray,List.set_cons_zero,List.set_cons_succ]
    refine wpAnyH_take (i:=5) (v:=.int .i64 (k:Int)) rfl (by kernel_rfl) (by kernel_rfl) (by kernel_rfl) (fun _ _ _ h=>h) (Or.inl ⟨by rfl,fun W hW=>by (obtain ⟨q0,q1,q2⟩:=hW;go_simp)⟩) (by assumption) ?_
    change wpAnyH Tryz.prog _ _ _ _ _ _ (Act.put _ (some 26) _) _
    simp only [Act.put,List.setIfInBounds_toArray,List.set_cons_zero,List.set_cons_succ]
    refine wpAnyH_take (i:=6) (v:=.pointer (some ⟨b,off+k * 14,none⟩)) rfl (by kernel_rfl) (by kernel_rfl) (by kernel_rfl) (fun _ _ _ h=>h) (Or.inl ⟨by rfl,fun W hW=>by (obtain ⟨q0,q1,q2⟩:=hW;go_simp)⟩) (by assumption) ?_
    change wpAnyH Tryz.prog _ _ _ _ _ _ (Act.put _ (some 27) _) _
    simp only [Act.put,List.setIfInBounds_toArray,List.set_cons_zero,List.set_cons_succ]
    refine wpAnyH_take (i:=7) (v:=.pointer (some ⟨b,off+k * 14+12,none⟩)) rfl (by kernel_rfl) (by kernel_rfl) (by kernel_rfl) (fun _ _ _ h=>h) (Or.inl ⟨by rfl,fun W hW=>by (obtain ⟨q0,q1,q2⟩:=hW;go_simp)⟩) (by assumption) ?_
    change wpAnyH Tryz.prog _ _ _ _ _ _ (Act.put _ (some 28) _) _
    simp only [Act.put,List.setIfInBounds_toArray,List.set_cons_zero,List.set_cons_succ]
    refine wpAnyH_take (i:=8) (v:=.slice aN Y.length cN) rfl (by kernel_rfl) (by kernel_rfl) (by kernel_rfl) (fun _ _ _ h=>h) (Or.inl ⟨by rfl,fun W hW=>by (obtain ⟨q0,q1,q2⟩:=hW;go_simp)⟩) (by assumption) ?_
    change wpAnyH Tryz.prog _ _ _ _ _ _ (Act.put _ (some 29) _) _
    simp only [Act.put,List.setIfInBounds_toArray,List.set_cons_zero,List.set_cons_succ]
    refine wpAnyH_ready (rs:=[9]) (by kernel_rfl) (by simp) ?_
    refine AllReadyH.cons rfl (fun K hK=>?_) AllReadyH.nil
    go_simp
    have ba:Below w4.heap.size w4 (w4.alloc (.cells #[.slice aN Y.length cN] 33)).drew:=((Below.refl _ w4).alloc (Nat.le_refl _) _).drew
    have ka:Blk (w4.alloc (.cells #[.slice aN Y.length cN] 33)).drew w4.heap.size 33 [.slice aN Y.length cN]:=Blk.new w4 _ _
    have HC:=hide (HCt.out _ ba (ka.cell 0) ka.lt)
    refine hK.out _ _ (HSS.out _ ba) (fun hHeld=>?_)
    try simp only [Act.put,List.setIfInBounds_toArray,List.set_cons_zero,List.set_cons_succ]
    refine wpAnyH_ready (rs:=[10]) (by kernel_rfl) (by simp) ?_
    refine AllReadyH.cons rfl (fun K hK=>?_) AllReadyH.nil
    go_simp
    go_wp2_with (go_at_call 41;(with_reducible refine HC.out.mono ?_);rintro en w3 ⟨v3,rfl,o3,hb3⟩;obtain ⟨a3,c3,hv3⟩:=o3.rd.shape;subst hv3;have b3:=ba.trans (hb3.mono ba.size))
    refine hK.out _ _ (HSS.out _ b3) (fun hHeld=>?_)
    try simp only [Act.put,List.setIfInBounds_toArray,List.set_cons_zero,List.set_cons_succ]
    refine wpAnyH_take (i:=11) (v:=.agg #[.int .i64 (e+1),.slice a3 Y.length c3]) rfl (by kernel_rfl) (by kernel_rfl) (by kernel_rfl) (fun _ _ _ h=>h) (Or.inl ⟨by rfl,fun W hW=>by (obtain ⟨q0,q1,q2⟩:=hW;go_simp)⟩) (by assumption) ?_
    change wpAnyH Tryz.prog _ _ _ _ _ _ (Act.put _ (some 32) _) _
    simp only [Act.put,List.setIfInBounds_toArray,List.set_cons_zero,List.set_cons_succ]
    have kr:=HRR.out _ b3
    have b4:Below w4.heap.size w4 (w3.setCells (w.heap.size+1+1) 0 [.int .i64 (e+1),.slice a3 Y.length c3])->True:=fun _=>trivial
    refine wpAnyH_ready (rs:=[12]) (by kernel_rfl) (by simp) ?_
    refine AllReadyH.cons rfl (fun K hK=>?_) AllReadyH.nil
    refine wp_store_mid 35 _ _ rfl (w.heap.size+1+1) 0 #[.int .i64 (e+1),.slice a3 Y.length c3] rfl rfl (kr.there2 (n:=2) rfl) (by kernel_rfl) (all_oneCell_toArray (cs:=[.int .i64 (e+1),.slice a3 Y.length c3]) (List.all_eq_true.1 rfl)) ?_
    refine hK.out _ _ (HST.out _ _ _ b3) (fun hHeld=>?_)
    try simp only [Act.put,List.setIfInBounds_toArray,List.set_cons_zero,List.set_cons_succ]
    refine wpAnyH_take (i:=13) (v:=.bool true) rfl (by kernel_rfl) (by kernel_rfl) (by kernel_rfl) (fun _ _ _ h=>h) (Or.inl ⟨by rfl,fun W hW=>by go_simp⟩) (by assumption) ?_
    change wpAnyH Tryz.prog _ _ _ _ _ _ (Act.put _ (some 5) _) _
    simp only [Act.put,List.setIfInBounds_toArray,List.set_cons_zero,List.set_cons_succ]
    refine wpAnyH_done (by kernel_rfl) ?_ _
    have KX:=hide (show Blk (w3.setCells (w.heap.size+1+1) 0 [.int .i64 (e+1),.slice a3 Y.length c3]) (w.heap.size+1+1) 35 [.int .i64 (e+1),.slice a3 Y.length c3] from kr.set2 _ _)
    have HB:=hide (below_set2 (HB2.out.trans (b3.mono HB2.out.size)) (g:=w.heap.size+1+1) (by omega) (.int .i64 (e+1)) (.slice a3 Y.length c3))
    have HO:=hide ((o3.setsC (g:=w.heap.size+1+1) (Nat.lt_of_lt_of_le hs2 ba.size) (.int .i64 (e+1)) (.slice a3 Y.length c3)).mono (show w.heap.size<=(w4.alloc (.cells #[.slice aN Y.length cN] 33)).drew.heap.size by have:=ba.size;omega))
    clear HSS HST HRR kr ba ka HC o3 hb3 b3 b4
    go_wp2
    refine res_implAc (F:=[.int .i64 (e+1),.slice a3 Y.length c3]) (w.heap.size+1+1) (.bool true) KX.out.range2 (by rfl) (by rfl) (by kernel_rfl) rfl ?_
    exact ⟨.slice a3 Y.length c3,rfl,by rw [HEN.out];exact HO.out,HB.out⟩
end Go.Proofs.YtaidhenkijjcfaaGreat
namespace Go.Proofs.YtaidhenkijjcfaaGreat
open Go.RowKit Go.Sort
set_option linter.unusedVariables false
set_option linter.unusedSimpArgs false
theorem wp_appVs {o:Oper} {a:Act} {w:World} {K:Act->World->Prop} {Q:Exit->Act->World->Prop} (s x:Operand)
    (ho:o.op=.call { callee:=.builtin .append,args:=#[s,x],argTypes:=#[33,33] })
    (base:Nat) (v vx:Value) (l k:List Vl) (hs:a.eval s=v) (hx:a.eval x=vx) (hown:OwnV base w v l) (hrd:RdV w vx k)
    (hlen:l.length+k.length<=100000000) (hbase:base<=w.heap.size)
    (h:∀ v' w',OwnV base w' v' (l ++ k)->Below base w w'->K (a.put o.dst v') w'):Oper.wp Tryz.prog o a w K Q:=by
  obtain ⟨i0,hi,hz0,hz1,hz2⟩:=info_parts Tryz.infoVl
  have hbel:∀ w',w.grownBy w' v.ownBlock->Below base w w':=fun w' hg=>(Below.refl _ _).grown hg hbase (fun k hk=>(hown.ge k hk))
  rcases hrd with ⟨ax,cap,rfl,rfl,hnil⟩ | ⟨b,off,cap,h0,rfl,h1,h2,h3,h4⟩
  · cases ax with
    | none =>
      have hc:cap=0:=hnil rfl
      subst hc
      have hrun:=run_append_owned_none (P:=Tryz.prog) (w:=w) base 33 o.type 100 i0 2 Tryz.underlying33 hi v l.length (l.map vlC).flatten hown
      unfold Oper.wp
      simp [execOp,ho,resolve,invoke,builtin,hs,hx,hrun,Result.andThen]
      exact h v w (by simpa [OwnV] using hown) (Below.refl _ _)
    | some ad =>
      refine wp_append_own w s x 33 ho base 100 i0 (.agg #[.string { data:=#[] },.int .i64 0]) 2 24 Tryz.underlying33 hi hz0 hz1 hz2 rfl (by decide) v l.length (l.map vlC).flatten hs hown ad 0 cap [] hx rfl (by intro j u hj;simp at hj) (by intro u hu;simp at hu) (by unfold maxLen;simp at hlen;omega) (by simp at hlen;omega) hbase ?_
      intro v' w' ho' hg _
      exact h v' w' (by simpa [OwnV] using ho') (hbel w' hg)
  · refine wp_append_own w s x 33 ho base 100 i0 (.agg #[.string { data:=#[] },.int .i64 0]) 2 24 Tryz.underlying33 hi hz0 hz1 hz2 rfl (by decide) v l.length (l.map vlC).flatten hs hown ⟨b,off,none⟩ k.length cap (k.map vlC).flatten hx (by rw [flat_len 2 _ (vlM_sz k),List.length_map]) (rdV_cells h4) ?_ (by unfold maxLen;omega) (by omega) hbase ?_
    · intro u hu
      obtain ⟨c,hc,hu⟩:=List.mem_flatten.1 hu
      obtain ⟨p,_,rfl⟩:=List.mem_map.1 hc
      simp only [vlC,List.mem_cons,List.not_mem_nil,or_false] at hu
      rcases hu with rfl | rfl <;> rfl
    · intro v' w' ho' hg _
      exact h v' w' (by simpa [OwnV] using ho') (hbel w' hg)
theorem res_specCc {X:World} {a:Act} {R:Ending->World->Prop} {F:List Value} (g:Nat) (h:X.rangeAt g 0 F) (h2:a.tmps[2]?.getD undef=.pointer (some ⟨g,0,none⟩)) (hs:(Tryz.prog.info? 35).map (·.size)=some F.length) (hd:a.defers=[]) (hR:R (.returned (.agg F.toArray)) X):bodyPost Tryz.prog Tryz.f33 R .ret a X:=by
  have hl:=run_loadVar_mid (P:=Tryz.prog) X g 0 35 F _ h Tryz.underlying35 rfl hs
  refine bodyPost_ret (v:=.agg F.toArray) ?_ hd hR
  simp [results,Tryz.f33,h2,asAddr,hl]
theorem l17Copy_any (e:Int) (vs:Value) (st:List Vl) (w:World) (hr:RdV w vs st) (hls:st.length<=4000000) :
    Calls Tryz.prog 33 #[.agg #[.int .i64 e,vs]] w fun en w'=>∃ v',en=.returned (.agg #[.int .i64 e,v'])/\OwnV w.heap.size w' v' st/\Below w.heap.size w w':=by
  obtain ⟨aS,cS,rfl⟩:=hr.shape
  obtain ⟨w1,hw1⟩:∃ x,(w.alloc (.cells #[.int .i64 e,.slice aS st.length cS] 35)).alloc (.cells #[.int .i64 0,.slice none 0 0] 35)=x:=⟨_,rfl⟩
  have s1:(w.alloc (.cells #[.int .i64 e,.slice aS st.length cS] 35)).heap.size=w.heap.size+1:=by simp
  have b1:Below w.heap.size w w1:=by rw [<- hw1];exact ((Below.refl _ w).alloc (Nat.le_refl _) _).alloc (by rw [s1];omega) _
  have kC:=hide (show Blk w1 w.heap.size 35 [.int .i64 e,.slice aS st.length cS] from by rw [<- hw1];exact (Blk.new w _ _).below ((Below.refl (w.heap.size+1) _).alloc (by rw [s1];exact Nat.le_refl _) _) (by omega))
  have kR:=hide (show Blk w1 (w.heap.size+1) 35 [.int .i64 0,.slice none 0 0] from by rw [<- hw1];exact Blk.newR _ _ [.int .i64 0,.slice none 0 0] _ s1.symm)
  have HB2:=hide b1
  have hs2:w.heap.size+1 < w1.heap.size:=kR.out.lt
  have bD:Below w1.heap.size w1 w1.drew:=(Below.refl _ w1).drew
  have HSS:=hide (fun V (hV:Below w1.heap.size w1 V)=>(show V.cell? ⟨w.heap.size,0,none⟩=some (.int .i64 e)/\V.cell? ⟨w.heap.size,1,none⟩=some (.slice aS st.length cS) from ⟨(kC.out.below hV kC.out.lt).cell 0,(kC.out.below hV kC.out.lt).cell 1⟩))
  have HST:=hide (fun V (x y:Value) (hV:Below w1.heap.size w1 V)=>(show (V.setCells (w.heap.size+1) 0 [x,y]).cell? ⟨w.heap.size,0,none⟩=some (.int .i64 e)/\(V.setCells (w.heap.size+1) 0 [x,y]).cell? ⟨w.heap.size,1,none⟩=some (.slice aS st.length cS) from by
    have k:=(kC.out.below hV kC.out.lt).not2 (g:=w.heap.size+1) (by omega) x y
    exact ⟨k.cell 0,k.cell 1⟩))
  have HRR:=hide (fun V (hV:Below w1.heap.size w1 V)=>kR.out.below hV kR.out.lt)
  have HRd:=hide (fun V (hV:Below w1.heap.size w1 V)=>(hr.below b1 (Nat.le_refl _)).below hV (Nat.le_refl _))
  clear kC kR hr s1 b1
  go_enter Tryz.func33,Tryz.ntmps33
  go_upto_region 1 with fail
  (try rw [hw1])
  clear hw1
  refine wp_region_held_drew (S:=fun W=>W.cell? ⟨w.heap.size,0,none⟩=some (.int .i64 e)/\W.cell? ⟨w.heap.size,1,none⟩=some (.slice aS st.length cS)) (by kernel_rfl) (HSS.out _ bD) (fun hHeld=>?_)
  refine wpAnyH_take (i:=0) (v:=.pointer (some ⟨w.heap.size,0,none⟩)) rfl (by kernel_rfl) (by kernel_rfl) (by kernel_rfl) (fun _ _ _ h=>h) (Or.inl ⟨by rfl,fun W hW=>by (obtain ⟨q0,q1⟩:=hW;go_simp)⟩) (by assumption) ?_
  change wpAnyH Tryz.prog _ _ _ _ _ _ (Act.put _ (some 3) _) _
  simp only [Act.put,List.setIfInBounds_toArray,List.set_cons_zero,List.set_cons_succ]
  refine wpAnyH_take (i:=1) (v:=.int .i64 e) rfl (by kernel_rfl) (by kernel_rfl) (by kernel_rfl) (fun _ _ _ h=>h) (Or.inl ⟨by rfl,fun W hW=>by (obtain ⟨q0,q1⟩:=hW;go_simp)⟩) (by assumption) ?_
  change wpAnyH Tryz.prog _ _ _ _ _ _ (Act.put _ (some 4) _) _
  simp only [Act.put,List.setIfInBounds_toArray,List.set_cons_zero,List.set_cons_succ]
  refine wpAnyH_take (i:=3) (v:=.pointer (some ⟨w.heap.size,1,none⟩)) rfl (by kernel_rfl) (by kernel_rfl) (by kernel_rfl) (fun _ _ _ h=>h) (Or.inl ⟨by rfl,fun W hW=>by (obtain ⟨q0,q1⟩:=hW;go_simp)⟩) (by assumption) ?_
  change wpAnyH Tryz.prog _ _ _ _ _ _ (Act.put _ (some 6) _) _
  simp only [Act.put,List.setIfInBounds_toArray,List.set_cons_zero,List.set_cons_succ]
  refine wpAnyH_take (i:=4) (v:=.slice aS st.length cS) rfl (by kernel_rfl) (by kernel_rfl) (by kernel_rfl) (fun _ _ _ h=>h) (Or.inl ⟨by rfl,fun W hW=>by (obtain ⟨q0,q1⟩:=hW;go_simp)⟩) (by assumption) ?_
  change wpAnyH Tryz.prog _ _ _ _ _ _ (Act.put _ (some 7) _) _
  simp only [Act.put,List.setIfInBounds_toArray,List.set_cons_zero,List.set_cons_succ]
  refine wpAnyH_ready (rs:=[2]) (by kernel_rfl) (by simp) ?_
  refine AllReadyH.cons rfl (fun K hK=>?_) AllReadyH.nil
  go_simp
  have ba:Below w1.heap.size w1 (w1.alloc (.cells #[] 100)).drew:=((Below.refl _ w1).alloc (Nat.le_refl _) _).drew
  have oa:OwnV w1.heap.size (w1.alloc (.cells #[] 100)).drew (.slice (some ⟨w1.heap.size,0,none⟩) 0 0) []:=(own_nilV w1 _ (Nat.le_refl _)).drew
  refine hK.out _ _ (HSS.out _ ba) (fun hHeld=>?_)
  try simp only [Act.put,List.setIfInBounds_toArray,List.set_cons_zero,List.set_cons_succ]
  refine wpAnyH_ready (rs:=[5]) (by kernel_rfl) (by simp) ?_
  refine AllReadyH.cons rfl (fun K hK=>?_) AllReadyH.nil
  refine wp_appVs _ _ rfl w1.heap.size _ _ [] st rfl rfl oa (HRd.out _ ba) (by simp;omega) ba.size ?_
  intro v3 w3 o3 hb3
  rw [List.nil_append] at o3
  obtain ⟨a3,c3,hv3⟩:=o3.rd.shape
  subst hv3
  have b3:=ba.trans hb3
  refine hK.out _ _ (HSS.out _ b3) (fun hHeld=>?_)
  try simp only [Act.put,List.setIfInBounds_toArray,List.set_cons_zero,List.set_cons_succ]
  refine wpAnyH_take (i:=6) (v:=.agg #[.int .i64 e,.slice a3 st.length c3]) rfl (by kernel_rfl) (by kernel_rfl) (by kernel_rfl) (fun _ _ _ h=>h) (Or.inl ⟨by rfl,fun W hW=>by (obtain ⟨q0,q1⟩:=hW;go_simp)⟩) (by assumption) ?_
  change wpAnyH Tryz.prog _ _ _ _ _ _ (Act.put _ (some 9) _) _
  simp only [Act.put,List.setIfInBounds_toArray,List.set_cons_zero,List.set_cons_succ]
  have kr:=HRR.out _ b3
  refine wpAnyH_ready (rs:=[7]) (by kernel_rfl) (by simp) ?_
  refine AllReadyH.cons rfl (fun K hK=>?_) AllReadyH.nil
  refine wp_store_mid 35 _ _ rfl (w.heap.size+1) 0 #[.int .i64 e,.slice a3 st.length c3] rfl rfl (kr.there2 (n:=2) rfl) (by kernel_rfl) (all_oneCell_toArray (cs:=[.int .i64 e,.slice a3 st.length c3]) (List.all_eq_true.1 rfl)) ?_
  refine hK.out _ _ (HST.out _ _ _ b3) (fun hHeld=>?_)
  try simp only [Act.put,List.setIfInBounds_toArray,List.set_cons_zero,List.set_cons_succ]
  refine wpAnyH_done (by kernel_rfl) ?_ _
  have KX:=hide (show Blk (w3.setCells (w.heap.size+1) 0 [.int .i64 e,.slice a3 st.length c3]) (w.heap.size+1) 35 [.int .i64 e,.slice a3 st.length c3] from kr.set2 _ _)
  have HB:=hide (below_set2 (HB2.out.trans (b3.mono HB2.out.size)) (g:=w.heap.size+1) (by omega) (.int .i64 e) (.slice a3 st.length c3))
  have HO:=hide ((o3.setsC (g:=w.heap.size+1) hs2 (.int .i64 e) (.slice a3 st.length c3)).mono (show w.heap.size<=w1.heap.size from HB2.out.size))
  clear HSS HST HRR HRd kr ba oa o3 hb3 b3
  go_wp2
  refine res_specCc (F:=[.int .i64 e,.slice a3 st.length c3]) (w.heap.size+1) KX.out.range2 (by rfl) (by kernel_rfl) rfl ?_
  exact ⟨.slice a3 st.length c3,rfl,HO.out,HB.out⟩
end Go.Proofs.YtaidhenkijjcfaaGreat
