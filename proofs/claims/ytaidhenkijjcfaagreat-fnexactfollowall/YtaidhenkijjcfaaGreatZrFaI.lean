/- FollowAll of the landed code. -/
import Derived.Test.YtaidhenkijjcfaaGreatZrCcVal
import Derived.Test.YtaidhenkijjcfaaGreatZrPoI
set_option maxRecDepth 20000
set_option maxHeartbeats 8000000
namespace Go.Proofs.YtaidhenkijjcfaaGreat
open Go.RowKit Go.Sort
set_option linter.unusedVariables false
set_option linter.unusedSimpArgs false
theorem res_implAc {X:World} {a:Act} {R:Ending->World->Prop} {F:List Value} (g:Nat) (bk:Value) (h:X.rangeAt g 0 F) (h4:a.tmps[4]?.getD undef=.pointer (some ⟨g,0,none⟩)) (h5:a.tmps[5]?.getD undef=bk) (hs:(Tryz.prog.info? 35).map (·.size)=some F.length) (hd:a.defers=[]) (hR:R (.returned (.tuple #[.agg F.toArray,bk])) X):bodyPost Tryz.prog Tryz.f11 R .ret a X:=by
  have hl:=run_loadVar_mid (P:=Tryz.prog) X g 0 35 F _ h Tryz.underlying35 rfl hs
  refine bodyPost_ret (v:=.tuple #[.agg F.toArray,bk]) ?_ hd hR
  simp [results,Tryz.f11,h4,h5,asAddr,hl]
theorem cell_not2 (V:World) (x y:Value) {b o g:Nat} (h:b ≠ g):(V.setCells g 0 [x,y]).cell? ⟨b,o,none⟩=V.cell? ⟨b,o,none⟩:=World.cell?_setCells_out g [x,y] 0 V ⟨b,o,none⟩ (fun e=>absurd e h)
theorem implAccept_any (e:Int) (vs:Value) (st:List Vl) (p:Pf) (u:Pv) (w:World) (hr:RdV w vs st) (hp:RdPf w p u) (hls:st.length<=4000000) (hss:∀ a ∈ st,a.1.size<=maxLen) (hl:p.bs.length<=4000000) (hf:∀ b ∈ p.bs,FewK b) (hbd:∀ b ∈ p.bs,-9223372036854775808<=b.tr/\b.tr<=9223372036854775807) (hlq:p.qw.length<=4000000) (hsq:∀ s ∈ p.qw,s.size<=maxLen) :
    Calls Tryz.prog 11 #[lgV e vs,pfV p u] w fun en w'=>∃ v',en=.returned (.tuple #[lgV (clE e st p) v',.bool (clB e st p)])/\OwnV w.heap.size w' v' (clS e st p)/\Below w.heap.size w w':=by
  obtain ⟨aS,cS,rfl⟩:=hr.shape
  obtain ⟨aL,cL,hvL⟩:=hp.kb.shape
  obtain ⟨aQ,cQ,hvQ⟩:=hp.kw.shape
  obtain ⟨yb,yw⟩:=u
  simp only at hvL hvQ
  subst hvL hvQ
  obtain ⟨w1,hw1⟩:∃ x,((w.alloc (.cells #[.int .i64 e,.slice aS st.length cS] 35)).alloc (.cells #[.int .i64 p.ep,.slice aL p.bs.length cL,.int .i64 p.qr,.int .i64 p.qb,.slice aQ p.qw.length cQ] 42)).alloc (.cells #[.int .i64 0,.slice none 0 0] 35)=x:=⟨_,rfl⟩
  have s1:(w.alloc (.cells #[.int .i64 e,.slice aS st.length cS] 35)).heap.size=w.heap.size+1:=by simp
  have s2:((w.alloc (.cells #[.int .i64 e,.slice aS st.length cS] 35)).alloc (.cells #[.int .i64 p.ep,.slice aL p.bs.length cL,.int .i64 p.qr,.int .i64 p.qb,.slice aQ p.qw.length cQ] 42)).heap.size=w.heap.size+1+1:=by simp
  have b1:Below w.heap.size w w1:=by rw [<- hw1];exact (((Below.refl _ w).alloc (Nat.le_refl _) _).alloc (by rw [s1];omega) _).alloc (by rw [s2];omega) _
  have kC:=hide (show Blk w1 w.heap.size 35 [.int .i64 e,.slice aS st.length cS] from by rw [<- hw1];exact (Blk.new w _ _).below (((Below.refl (w.heap.size+1) _).alloc (by rw [s1];exact Nat.le_refl _) _).alloc (by rw [s2];omega) _) (by omega))
  have kP:=hide (show Blk w1 (w.heap.size+1) 42 [.int .i64 p.ep,.slice aL p.bs.length cL,.int .i64 p.qr,.int .i64 p.qb,.slice aQ p.qw.length cQ] from by
    rw [<- hw1]
    exact (Blk.newR _ _ [.int .i64 p.ep,.slice aL p.bs.length cL,.int .i64 p.qr,.int .i64 p.qb,.slice aQ p.qw.length cQ] _ s1.symm).below ((Below.refl (w.heap.size+1+1) _).alloc (by rw [s2];exact Nat.le_refl _) _) (by omega))
  have kR:=hide (show Blk w1 (w.heap.size+1+1) 35 [.int .i64 0,.slice none 0 0] from by rw [<- hw1];exact Blk.newR _ _ [.int .i64 0,.slice none 0 0] _ s2.symm)
  have HBl:=hide (believes_any e (.slice aS st.length cS) st p ⟨.slice aL p.bs.length cL,.slice aQ p.qw.length cQ⟩ w1 (hr.below b1 (Nat.le_refl _)) (hp.below b1 (Nat.le_refl _)) hls hss hl hf hbd hlq hsq)
  have Hr1:=hide (hr.below b1 (Nat.le_refl _))
  have Hk1:=hide (hp.kb.below b1 (Nat.le_refl _))
  have HNe:=hide (show ∀ b,(∃ off,aL=some ⟨b,off,none⟩)->p.bs ≠ []->b < w.heap.size from fun b ⟨off,h⟩ h0=>by
    rcases hp.kb with ⟨_,_,e1,e2,_⟩ | ⟨b',off',_,_,e1,_,_,h3,_⟩
    · exact absurd e2 h0
    · simp only [Value.slice.injEq] at e1
      rw [h] at e1
      simp only [Option.some.injEq,Addr.mk.injEq] at e1
      rw [e1.1.1];exact h3)
  have HE:=hide (show clE e st p=if clB e st p=true then e+1 else e from rfl)
  have HT:=hide (show clS e st p=if clB e st p=true then enN p.bs else st from rfl)
  have HI:=hide (fun (h:clB e st p=true)=>clB_is h)
  have HN:=hide (fun b (h:b ∈ p.bs)=>(hf b h).n)
  have x0:=kC.out.cell 0
  have x1:=kC.out.cell 1
  have y0:=kP.out.cell 0
  have y1:=kP.out.cell 1
  have y2:=kP.out.cell 2
  have y3:=kP.out.cell 3
  have y4:=kP.out.cell 4
  simp only [List.getElem?_cons_zero,List.getElem?_cons_succ] at x0 x1 y0 y1 y2 y3 y4
  have B1:=hide b1
  have hz1:=kR.out.lt
  simp only [lgV,pfV] at *
  clear hr hp hss hf hbd hsq b1 s1 s2
  cases hX:clB e st p
  · rw [hX] at HBl HE HT
    rw [if_neg (by decide)] at HE HT
    rw [HE.out,HT.out]
    clear hX HI HE HT HN HNe Hk1
    go_enter Tryz.func11,Tryz.ntmps11
    go_upto_region 1 with fail
    (try rw [hw1])
    clear hw1
    go_wp2_with fail
    refine HBl.out.mono ?_
    rintro en w2 ⟨rfl,hb2⟩
    have HB2:=hide (B1.out.trans (hb2.mono B1.out.size))
    have hs2:w.heap.size+1+1 < w2.heap.size:=Nat.lt_of_lt_of_le hz1 hb2.size
    have kC2:=hide (kC.out.below hb2 kC.out.lt)
    have kR2:=hide (kR.out.below hb2 kR.out.lt)
    have Hr2:=hide (Hr1.out.below hb2 (Nat.le_refl _))
    have bD:Below w2.heap.size w2 w2.drew:=(Below.refl _ w2).drew
    have HSS:=hide (fun V (hV:Below w2.heap.size w2 V)=>(show V.cell? ⟨w.heap.size,0,none⟩=some (.int .i64 e)/\V.cell? ⟨w.heap.size,1,none⟩=some (.slice aS st.length cS) from ⟨(kC2.out.below hV kC2.out.lt).cell 0,(kC2.out.below hV kC2.out.lt).cell 1⟩))
    have HST:=hide (fun V (x y:Value) (hV:Below w2.heap.size w2 V)=>(show (V.setCells (w.heap.size+1+1) 0 [x,y]).cell? ⟨w.heap.size,0,none⟩=some (.int .i64 e)/\(V.setCells (w.heap.size+1+1) 0 [x,y]).cell? ⟨w.heap.size,1,none⟩=some (.slice aS st.length cS) from by
      have k:=(kC2.out.below hV kC2.out.lt).not2 (g:=w.heap.size+1+1) (by omega) x y
      exact ⟨k.cell 0,k.cell 1⟩))
    have HRR:=hide (fun V (hV:Below w2.heap.size w2 V)=>kR2.out.below hV kR2.out.lt)
    have HCt:=hide (fun V (hV:Below w2.heap.size w2 V) (hc:V.cell? ⟨w2.heap.size,0,none⟩=some (.slice aS st.length cS)) (hg:w2.heap.size < V.heap.size)=>concatVal_any (.slice aS st.length cS) st w2.heap.size V (Hr2.out.below hV (Nat.le_refl _)) hls hc hg)
    clear x0 x1 y0 y1 y2 y3 y4 hb2 HBl kC kP kR kC2 kR2 Hr1 Hr2 B1 hz1
    go_upto_region 2 with fail
    go_wp2
    refine wp_region_held_drew (S:=fun W=>W.cell? ⟨w.heap.size,0,none⟩=some (.int .i64 e)/\W.cell? ⟨w.heap.size,1,none⟩=some (.slice aS st.length cS)) (by kernel_rfl) (HSS.out _ bD) (fun hHeld=>?_)
    refine wpAnyH_take (i:=0) (v:=.pointer (some ⟨w.heap.size,0,none⟩)) rfl (by kernel_rfl) (by kernel_rfl) (by kernel_rfl) (fun _ _ _ h=>h) (Or.inl ⟨by rfl,fun W hW=>by (obtain ⟨q0,q1⟩:=hW;go_simp)⟩) (by assumption) ?_
    change wpAnyH Tryz.prog _ _ _ _ _ _ (Act.put _ (some 11) _) _
    simp only [Act.put,List.setIfInBounds_toArray,List.set_cons_zero,List.set_cons_succ]
    refine wpAnyH_take (i:=1) (v:=.int .i64 e) rfl (by kernel_rfl) (by kernel_rfl) (by kernel_rfl) (fun _ _ _ h=>h) (Or.inl ⟨by rfl,fun W hW=>by (obtain ⟨q0,q1⟩:=hW;go_simp)⟩) (by assumption) ?_
    change wpAnyH Tryz.prog _ _ _ _ _ _ (Act.put _ (some 12) _) _
    simp only [Act.put,List.setIfInBounds_toArray,List.set_cons_zero,List.set_cons_succ]
    refine wpAnyH_take (i:=2) (v:=.pointer (some ⟨w.heap.size,1,none⟩)) rfl (by kernel_rfl) (by kernel_rfl) (by kernel_rfl) (fun _ _ _ h=>h) (Or.inl ⟨by rfl,fun W hW=>by (obtain ⟨q0,q1⟩:=hW;go_simp)⟩) (by assumption) ?_
    change wpAnyH Tryz.prog _ _ _ _ _ _ (Act.put _ (some 13) _) _
    simp only [Act.put,List.setIfInBounds_toArray,List.set_cons_zero,List.set_cons_succ]
    refine wpAnyH_take (i:=3) (v:=.slice aS st.length cS) rfl (by kernel_rfl) (by kernel_rfl) (by kernel_rfl) (fun _ _ _ h=>h) (Or.inl ⟨by rfl,fun W hW=>by (obtain ⟨q0,q1⟩:=hW;go_simp)⟩) (by assumption) ?_
    change wpAnyH Tryz.prog _ _ _ _ _ _ (Act.put _ (some 14) _) _
    simp only [Act.put,List.setIfInBounds_toArray,List.set_cons_zero,List.set_cons_succ]
    refine wpAnyH_ready (rs:=[4]) (by kernel_rfl) (by simp) ?_
    refine AllReadyH.cons rfl (fun K hK=>?_) AllReadyH.nil
    go_simp
    have ba:Below w2.heap.size w2 (w2.alloc (.cells #[.slice aS st.length cS] 33)).drew:=((Below.refl _ w2).alloc (Nat.le_refl _) _).drew
    have ka:Blk (w2.alloc (.cells #[.slice aS st.length cS] 33)).drew w2.heap.size 33 [.slice aS st.length cS]:=Blk.new w2 _ _
    have HC:=hide (HCt.out _ ba (ka.cell 0) ka.lt)
    refine hK.out _ _ (HSS.out _ ba) (fun hHeld=>?_)
    try simp only [Act.put,List.setIfInBounds_toArray,List.set_cons_zero,List.set_cons_succ]
    refine wpAnyH_ready (rs:=[5]) (by kernel_rfl) (by simp) ?_
    refine AllReadyH.cons rfl (fun K hK=>?_) AllReadyH.nil
    go_simp
    go_wp2_with (go_at_call 41;(with_reducible refine HC.out.mono ?_);rintro en w3 ⟨v3,rfl,o3,hb3⟩;obtain ⟨a3,c3,hv3⟩:=o3.rd.shape;subst hv3;have b3:=ba.trans (hb3.mono ba.size))
    refine hK.out _ _ (HSS.out _ b3) (fun hHeld=>?_)
    try simp only [Act.put,List.setIfInBounds_toArray,List.set_cons_zero,List.set_cons_succ]
    refine wpAnyH_take (i:=6) (v:=.agg #[.int .i64 e,.slice a3 st.length c3]) rfl (by kernel_rfl) (by kernel_rfl) (by kernel_rfl) (fun _ _ _ h=>h) (Or.inl ⟨by rfl,fun W hW=>by (obtain ⟨q0,q1⟩:=hW;go_simp)⟩) (by assumption) ?_
    change wpAnyH Tryz.prog _ _ _ _ _ _ (Act.put _ (some 17) _) _
    simp only [Act.put,List.setIfInBounds_toArray,List.set_cons_zero,List.set_cons_succ]
    have kr:=HRR.out _ b3
    have b4:Below w2.heap.size w2 (w3.setCells (w.heap.size+1+1) 0 [.int .i64 e,.slice a3 st.length c3])->True:=fun _=>trivial
    refine wpAnyH_ready (rs:=[7]) (by kernel_rfl) (by simp) ?_
    refine AllReadyH.cons rfl (fun K hK=>?_) AllReadyH.nil
    refine wp_store_mid 35 _ _ rfl (w.heap.size+1+1) 0 #[.int .i64 e,.slice a3 st.length c3] rfl rfl (kr.there2 (n:=2) rfl) (by kernel_rfl) (all_oneCell_toArray (cs:=[.int .i64 e,.slice a3 st.length c3]) (List.all_eq_true.1 rfl)) ?_
    refine hK.out _ _ (HST.out _ _ _ b3) (fun hHeld=>?_)
    try simp only [Act.put,List.setIfInBounds_toArray,List.set_cons_zero,List.set_cons_succ]
    refine wpAnyH_take (i:=8) (v:=.bool false) rfl (by kernel_rfl) (by kernel_rfl) (by kernel_rfl) (fun _ _ _ h=>h) (Or.inl ⟨by rfl,fun W hW=>by go_simp⟩) (by assumption) ?_
    change wpAnyH Tryz.prog _ _ _ _ _ _ (Act.put _ (some 5) _) _
    simp only [Act.put,List.setIfInBounds_toArray,List.set_cons_zero,List.set_cons_succ]
    refine wpAnyH_done (by kernel_rfl) ?_ _
    have KX:=hide (show Blk (w3.setCells (w.heap.size+1+1) 0 [.int .i64 e,.slice a3 st.length c3]) (w.heap.size+1+1) 35 [.int .i64 e,.slice a3 st.length c3] from kr.set2 _ _)
    have HB:=hide (below_set2 (HB2.out.trans (b3.mono HB2.out.size)) (g:=w.heap.size+1+1) (by omega) (.int .i64 e) (.slice a3 st.length c3))
    have HO:=hide ((o3.setsC (g:=w.heap.size+1+1) (Nat.lt_of_lt_of_le hs2 ba.size) (.int .i64 e) (.slice a3 st.length c3)).mono (show w.heap.size<=(w2.alloc (.cells #[.slice aS st.length cS] 33)).drew.heap.size by have:=ba.size;omega))
    clear HSS HST HRR kr ba ka HC o3 hb3 b3 b4
    go_wp2
    refine res_implAc (F:=[.int .i64 e,.slice a3 st.length c3]) (w.heap.size+1+1) (.bool false) KX.out.range2 (by rfl) (by rfl) (by kernel_rfl) rfl ?_
    exact ⟨.slice a3 st.length c3,rfl,HO.out,HB.out⟩
  · obtain ⟨⟨he0,he9⟩,h2,hany⟩:=HI.out hX
    rw [hX] at HBl HE HT
    rw [if_pos rfl] at HE HT
    rw [HE.out,HT.out]
    have Hany:=hide (show p.bs.any (fun x=>x.en)=true from by
      rw [List.any_eq_true] at hany ⊢
      obtain ⟨x,hx,hy⟩:=hany
      exact ⟨x,List.mem_of_mem_take hx,hy⟩)
    have hew:IntKind.i64.wrap (e+1)=e+1:=by rw [IntKind.wrap_i64];omega
    clear hX HI HE HT hany
    go_enter Tryz.func11,Tryz.ntmps11
    go_upto_region 1 with fail
    (try rw [hw1])
    clear hw1
    go_wp2_with fail
    refine HBl.out.mono ?_
    rintro en w2 ⟨rfl,hb2⟩
    have kC2:=hide (kC.out.below hb2 kC.out.lt)
    have kP2:=hide (kP.out.below hb2 kP.out.lt)
    have kR2:=hide (kR.out.below hb2 kR.out.lt)
    have Hk2:=hide (Hk1.out.below hb2 (Nat.le_refl _))
    have HB2:=hide (B1.out.trans (hb2.mono B1.out.size))
    have z1:=kP2.out.cell 1
    simp only [List.getElem?_cons_zero,List.getElem?_cons_succ] at z1
    have HIx:=hide (indexEnd_any (.slice aL p.bs.length cL) p.bs w2 Hk2.out hl)
    have hs2:w.heap.size+1+1 < w2.heap.size:=Nat.lt_of_lt_of_le hz1 hb2.size
    clear x0 x1 y0 y1 y2 y3 y4 hb2 HBl kC kP kR Hr1 Hk1 B1 hz1
    go_wp2_with fail
    refine HIx.out.mono ?_
    rintro en w4 ⟨⟨i,rfl,hi⟩,hb4⟩
    rcases hi with ⟨-,hno⟩ | ⟨k,hk,rfl,hen,hfd⟩
    · exact absurd Hany.out (by rw [hno];decide)
    have hEN:enN p.bs=p.bs[k].nx:=by unfold enN;rw [hfd];rfl
    have HEN:=hide hEN
    clear hEN hfd hen HIx z1
    obtain ⟨b,off,hab,hbw,hcap,hat⟩:=Hk2.out.atC (by omega)
    subst hab
    obtain ⟨bv,hk1,hrk⟩:=hat k hk
    obtain ⟨aN,cN,hvN⟩:=hrk.n.shape
    have hn:=HN.out _ (List.getElem_mem hk)
    have kC4:=hide (kC2.out.below hb4 kC2.out.lt)
    have kP4:=hide (kP2.out.below hb4 kP2.out.lt)
    have kR4:=hide (kR2.out.below hb4 kR2.out.lt)
    have hq4:=hide (hk1.below hb4 hbw)
    have Hn4:=hide (hrk.n.below hb4 (Nat.le_refl _))
    rw [hvN] at Hn4
    have HB2:=hide (HB2.out.trans (hb4.mono HB2.out.size))
    have hs2:w.heap.size+1+1 < w4.heap.size:=Nat.lt_of_lt_of_le hs2 hb4.size
    have hb4z:=Nat.lt_of_lt_of_le hbw hb4.size
    have hne:b ≠ w.heap.size+1+1:=by have:=HNe.out b ⟨off,rfl⟩ (List.ne_nil_of_length_pos (by omega));omega
    have cN4:∀ V,Below w4.heap.size w4 V->V.cell? ⟨b,off+k * 14+12,none⟩=some (.slice aN p.bs[k].nx.length cN):=fun V hV=>by rw [<- hvN];exact (hq4.out.below hV hb4z).cells.2.2.2.2.2.2.2.2.2.2.2.2.1
    have hki:(k:Int) < (p.bs.length:Int):=by omega
    have bD:Below w4.heap.size w4 w4.drew:=(Below.refl _ w4).drew
    have HSS:=hide (fun V (hV:Below w4.heap.size w4 V)=>(show V.cell? ⟨w.heap.size,0,none⟩=some (.int .i64 e)/\V.cell? ⟨w.heap.size+1,1,none⟩=some (.slice (some ⟨b,off,none⟩) p.bs.length cL)/\V.cell? ⟨b,off+k * 14+12,none⟩=some (.slice aN p.bs[k].nx.length cN) from ⟨(kC4.out.below hV kC4.out.lt).cell 0,(kP4.out.below hV kP4.out.lt).cell 1,cN4 V hV⟩))
    have HST:=hide (fun V (x y:Value) (hV:Below w4.heap.size w4 V)=>(show (V.setCells (w.heap.size+1+1) 0 [x,y]).cell? ⟨w.heap.size,0,none⟩=some (.int .i64 e)/\(V.setCells (w.heap.size+1+1) 0 [x,y]).cell? ⟨w.heap.size+1,1,none⟩=some (.slice (some ⟨b,off,none⟩) p.bs.length cL)/\(V.setCells (w.heap.size+1+1) 0 [x,y]).cell? ⟨b,off+k * 14+12,none⟩=some (.slice aN p.bs[k].nx.length cN) from by
      have k1:=(kC4.out.below hV kC4.out.lt).not2 (g:=w.heap.size+1+1) (by omega) x y
      have k2:=(kP4.out.below hV kP4.out.lt).not2 (g:=w.heap.size+1+1) (by omega) x y
      exact ⟨k1.cell 0,k2.cell 1,by rw [cell_not2 _ _ _ hne];exact cN4 V hV⟩))
    have HRR:=hide (fun V (hV:Below w4.heap.size w4 V)=>kR4.out.below hV kR4.out.lt)
    have HCt:=hide (fun V (hV:Below w4.heap.size w4 V) (hc:V.cell? ⟨w4.heap.size,0,none⟩=some (.slice aN p.bs[k].nx.length cN)) (hg:w4.heap.size < V.heap.size)=>concatVal_any (.slice aN p.bs[k].nx.length cN) p.bs[k].nx w4.heap.size V (Hn4.out.below hV (Nat.le_refl _)) hn hc hg)
    generalize p.bs[k].nx=Y at HSS HST HCt HEN
    clear HNe hb4 kC2 kP2 kR2 Hk2 hat hk1 hrk hvN hn hq4 Hn4 cN4 Hany HN kC4 kP4 kR4 hcap
    go_upto_region 4 with fail
    go_wp2
    refine wp_region_held_drew (S:=fun W=>W.cell? ⟨w.heap.size,0,none⟩=some (.int .i64 e)/\W.cell? ⟨w.heap.size+1,1,none⟩=some (.slice (some ⟨b,off,none⟩) p.bs.length cL)/\W.cell? ⟨b,off+k * 14+12,none⟩=some (.slice aN Y.length cN)) (by kernel_rfl) (HSS.out _ bD) (fun hHeld=>?_)
    refine wpAnyH_take (i:=0) (v:=.pointer (some ⟨w.heap.size,0,none⟩)) rfl (by kernel_rfl) (by kernel_rfl) (by kernel_rfl) (fun _ _ _ h=>h) (Or.inl ⟨by rfl,fun W hW=>by (obtain ⟨q0,q1,q2⟩:=hW;go_simp)⟩) (by assumption) ?_
    change wpAnyH Tryz.prog _ _ _ _ _ _ (Act.put _ (some 21) _) _
    simp only [Act.put,List.setIfInBounds_toArray,List.set_cons_zero,List.set_cons_succ]
    refine wpAnyH_take (i:=1) (v:=.int .i64 e) rfl (by kernel_rfl) (by kernel_rfl) (by kernel_rfl) (fun _ _ _ h=>h) (Or.inl ⟨by rfl,fun W hW=>by (obtain ⟨q0,q1,q2⟩:=hW;go_simp)⟩) (by assumption) ?_
    change wpAnyH Tryz.prog _ _ _ _ _ _ (Act.put _ (some 22) _) _
    simp only [Act.put,List.setIfInBounds_toArray,List.set_cons_zero,List.set_cons_succ]
    refine wpAnyH_take (i:=2) (v:=.int .i64 (e+1)) rfl (by kernel_rfl) (by kernel_rfl) (by kernel_rfl) (fun _ _ _ h=>h) (Or.inl ⟨by rfl,fun W hW=>by (obtain ⟨q0,q1,q2⟩:=hW;go_simp)⟩) (by assumption) ?_
    change wpAnyH Tryz.prog _ _ _ _ _ _ (Act.put _ (some 23) _) _
    simp only [Act.put,List.setIfInBounds_toArray,List.set_cons_zero,List.set_cons_succ]
    refine wpAnyH_take (i:=3) (v:=.pointer (some ⟨w.heap.size+1,1,none⟩)) rfl (by kernel_rfl) (by kernel_rfl) (by kernel_rfl) (fun _ _ _ h=>h) (Or.inl ⟨by rfl,fun W hW=>by (obtain ⟨q0,q1,q2⟩:=hW;go_simp)⟩) (by assumption) ?_
    change wpAnyH Tryz.prog _ _ _ _ _ _ (Act.put _ (some 24) _) _
    simp only [Act.put,List.setIfInBounds_toArray,List.set_cons_zero,List.set_cons_succ]
    refine wpAnyH_take (i:=4) (v:=.slice (some ⟨b,off,none⟩) p.bs.length cL) rfl (by kernel_rfl) (by kernel_rfl) (by kernel_rfl) (fun _ _ _ h=>h) (Or.inl ⟨by rfl,fun W hW=>by (obtain ⟨q0,q1,q2⟩:=hW;go_simp)⟩) (by assumption) ?_
    change wpAnyH Tryz.prog _ _ _ _ _ _ (Act.put _ (some 25) _) _
    simp only [Act.put,List.setIfInBounds_toArray,List.set_cons_zero,List.set_cons_succ]
    refine wpAnyH_take (i:=5) (v:=.int .i64 (k:Int)) rfl (by kernel_rfl) (by kernel_rfl) (by kernel_rfl) (fun _ _ _ h=>h) (Or.inl ⟨by rfl,fun W hW=>by (obtain ⟨q0,q1,q2⟩:=hW;go_simp)⟩) (by assumption) ?_
    change wpAnyH Tryz.prog _ _ _ _ _ _ (Act.put _ (some 26) _) _
    simp only [Act.put,List.setIfInBounds_toArray,List.set_cons_zero,List.set_cons_succ]
    refine wpAnyH_take (i:=6) (v:=.pointer (some ⟨b,off+k * 14,none⟩)) rfl (by kernel_rfl) (by kernel_rfl) (by kernel_rfl) (fun _ _ _ h=>h) (Or.inl ⟨by rfl,fun W hW=>by (obtain ⟨q0,q1,q2⟩:=hW;go_simp)⟩) (by assumption) ?_
    change wpAnyH Tryz.prog _ _ _ _ _ _ (Act.put _ (some 27) _) _
    simp only [Act.put,List.setIfInBounds_toArray,List.set_cons_zero,List.set_cons_succ]
    refine wpAnyH_take (i:=7) (v:=.pointer (some ⟨b,off+k * 14+12,none⟩)) rfl (by kernel_rfl) (by kernel_rfl) (by kernel_rfl) (fun _ _ _ h=>h) (Or.inl ⟨by rfl,fun W hW=>by (obtain ⟨q0,q1,q2⟩:=hW;go_simp)⟩) (by assumption) ?_
    change wpAnyH Tryz.prog _ _ _ _ _ _ (Act.put _ (some 28) _) _
    simp only [Act.put,List.setIfInBounds_toArray,List.set_cons_zero,List.set_cons_succ]
    refine wpAnyH_take (i:=8) (v:=.slice aN Y.length cN) rfl (by kernel_rfl) (by kernel_rfl) (by kernel_rfl) (fun _ _ _ h=>h) (Or.inl ⟨by rfl,fun W hW=>by (obtain ⟨q0,q1,q2⟩:=hW;go_simp)⟩) (by assumption) ?_
    change wpAnyH Tryz.prog _ _ _ _ _ _ (Act.put _ (some 29) _) _
    simp only [Act.put,List.setIfInBounds_toArray,List.set_cons_zero,List.set_cons_succ]
    refine wpAnyH_ready (rs:=[9]) (by kernel_rfl) (by simp) ?_
    refine AllReadyH.cons rfl (fun K hK=>?_) AllReadyH.nil
    go_simp
    have ba:Below w4.heap.size w4 (w4.alloc (.cells #[.slice aN Y.length cN] 33)).drew:=((Below.refl _ w4).alloc (Nat.le_refl _) _).drew
    have ka:Blk (w4.alloc (.cells #[.slice aN Y.length cN] 33)).drew w4.heap.size 33 [.slice aN Y.length cN]:=Blk.new w4 _ _
    have HC:=hide (HCt.out _ ba (ka.cell 0) ka.lt)
    refine hK.out _ _ (HSS.out _ ba) (fun hHeld=>?_)
    try simp only [Act.put,List.setIfInBounds_toArray,List.set_cons_zero,List.set_cons_succ]
    refine wpAnyH_ready (rs:=[10]) (by kernel_rfl) (by simp) ?_
    refine AllReadyH.cons rfl (fun K hK=>?_) AllReadyH.nil
    go_simp
    go_wp2_with (go_at_call 41;(with_reducible refine HC.out.mono ?_);rintro en w3 ⟨v3,rfl,o3,hb3⟩;obtain ⟨a3,c3,hv3⟩:=o3.rd.shape;subst hv3;have b3:=ba.trans (hb3.mono ba.size))
    refine hK.out _ _ (HSS.out _ b3) (fun hHeld=>?_)
    try simp only [Act.put,List.setIfInBounds_toArray,List.set_cons_zero,List.set_cons_succ]
    refine wpAnyH_take (i:=11) (v:=.agg #[.int .i64 (e+1),.slice a3 Y.length c3]) rfl (by kernel_rfl) (by kernel_rfl) (by kernel_rfl) (fun _ _ _ h=>h) (Or.inl ⟨by rfl,fun W hW=>by (obtain ⟨q0,q1,q2⟩:=hW;go_simp)⟩) (by assumption) ?_
    change wpAnyH Tryz.prog _ _ _ _ _ _ (Act.put _ (some 32) _) _
    simp only [Act.put,List.setIfInBounds_toArray,List.set_cons_zero,List.set_cons_succ]
    have kr:=HRR.out _ b3
    have b4:Below w4.heap.size w4 (w3.setCells (w.heap.size+1+1) 0 [.int .i64 (e+1),.slice a3 Y.length c3])->True:=fun _=>trivial
    refine wpAnyH_ready (rs:=[12]) (by kernel_rfl) (by simp) ?_
    refine AllReadyH.cons rfl (fun K hK=>?_) AllReadyH.nil
    refine wp_store_mid 35 _ _ rfl (w.heap.size+1+1) 0 #[.int .i64 (e+1),.slice a3 Y.length c3] rfl rfl (kr.there2 (n:=2) rfl) (by kernel_rfl) (all_oneCell_toArray (cs:=[.int .i64 (e+1),.slice a3 Y.length c3]) (List.all_eq_true.1 rfl)) ?_
    refine hK.out _ _ (HST.out _ _ _ b3) (fun hHeld=>?_)
    try simp only [Act.put,List.setIfInBounds_toArray,List.set_cons_zero,List.set_cons_succ]
    refine wpAnyH_take (i:=13) (v:=.bool true) rfl (by kernel_rfl) (by kernel_rfl) (by kernel_rfl) (fun _ _ _ h=>h) (Or.inl ⟨by rfl,fun W hW=>by go_simp⟩) (by assumption) ?_
    change wpAnyH Tryz.prog _ _ _ _ _ _ (Act.put _ (some 5) _) _
    simp only [Act.put,List.setIfInBounds_toArray,List.set_cons_zero,List.set_cons_succ]
    refine wpAnyH_done (by kernel_rfl) ?_ _
    have KX:=hide (show Blk (w3.setCells (w.heap.size+1+1) 0 [.int .i64 (e+1),.slice a3 Y.length c3]) (w.heap.size+1+1) 35 [.int .i64 (e+1),.slice a3 Y.length c3] from kr.set2 _ _)
    have HB:=hide (below_set2 (HB2.out.trans (b3.mono HB2.out.size)) (g:=w.heap.size+1+1) (by omega) (.int .i64 (e+1)) (.slice a3 Y.length c3))
    have HO:=hide ((o3.setsC (g:=w.heap.size+1+1) (Nat.lt_of_lt_of_le hs2 ba.size) (.int .i64 (e+1)) (.slice a3 Y.length c3)).mono (show w.heap.size<=(w4.alloc (.cells #[.slice aN Y.length cN] 33)).drew.heap.size by have:=ba.size;omega))
    clear HSS HST HRR kr ba ka HC o3 hb3 b3 b4
    go_wp2
    refine res_implAc (F:=[.int .i64 (e+1),.slice a3 Y.length c3]) (w.heap.size+1+1) (.bool true) KX.out.range2 (by rfl) (by rfl) (by kernel_rfl) rfl ?_
    exact ⟨.slice a3 Y.length c3,rfl,by rw [HEN.out];exact HO.out,HB.out⟩
end Go.Proofs.YtaidhenkijjcfaaGreat
namespace Go.Proofs.YtaidhenkijjcfaaGreat
open Go.RowKit Go.Sort
set_option linter.unusedVariables false
set_option linter.unusedSimpArgs false
theorem implFollowAll_any (e0:Int) (v0:Value) (A:List Ac) (p:Nd) (u:Nv) (w:World) (hr:RdA w v0 A) (hl:A.length<=4000000) (hall:∀ a ∈ A,a.1.size<=maxLen/\a.2.2.2.2.length<=4000000) (hp:RdNd w p u) (hq:p.ps.length<=4000000) (hf:∀ q ∈ p.ps,FewPf q) (hb:∀ q ∈ p.ps,q.bs.length<=3999999) (hg:∀ q ∈ p.ps,FitPf q) :
    Calls Tryz.prog 27 #[lgV e0 v0,noV p u] w fun en w'=>∃ v',en=.returned (.tuple #[lgV (faA e0 A p.ps).1 v',.int .i64 ((faA e0 A p.ps).2.2:Int)])/\OwnV w.heap.size w' v' (faA e0 A p.ps).2.1/\Below w.heap.size w w':=by
  obtain ⟨aA,cA,rfl⟩:=hr.shape
  obtain ⟨w1,hw1⟩:∃ x,((w.alloc (.cells #[.int .i64 e0,.slice aA A.length cA] 66)).alloc (.cells (noC p u).toArray 73)).alloc (.cells #[.int .i64 0,.slice none 0 0] 35)=x:=⟨_,rfl⟩
  have s1:(w.alloc (.cells #[.int .i64 e0,.slice aA A.length cA] 66)).heap.size=w.heap.size+1:=by simp
  have s2:((w.alloc (.cells #[.int .i64 e0,.slice aA A.length cA] 66)).alloc (.cells (noC p u).toArray 73)).heap.size=w.heap.size+1+1:=by simp
  have b1:Below w.heap.size w w1:=by rw [<- hw1];exact (((Below.refl _ w).alloc (Nat.le_refl _) _).alloc (by rw [s1];omega) _).alloc (by rw [s2];omega) _
  have kL:Blk w1 w.heap.size 66 [.int .i64 e0,.slice aA A.length cA]:=by rw [<- hw1];exact (Blk.new w _ _).below (((Below.refl (w.heap.size+1) _).alloc (by rw [s1];exact Nat.le_refl _) _).alloc (by rw [s2];omega) _) (by omega)
  have kN:=hide (show Blk w1 (w.heap.size+1) 73 (noC p u) from by
    rw [<- hw1]
    exact (Blk.newR _ _ (noC p u) _ s1.symm).below ((Below.refl (w.heap.size+1+1) _).alloc (by rw [s2];exact Nat.le_refl _) _) (by omega))
  have kR:=hide (show Blk w1 (w.heap.size+1+1) 35 [.int .i64 0,.slice none 0 0] from by rw [<- hw1];exact Blk.newR _ _ [.int .i64 0,.slice none 0 0] _ s2.symm)
  have hz1:=kR.out.lt
  have HCn:=hide (implClientNew_any e0 (.slice aA A.length cA) A w1 (hr.below b1 (Nat.le_refl _)) hl hall)
  have HPo:=hide (fun (e:Int) V (hV:Below w.heap.size w V)=>implProofOf_any p u e V (hp.below hV (Nat.le_refl _)) hq hf hb)
  have HGd:=hide (fun (e:Int)=>poP_few e GoodPf (fun q h=>good_of (hf q h) (hg q h)) good_zero)
  have HAc:=hide (fun (e:Int) (v:Value) (st:List Vl) (y:Pv) V (h1:RdV V v st) (h2:RdPf V (poP p.ps e) y) (h3:st.length<=4000000) (h4:∀ a ∈ st,a.1.size<=maxLen)=>implAccept_any e v st (poP p.ps e) y V h1 h2 h3 h4 (HGd.out e).nb (HGd.out e).fb (HGd.out e).tr (HGd.out e).nw (HGd.out e).sw)
  have HFa:=hide (show faA e0 A p.ps=faG p.ps 1000 (cnA e0 A).1 (cnA e0 A).2 0 from rfl)
  have hcl:(cnA e0 A).2.length<=4000000:=by have:=cnA_len e0 A;omega
  have hcs:=cnA_in e0 A (fun a ha=>(hall a ha).1)
  have IN:=hide (show (Tryz.prog.info? 73).map (·.size)=some (noC p u).length from Tryz.infoP20)
  have x0:=kL.cell 0
  have x1:=kL.cell 1
  simp only [List.getElem?_cons_zero,List.getElem?_cons_succ] at x0 x1
  have B1:=hide b1
  rw [show noV p u=.agg (noC p u).toArray from rfl] at HPo ⊢
  simp only [lgV] at HCn ⊢
  clear hr hp hall hf hb hg kL b1 s1 s2
  generalize p.ps=L at HPo HGd HAc HFa hq ⊢
  generalize noC p u=cs at hw1 kN HPo IN ⊢
  generalize faA e0 A L=X at HFa ⊢
  generalize (cnA e0 A).2=S0 at HCn HFa hcl hcs
  generalize (cnA e0 A).1=E0 at HCn HFa
  have Hcl:=hide (And.intro hcl hcs)
  clear hcl hcs
  go_enter Tryz.func27,Tryz.ntmps27
  go_upto_region 1 with fail
  (try rw [hw1])
  clear hw1
  go_wp2_with fail
  refine HCn.out.mono ?_
  rintro en w2 ⟨v2,rfl,o2,hb2⟩
  obtain ⟨a2,c2,hv2⟩:=o2.rd.shape
  subst hv2
  obtain ⟨w3,hw3⟩:∃ x,w2.alloc (.cells #[.int .i64 E0,.slice a2 S0.length c2] 35)=x:=⟨_,rfl⟩
  have b23:Below w2.heap.size w2 w3:=by rw [<- hw3];exact (Below.refl _ w2).alloc (Nat.le_refl _) _
  have kT:=hide (show Blk w3 w2.heap.size 35 [.int .i64 E0,.slice a2 S0.length c2] from by rw [<- hw3];exact Blk.new w2 _ _)
  have b13:=hb2.trans (b23.mono hb2.size)
  have hz2:=hb2.size
  have kN:=hide (kN.out.below b13 kN.out.lt)
  have kR:=hide (kR.out.below b13 kR.out.lt)
  have HO:=hide (show OwnC w1.heap.size w2.heap.size w3 (.slice a2 S0.length c2) S0 from o2.oc.below b23 (Nat.le_refl _))
  have B3:=hide (B1.out.trans (b13.mono B1.out.size))
  have Hw3:=hide hw3
  clear hw3 b13 b23 hb2 o2 x0 x1 HCn B1
  go_upto_region 2 with fail
  rw [Hw3.out]
  clear Hw3
  go_wp2
  go_loopw [7] (fun iv wr=>∃ (k:Nat) (e:Int) (st:List Vl) (a:Option Addr) (c lo hi:Nat),iv=.int .i64 (k:Int)/\(k=0\/((k:Int)<=e/\e<=901))/\(st.length<=4000000/\∀ q ∈ st,q.1.size<=maxLen)/\X=faG L (1000 - k) e st k/\Blk wr w2.heap.size 35 [.int .i64 e,.slice a st.length c]/\OwnC lo hi wr (.slice a st.length c) st/\w.heap.size+1+1 < lo/\(hi<=w2.heap.size\/w2.heap.size < lo)/\Blk wr (w.heap.size+1) 73 cs/\Blk wr (w.heap.size+1+1) 35 [.int .i64 0,.slice none 0 0]/\Below w.heap.size w wr/\w2.heap.size < wr.heap.size) (fun iv _=>1000 - (intOf iv).toNat)
  case atStart=>exact ⟨0,E0,S0,a2,c2,w1.heap.size,w2.heap.size,rfl,.inl rfl,Hcl.out,HFa.out,kT.out,HO.out,by omega,.inl (Nat.le_refl _),kN.out,kR.out,B3.out,kT.out.lt⟩
  case round =>
    clear kT kN kR HO B3 Hcl HFa
    obtain ⟨k,e,st,a,c,lo,hi,rfl,hke,hst,hX,k0,o0,hlo,hlh,kN0,kR0,hB,hz3⟩:=hrel
    have hk9:k<=901:=by omega
    have HX1:=hide (hX.trans (faG_step L k hk9 e st k))
    have Hgo:=hide (fun (h:clB e st (poP L e)=true)=>And.intro (clB_is h).1 (And.intro (show clE e st (poP L e)=e+1 from by unfold clE;rw [if_pos h]) (And.intro (clS_len (p:=poP L e) (e:=e) hst.1 (fun b hb=>((HGd.out e).fb b hb).n)) (clS_in (p:=poP L e) (e:=e) (fun q=>q.1.size<=maxLen) hst.2 (fun b hb=>((HGd.out e).fb b hb).ns)))))
    have HP1:=hide (HPo.out e wr hB)
    have HA1:=hide (fun y V (h1:RdV V (.slice a st.length c) st) (h2:RdPf V (poP L e) y)=>HAc.out e (.slice a st.length c) st y V h1 h2 hst.1 hst.2)
    have HNo1:=hide (fun (h:poO L e=false)=>faO_no1 (st:=st) h)
    have HNo2:=hide (fun (h:clB e st (poP L e)=false)=>faO_no2 h)
    have HYes:=hide (fun (h1:poO L e=true) (h2:clB e st (poP L e)=true)=>faO_yes h1 h2)
    have Hke:=hide hke
    have K0:=hide k0
    have O0:=hide o0
    have KN0:=hide kN0
    have KR0:=hide kR0
    have B0:=hide hB
    have RN:=hide (blk_range kN0)
    have x0:=k0.cell 0
    have x1:=k0.cell 1
    simp only [List.getElem?_cons_zero,List.getElem?_cons_succ] at x0 x1
    clear hke hst hX k0 o0 kN0 kR0 hB HGd HPo HAc
    go_wp2_with (first
      | (refine wpList_load_mid rfl 73 _ rfl (w.heap.size+1) 0 rfl cs _ RN.out Tryz.underlying73 rfl IN.out ?_)
      | fail)
    refine HP1.out.mono ?_
    rintro en w4 ⟨y,rfl,oy,hb4⟩
    have ry:RdPf w4 (poP L e) y:=oy.rd
    obtain ⟨cP,hcP⟩:∃ x,pfC (poP L e) y=x:=⟨_,rfl⟩
    have ev:pfV (poP L e) y=.agg cP.toArray:=by rw [<- hcP];rfl
    have IP:=hide (show (Tryz.prog.info? 42).map (·.size)=some cP.length from by rw [<- hcP];exact Tryz.infoP5)
    have oneP:=hide (show cP.toArray.all (·.oneCell')=true from by rw [List.all_toArray,<- hcP];exact pfC_one ry)
    have bz:Blk (w4.alloc (.cells #[.int .i64 0,.slice none 0 0,.int .i64 0,.int .i64 0,.slice none 0 0] 42)) w4.heap.size 42 [.int .i64 0,.slice none 0 0,.int .i64 0,.int .i64 0,.slice none 0 0]:=Blk.new w4 _ _
    have HtP:=hide (show (w4.alloc (.cells #[.int .i64 0,.slice none 0 0,.int .i64 0,.int .i64 0,.slice none 0 0] 42)).there w4.heap.size 0 cP.toArray.size from bz.there (by rw [List.size_toArray,<- hcP];rfl))
    obtain ⟨w5,hw5⟩:∃ x,(w4.alloc (.cells #[.int .i64 0,.slice none 0 0,.int .i64 0,.int .i64 0,.slice none 0 0] 42)).setCells w4.heap.size 0 cP=x:=⟨_,rfl⟩
    have k5:Blk w5 w4.heap.size 42 cP:=by rw [<- hw5];exact blk_all bz (by rw [<- hcP];rfl)
    have b45:Below w4.heap.size w4 w5:=by rw [<- hw5];exact ((Below.refl _ w4).alloc (Nat.le_refl _) _).trans (putC_below (Nat.le_refl _) _ _ _)
    have RP:=hide (blk_range k5)
    have b5:=hb4.trans (b45.mono hb4.size)
    have Hw5:=hide hw5
    have K5:=hide (K0.out.below b5 K0.out.lt)
    have O5:=hide (O0.out.below b5 (Nat.le_refl _))
    have KN5:=hide (KN0.out.below b5 KN0.out.lt)
    have KR5:=hide (KR0.out.below b5 KR0.out.lt)
    have B5:=hide (B0.out.trans (b5.mono B0.out.size))
    have HA2:=hide (HA1.out y w5 O5.out.rd (ry.below b45 (Nat.le_refl _)))
    rw [ev] at HA2 ⊢
    simp only [lgV] at HA2
    have hz5:=b5.size
    have u0:=K5.out.cell 0
    have u1:=K5.out.cell 1
    simp only [List.getElem?_cons_zero,List.getElem?_cons_succ] at u0 u1
    clear x0 x1 ry hcP ev bz hw5 k5 b45 b5 hb4 oy HP1 HA1 K0 O0 KN0 KR0 B0 RN
    go_wp2_with (first
      | (refine wpList_load_mid rfl 42 _ rfl w4.heap.size 0 rfl cP _ RP.out Tryz.underlying42 rfl IP.out ?_)
      | (refine wpList_store_mid rfl 42 _ _ rfl w4.heap.size 0 cP.toArray rfl rfl HtP.out (by simpa using IP.out) oneP.out ?_;rw [Hw5.out])
      | fail)
    refine HA2.out.mono ?_
    rintro en w6 ⟨v6,rfl,o6,hb6⟩
    obtain ⟨a6,c6,hv6⟩:=o6.rd.shape
    subst hv6
    obtain ⟨w7,hw7⟩:∃ x,w6.alloc (.cells #[.int .i64 (clE e st (poP L e)),.slice a6 (clS e st (poP L e)).length c6] 35)=x:=⟨_,rfl⟩
    have b67:Below w6.heap.size w6 w7:=by rw [<- hw7];exact (Below.refl _ w6).alloc (Nat.le_refl _) _
    have kT9:=hide (show Blk w7 w6.heap.size 35 [.int .i64 (clE e st (poP L e)),.slice a6 (clS e st (poP L e)).length c6] from by rw [<- hw7];exact Blk.new w6 _ _)
    have b57:=hb6.trans (b67.mono hb6.size)
    have O6:=hide (show OwnC w5.heap.size w6.heap.size w7 (.slice a6 (clS e st (poP L e)).length c6) (clS e st (poP L e)) from o6.oc.below b67 (Nat.le_refl _))
    have k9:=hide (K5.out.below b57 K5.out.lt)
    have O9:=hide (O5.out.below b57 (Nat.le_refl _))
    have kN9:=hide (KN5.out.below b57 KN5.out.lt)
    have kR9:=hide (KR5.out.below b57 KR5.out.lt)
    have B9:=hide (B5.out.trans (b57.mono B5.out.size))
    have Hw7:=hide hw7
    have hz6:=hb6.size
    have hz7:=kT9.out.lt
    clear u0 u1 hw7 b67 b57 hb6 o6 HA2 K5 O5 KN5 KR5 B5 RP IP oneP HtP Hw5
    cases hO:poO L e
    · have hfin:=HNo1.out hO
      clear hO HNo1 HNo2 HYes Hke
      have HF:=hide (show X=(e,st,k) from HX1.out.trans (by rw [hfin];rfl))
      clear hfin HX1 Hgo
      have f0:=k9.out.cell 0
      have f1:=k9.out.cell 1
      have r0:=kR9.out.cell 0
      have r1:=kR9.out.cell 1
      have g0:=kR9.out.frozen 0
      have g1:=kR9.out.frozen 1
      simp only [List.getElem?_cons_zero,List.getElem?_cons_succ] at f0 f1 r0 r1
      have HOx:=hide (((O9.out.own.olderC (g:=w.heap.size+1+1) (by omega) 0 (.int .i64 e)).olderC (g:=w.heap.size+1+1) (by omega) 1 (.slice a st.length c)).mono (show w.heap.size<=lo by omega))
      have HBx:=hide ((B9.out.setCell (p:=⟨w.heap.size+1+1,0,none⟩) (show w.heap.size<=w.heap.size+1+1 by omega) (.int .i64 e)).setCell (p:=⟨w.heap.size+1+1,1,none⟩) (show w.heap.size<=w.heap.size+1+1 by omega) (.slice a st.length c))
      clear k9 kR9 kN9 O9 B9 kT9 O6
      go_upto_region 6 with fail
      rw [Hw7.out]
      clear Hw7
      go_wp2
      refine bodyPost_ret (v:=.tuple #[.agg #[.int .i64 e,.slice a st.length c],.int .i64 (k:Int)]) (by simp [results,Tryz.f27,go_sem,r0,r1]) rfl ?_
      exact ⟨_,by rw [HF.out],by rw [HF.out];exact HOx.out,HBx.out⟩
    · cases hA:clB e st (poP L e)
      · have hfin:=HNo2.out hA
        clear hO hA HNo1 HNo2 HYes Hke
        have HF:=hide (show X=(e,st,k) from HX1.out.trans (by rw [hfin];rfl))
        clear hfin HX1 Hgo
        have f0:=k9.out.cell 0
        have f1:=k9.out.cell 1
        have r0:=kR9.out.cell 0
        have r1:=kR9.out.cell 1
        have g0:=kR9.out.frozen 0
        have g1:=kR9.out.frozen 1
        simp only [List.getElem?_cons_zero,List.getElem?_cons_succ] at f0 f1 r0 r1
        have HOx:=hide (((O9.out.own.olderC (g:=w.heap.size+1+1) (by omega) 0 (.int .i64 e)).olderC (g:=w.heap.size+1+1) (by omega) 1 (.slice a st.length c)).mono (show w.heap.size<=lo by omega))
        have HBx:=hide ((B9.out.setCell (p:=⟨w.heap.size+1+1,0,none⟩) (show w.heap.size<=w.heap.size+1+1 by omega) (.int .i64 e)).setCell (p:=⟨w.heap.size+1+1,1,none⟩) (show w.heap.size<=w.heap.size+1+1 by omega) (.slice a st.length c))
        clear k9 kR9 kN9 O9 B9 kT9 O6
        go_upto_region 6 with fail
        rw [Hw7.out]
        clear Hw7
        go_wp2
        refine bodyPost_ret (v:=.tuple #[.agg #[.int .i64 e,.slice a st.length c],.int .i64 (k:Int)]) (by simp [results,Tryz.f27,go_sem,r0,r1]) rfl ?_
        exact ⟨_,by rw [HF.out],by rw [HF.out];exact HOx.out,HBx.out⟩
      · have hgo:=HYes.out hO hA
        obtain ⟨⟨he0,he9⟩,hE,hS⟩:=Hgo.out hA
        have HX2:=hide (show X=faG L (1000 - (k+1)) (clE e st (poP L e)) (clS e st (poP L e)) (k+1) from HX1.out.trans (by rw [hgo];rfl))
        have f0:=kT9.out.cell 0
        have f1:=kT9.out.cell 1
        have g0:=k9.out.frozen 0
        have g1:=k9.out.frozen 1
        have h0:=k9.out.cell 0
        have h1:=k9.out.cell 1
        simp only [List.getElem?_cons_zero,List.getElem?_cons_succ] at f0 f1 h0 h1
        generalize clS e st (poP L e)=S1 at HX2 kT9 O6 f1 hS Hw7
        generalize clE e st (poP L e)=E1 at HX2 kT9 f0 hE Hw7
        subst hE
        have HS:=hide hS
        have hKE:(k:Int)+1<=e+1:=by rcases Hke.out with rfl | h <;> omega
        have HKE:=hide (And.intro hKE (show e+1<=901 by omega))
        have hki:IntKind.i64.wrap ((k:Int)+1)=(k:Int)+1:=by rw [IntKind.wrap_i64];omega
        clear hO hA hgo hS HNo1 HNo2 HYes HX1 Hgo Hke hKE he0 he9
        go_upto_region 6 with fail
        rw [Hw7.out]
        clear Hw7
        go_wp2
        go_roundw
        case rel =>
          have kk:=(k9.out.set2 (.int .i64 (e+1)) (.slice a6 S1.length c6))
          refine ⟨k+1,e+1,S1,a6,c6,w5.heap.size,w6.heap.size,by go_num,.inr ⟨by have:=HKE.out.1;omega,HKE.out.2⟩,HS.out,HX2.out,kk,O6.out.kept (Kept.setCs _ 0 [.int .i64 (e+1),.slice a6 S1.length c6] (.inl (by omega))),by omega,.inr (by omega),kN9.out.not2 (by omega) _ _,kR9.out.not2 (by omega) _ _,below_set2 B9.out (by have:=B9.out.size;omega) _ _,?_⟩
          exact kk.lt
        case measure=>simp [intOf];omega
end Go.Proofs.YtaidhenkijjcfaaGreat
