/- l17Linked of the model. -/
import Derived.Test.YtaidhenkijjcfaaGreatZrBkOk
set_option maxRecDepth 20000
set_option maxHeartbeats 8000000
namespace Go.Proofs.YtaidhenkijjcfaaGreat
open Go.RowKit Go.Sort
set_option linter.unusedVariables false
set_option linter.unusedSimpArgs false
theorem wp_appVs {o:Oper} {a:Act} {w:World} {K:Act->World->Prop} {Q:Exit->Act->World->Prop} (s x:Operand)
    (ho:o.op=.call { callee:=.builtin .append,args:=#[s,x],argTypes:=#[33,33] })
    (base:Nat) (v vx:Value) (l k:List Vl) (hs:a.eval s=v) (hx:a.eval x=vx) (hown:OwnV base w v l) (hrd:RdV w vx k)
    (hlen:l.length+k.length<=100000000) (hbase:base<=w.heap.size)
    (h:∀ v' w',OwnV base w' v' (l ++ k)->Below base w w'->K (a.put o.dst v') w'):Oper.wp Tryz.prog o a w K Q:=by
  obtain ⟨i0,hi,hz0,hz1,hz2⟩:=info_parts Tryz.infoVl
  have hbel:∀ w',w.grownBy w' v.ownBlock->Below base w w':=fun w' hg=>(Below.refl _ _).grown hg hbase (fun k hk=>(hown.ge k hk))
  rcases hrd with ⟨ax,cap,rfl,rfl,hnil⟩ | ⟨b,off,cap,h0,rfl,h1,h2,h3,h4⟩
  · cases ax with
    | none =>
      have hc:cap=0:=hnil rfl
      subst hc
      have hrun:=run_append_owned_none (P:=Tryz.prog) (w:=w) base 33 o.type 100 i0 2 Tryz.underlying33 hi v l.length (l.map vlC).flatten hown
      unfold Oper.wp
      simp [execOp,ho,resolve,invoke,builtin,hs,hx,hrun,Result.andThen]
      exact h v w (by simpa [OwnV] using hown) (Below.refl _ _)
    | some ad =>
      refine wp_append_own w s x 33 ho base 100 i0 (.agg #[.string { data:=#[] },.int .i64 0]) 2 24 Tryz.underlying33 hi hz0 hz1 hz2 rfl (by decide) v l.length (l.map vlC).flatten hs hown ad 0 cap [] hx rfl (by intro j u hj;simp at hj) (by intro u hu;simp at hu) (by unfold maxLen;simp at hlen;omega) (by simp at hlen;omega) hbase ?_
      intro v' w' ho' hg _
      exact h v' w' (by simpa [OwnV] using ho') (hbel w' hg)
  · refine wp_append_own w s x 33 ho base 100 i0 (.agg #[.string { data:=#[] },.int .i64 0]) 2 24 Tryz.underlying33 hi hz0 hz1 hz2 rfl (by decide) v l.length (l.map vlC).flatten hs hown ⟨b,off,none⟩ k.length cap (k.map vlC).flatten hx (by rw [flat_len 2 _ (vlM_sz k),List.length_map]) (rdV_cells h4) ?_ (by unfold maxLen;omega) (by omega) hbase ?_
    · intro u hu
      obtain ⟨c,hc,hu⟩:=List.mem_flatten.1 hu
      obtain ⟨p,_,rfl⟩:=List.mem_map.1 hc
      simp only [vlC,List.mem_cons,List.not_mem_nil,or_false] at hu
      rcases hu with rfl | rfl <;> rfl
    · intro v' w' ho' hg _
      exact h v' w' (by simpa [OwnV] using ho') (hbel w' hg)
theorem res_specCc {X:World} {a:Act} {R:Ending->World->Prop} {F:List Value} (g:Nat) (h:X.rangeAt g 0 F) (h2:a.tmps[2]?.getD undef=.pointer (some ⟨g,0,none⟩)) (hs:(Tryz.prog.info? 35).map (·.size)=some F.length) (hd:a.defers=[]) (hR:R (.returned (.agg F.toArray)) X):bodyPost Tryz.prog Tryz.f33 R .ret a X:=by
  have hl:=run_loadVar_mid (P:=Tryz.prog) X g 0 35 F _ h Tryz.underlying35 rfl hs
  refine bodyPost_ret (v:=.agg F.toArray) ?_ hd hR
  simp [results,Tryz.f33,h2,asAddr,hl]
theorem l17Copy_any (e:Int) (vs:Value) (st:List Vl) (w:World) (hr:RdV w vs st) (hls:st.length<=4000000) :
    Calls Tryz.prog 33 #[.agg #[.int .i64 e,vs]] w fun en w'=>∃ v',en=.returned (.agg #[.int .i64 e,v'])/\OwnV w.heap.size w' v' st/\Below w.heap.size w w':=by
  obtain ⟨aS,cS,rfl⟩:=hr.shape
  obtain ⟨w1,hw1⟩:∃ x,(w.alloc (.cells #[.int .i64 e,.slice aS st.length cS] 35)).alloc (.cells #[.int .i64 0,.slice none 0 0] 35)=x:=⟨_,rfl⟩
  have s1:(w.alloc (.cells #[.int .i64 e,.slice aS st.length cS] 35)).heap.size=w.heap.size+1:=by simp
  have b1:Below w.heap.size w w1:=by rw [<- hw1];exact ((Below.refl _ w).alloc (Nat.le_refl _) _).alloc (by rw [s1];omega) _
  have kC:=hide (show Blk w1 w.heap.size 35 [.int .i64 e,.slice aS st.length cS] from by rw [<- hw1];exact (Blk.new w _ _).below ((Below.refl (w.heap.size+1) _).alloc (by rw [s1];exact Nat.le_refl _) _) (by omega))
  have kR:=hide (show Blk w1 (w.heap.size+1) 35 [.int .i64 0,.slice none 0 0] from by rw [<- hw1];exact Blk.newR _ _ [.int .i64 0,.slice none 0 0] _ s1.symm)
  have HB2:=hide b1
  have hs2:w.heap.size+1 < w1.heap.size:=kR.out.lt
  have bD:Below w1.heap.size w1 w1.drew:=(Below.refl _ w1).drew
  have HSS:=hide (fun V (hV:Below w1.heap.size w1 V)=>(show V.cell? ⟨w.heap.size,0,none⟩=some (.int .i64 e)/\V.cell? ⟨w.heap.size,1,none⟩=some (.slice aS st.length cS) from ⟨(kC.out.below hV kC.out.lt).cell 0,(kC.out.below hV kC.out.lt).cell 1⟩))
  have HST:=hide (fun V (x y:Value) (hV:Below w1.heap.size w1 V)=>(show (V.setCells (w.heap.size+1) 0 [x,y]).cell? ⟨w.heap.size,0,none⟩=some (.int .i64 e)/\(V.setCells (w.heap.size+1) 0 [x,y]).cell? ⟨w.heap.size,1,none⟩=some (.slice aS st.length cS) from by
    have k:=(kC.out.below hV kC.out.lt).not2 (g:=w.heap.size+1) (by omega) x y
    exact ⟨k.cell 0,k.cell 1⟩))
  have HRR:=hide (fun V (hV:Below w1.heap.size w1 V)=>kR.out.below hV kR.out.lt)
  have HRd:=hide (fun V (hV:Below w1.heap.size w1 V)=>(hr.below b1 (Nat.le_refl _)).below hV (Nat.le_refl _))
  clear kC kR hr s1 b1
  go_enter Tryz.func33,Tryz.ntmps33
  go_upto_region 1 with fail
  (try rw [hw1])
  clear hw1
  refine wp_region_held_drew (S:=fun W=>W.cell? ⟨w.heap.size,0,none⟩=some (.int .i64 e)/\W.cell? ⟨w.heap.size,1,none⟩=some (.slice aS st.length cS)) (by kernel_rfl) (HSS.out _ bD) (fun hHeld=>?_)
  refine wpAnyH_take (i:=0) (v:=.pointer (some ⟨w.heap.size,0,none⟩)) rfl (by kernel_rfl) (by kernel_rfl) (by kernel_rfl) (fun _ _ _ h=>h) (Or.inl ⟨by rfl,fun W hW=>by (obtain ⟨q0,q1⟩:=hW;go_simp)⟩) (by assumption) ?_
  change wpAnyH Tryz.prog _ _ _ _ _ _ (Act.put _ (some 3) _) _
  simp only [Act.put,List.setIfInBounds_toArray,List.set_cons_zero,List.set_cons_succ]
  refine wpAnyH_take (i:=1) (v:=.int .i64 e) rfl (by kernel_rfl) (by kernel_rfl) (by kernel_rfl) (fun _ _ _ h=>h) (Or.inl ⟨by rfl,fun W hW=>by (obtain ⟨q0,q1⟩:=hW;go_simp)⟩) (by assumption) ?_
  change wpAnyH Tryz.prog _ _ _ _ _ _ (Act.put _ (some 4) _) _
  simp only [Act.put,List.setIfInBounds_toArray,List.set_cons_zero,List.set_cons_succ]
  refine wpAnyH_take (i:=3) (v:=.pointer (some ⟨w.heap.size,1,none⟩)) rfl (by kernel_rfl) (by kernel_rfl) (by kernel_rfl) (fun _ _ _ h=>h) (Or.inl ⟨by rfl,fun W hW=>by (obtain ⟨q0,q1⟩:=hW;go_simp)⟩) (by assumption) ?_
  change wpAnyH Tryz.prog _ _ _ _ _ _ (Act.put _ (some 6) _) _
  simp only [Act.put,List.setIfInBounds_toArray,List.set_cons_zero,List.set_cons_succ]
  refine wpAnyH_take (i:=4) (v:=.slice aS st.length cS) rfl (by kernel_rfl) (by kernel_rfl) (by kernel_rfl) (fun _ _ _ h=>h) (Or.inl ⟨by rfl,fun W hW=>by (obtain ⟨q0,q1⟩:=hW;go_simp)⟩) (by assumption) ?_
  change wpAnyH Tryz.prog _ _ _ _ _ _ (Act.put _ (some 7) _) _
  simp only [Act.put,List.setIfInBounds_toArray,List.set_cons_zero,List.set_cons_succ]
  refine wpAnyH_ready (rs:=[2]) (by kernel_rfl) (by simp) ?_
  refine AllReadyH.cons rfl (fun K hK=>?_) AllReadyH.nil
  go_simp
  have ba:Below w1.heap.size w1 (w1.alloc (.cells #[] 100)).drew:=((Below.refl _ w1).alloc (Nat.le_refl _) _).drew
  have oa:OwnV w1.heap.size (w1.alloc (.cells #[] 100)).drew (.slice (some ⟨w1.heap.size,0,none⟩) 0 0) []:=(own_nilV w1 _ (Nat.le_refl _)).drew
  refine hK.out _ _ (HSS.out _ ba) (fun hHeld=>?_)
  try simp only [Act.put,List.setIfInBounds_toArray,List.set_cons_zero,List.set_cons_succ]
  refine wpAnyH_ready (rs:=[5]) (by kernel_rfl) (by simp) ?_
  refine AllReadyH.cons rfl (fun K hK=>?_) AllReadyH.nil
  refine wp_appVs _ _ rfl w1.heap.size _ _ [] st rfl rfl oa (HRd.out _ ba) (by simp;omega) ba.size ?_
  intro v3 w3 o3 hb3
  rw [List.nil_append] at o3
  obtain ⟨a3,c3,hv3⟩:=o3.rd.shape
  subst hv3
  have b3:=ba.trans hb3
  refine hK.out _ _ (HSS.out _ b3) (fun hHeld=>?_)
  try simp only [Act.put,List.setIfInBounds_toArray,List.set_cons_zero,List.set_cons_succ]
  refine wpAnyH_take (i:=6) (v:=.agg #[.int .i64 e,.slice a3 st.length c3]) rfl (by kernel_rfl) (by kernel_rfl) (by kernel_rfl) (fun _ _ _ h=>h) (Or.inl ⟨by rfl,fun W hW=>by (obtain ⟨q0,q1⟩:=hW;go_simp)⟩) (by assumption) ?_
  change wpAnyH Tryz.prog _ _ _ _ _ _ (Act.put _ (some 9) _) _
  simp only [Act.put,List.setIfInBounds_toArray,List.set_cons_zero,List.set_cons_succ]
  have kr:=HRR.out _ b3
  refine wpAnyH_ready (rs:=[7]) (by kernel_rfl) (by simp) ?_
  refine AllReadyH.cons rfl (fun K hK=>?_) AllReadyH.nil
  refine wp_store_mid 35 _ _ rfl (w.heap.size+1) 0 #[.int .i64 e,.slice a3 st.length c3] rfl rfl (kr.there2 (n:=2) rfl) (by kernel_rfl) (all_oneCell_toArray (cs:=[.int .i64 e,.slice a3 st.length c3]) (List.all_eq_true.1 rfl)) ?_
  refine hK.out _ _ (HST.out _ _ _ b3) (fun hHeld=>?_)
  try simp only [Act.put,List.setIfInBounds_toArray,List.set_cons_zero,List.set_cons_succ]
  refine wpAnyH_done (by kernel_rfl) ?_ _
  have KX:=hide (show Blk (w3.setCells (w.heap.size+1) 0 [.int .i64 e,.slice a3 st.length c3]) (w.heap.size+1) 35 [.int .i64 e,.slice a3 st.length c3] from kr.set2 _ _)
  have HB:=hide (below_set2 (HB2.out.trans (b3.mono HB2.out.size)) (g:=w.heap.size+1) (by omega) (.int .i64 e) (.slice a3 st.length c3))
  have HO:=hide ((o3.setsC (g:=w.heap.size+1) hs2 (.int .i64 e) (.slice a3 st.length c3)).mono (show w.heap.size<=w1.heap.size from HB2.out.size))
  clear HSS HST HRR HRd kr ba oa o3 hb3 b3
  go_wp2
  refine res_specCc (F:=[.int .i64 e,.slice a3 st.length c3]) (w.heap.size+1) KX.out.range2 (by rfl) (by kernel_rfl) rfl ?_
  exact ⟨.slice a3 st.length c3,rfl,HO.out,HB.out⟩
end Go.Proofs.YtaidhenkijjcfaaGreat
namespace Go.Proofs.YtaidhenkijjcfaaGreat
open Go.RowKit Go.Sort
set_option linter.unusedVariables false
theorem Tryz.infoL14:(Tryz.prog.info? 92).map (·.size)=some 14:=by kernel_rfl
theorem l17Linked_any (e:Int) (vs v:Value) (st:List Vl) (l:List Bk) (w:World) (hr:RdV w vs st) (hk:RdKs w v l) (hls:st.length<=4000000) (hl:l.length<=4000000) (hf:∀ b ∈ l,FewK b) (hbd:∀ b ∈ l,-9223372036854775808<=b.tr/\b.tr<=9223372036854775807) (hm:ModV st) :
    Calls Tryz.prog 35 #[.agg #[.int .i64 e,vs],v] w fun en w'=>en=.returned (.bool (lkB e st l))/\Below w.heap.size w w':=by
  obtain ⟨aS,cS,rfl⟩:=hr.shape
  obtain ⟨aL,cL,rfl⟩:=hk.shape
  obtain ⟨w1,hw1⟩:∃ x,w.alloc (.cells #[.int .i64 e,.slice aS st.length cS] 35)=x:=⟨_,rfl⟩
  have b1:Below w.heap.size w w1:=by rw [<- hw1];exact (Below.refl _ w).alloc (Nat.le_refl _) _
  have K1:=hide (show Blk w1 w.heap.size 35 [.int .i64 e,.slice aS st.length cS] from by rw [<- hw1];exact Blk.new w _ _)
  have Hr:=hide (hr.below b1 (Nat.le_refl _))
  have Hk:=hide (hk.below b1 (Nat.le_refl _))
  have Hf:=hide hf
  have Hd:=hide hbd
  have Hm:=hide hm
  have B1:=hide b1
  have IB:=hide Tryz.infoL14
  clear hr hk hf hbd hm b1
  go_enter Tryz.func35,Tryz.ntmps35
  go_upto_region 1 with fail
  (try rw [hw1])
  clear hw1
  go_wp2
  go_loopw [5] (fun i wr=>∃ k:Nat,k<=l.length/\i=.int .i64 k/\(∀ j (h:j < l.length),j < k->lkAt e st l j h=true)/\Below w1.heap.size w1 wr) (fun i _=>l.length - (intOf i).toNat)
  case atStart=>exact ⟨0,Nat.zero_le _,rfl,fun j _ h=>by omega,Below.refl _ _⟩
  case round =>
    obtain ⟨k,hk,rfl,hno,hb⟩:=hrel
    have Hall:=hide hno
    have B10:=hide hb
    have B0:=hide (B1.out.trans (hb.mono B1.out.size))
    clear hno
    by_cases hlt:k < l.length
    · obtain ⟨b,off,rfl,hbw,hcap,hat⟩:=Hk.out.atC (by omega)
      obtain ⟨bv,hk1,hrk⟩:=hat k hlt
      have hli:(k:Int) < (l.length:Int):=by omega
      have HF:=Hf.out l[k] (List.getElem_mem hlt)
      have HD:=Hd.out l[k] (List.getElem_mem hlt)
      have hbr:=Nat.lt_of_lt_of_le hbw hb.size
      have hat3:=hk1.below hb hbw
      have hrk3:=hrk.below hb (Nat.le_refl _)
      have hr3:=Hr.out.below hb (Nat.le_refl _)
      have hC:=K1.out.below hb K1.out.lt
      have IE:=hide (show (Tryz.prog.info? 92).map (·.size)=some (bkC l[k] bv).length from IB.out)
      have RJ:=hide (range_regrown hat3.range hbr)
      have x0:=hC.cell 0
      simp only [List.getElem?_cons_zero] at x0
      have gc0:=cell_regrown x0
      have g1:=cell_regrown hat3.cells.2.1
      have HO3:=hide (fun (d:Nat) (os:Array Obj)=>Calls.regrown_of (specBlockOk_any l[k] bv (grow (redrawn wr d) os) (hrk3.below (below_regrown wr d os) (Nat.le_refl _)) HF HD))
      have Hno:Hid (lkAt e st l k hlt=false->lkB e st l=false):=hide (lkB_no k hlt)
      have Hyes:Hid (lkAt e st l k hlt=true->∀ j (h:j < l.length),j < k+1->lkAt e st l j h=true):=hide (fun h j hj hjk=>by
        by_cases e:j=k
        · subst e;exact h
        · exact Hall.out j hj (by omega))
      rw [show bkV l[k] bv=.agg (bkC l[k] bv).toArray from rfl] at HO3
      obtain ⟨aQ,cQ,hqv⟩:=hrk.q.shape
      -- what the second test reads,wherever it begins
      have H6:=hide (fun V (hV:Below wr.heap.size wr V)=>(show V.cell? ⟨w.heap.size,1,none⟩=some (.slice aS st.length cS)/\V.cell? ⟨b,off+k * 14+4,none⟩=some (.int .i64 l[k].qr)/\V.cell? ⟨b,off+k * 14+5,none⟩=some (.int .i64 l[k].qb)/\V.cell? ⟨b,off+k * 14+6,none⟩=some (.slice aQ l[k].qw.length cQ)/\b < V.heap.size/\w.heap.size < V.heap.size from
        ⟨(hC.below hV hC.lt).cell 1,(hat3.below hV hbr).cells.2.2.2.2.1,(hat3.below hV hbr).cells.2.2.2.2.2.1,by rw [<- hqv];exact (hat3.below hV hbr).cells.2.2.2.2.2.2.1,Nat.lt_of_lt_of_le hbr hV.size,Nat.lt_of_lt_of_le hC.lt hV.size⟩))
      have HQc:=hide (fun V (hV:Below wr.heap.size wr V)=>specQcOk_any (.slice aS st.length cS) bv.q st l[k].qr l[k].qb l[k].qw V (hr3.below hV (Nat.le_refl _)) (hrk3.q.below hV (Nat.le_refl _)) hls HF.q HF.qs Hm.out)
      rw [hqv] at HQc
      simp only [qcV] at HQc
      by_cases hk0:k=0
      · have HA:Hid (lkAt e st l k hlt=(blB l[k] && (decide (l[k].ep=e) && true))):=hide (by unfold lkAt;rw [decide_eq_true hk0,Bool.true_or])
        have hd2:decide ((0:Int) < (k:Int))=false:=by simp;omega
        have hd3:decide (0 < k)=false:=by simp;omega
        clear hk0 hat hk1 hrk hb hC x0 hrk3 hr3 HF HD hqv Hall hat3 H6 HQc
        generalize bkC l[k] bv=cs at RJ IE HO3
        generalize l[k].ep=ep at g1 HA
        generalize blB l[k]=X at HO3 HA
        cases X
        · skip
          have hn:=hide (Hno.out (by rw [HA.out];rfl))
          clear Hno Hyes HA
          go_wp2
          refine wp_region_quiet_below (by kernel_rfl) (by kernel_rfl) ?_
          (try dsimp only [List.append])
          (try simp only [Act.put])
          iterate 3 (go_big_quiet_step (first | (go_at_call 91;exact HO3.out _ _)))
          (first | go_big_quiet_skip | (refine quiet_load_mid 92 _ rfl b (off+k * 14) rfl cs _ RJ.out Tryz.underlying92 rfl IE.out (by rfl) ?_;change wpQuiet _ _ _ _ _ (Act.put _ (some 15) _);simp only [Act.put,List.setIfInBounds_toArray,List.set_cons_zero,List.set_cons_succ]))
          iterate 12 (go_big_quiet_step (first | (go_at_call 91;exact HO3.out _ _)))
          refine wpQuiet_nil ?_
          intro _ hw'
          obtain ⟨⟨dq,osq⟩,hw''⟩:=hw'
          subst hw''
          go_wp2
          go_ret
          exact ⟨ret_bool hn.out.symm,B0.out.trans ((below_regrown wr dq osq).mono B0.out.size)⟩
        · by_cases he:ep=e
          · have heq:(ep != e)=false:=by rw [he];simp
            rw [decide_eq_true he] at HA
            clear he
            go_wp2
            refine wp_region_quiet_below (by kernel_rfl) (by kernel_rfl) ?_
            (try dsimp only [List.append])
            (try simp only [Act.put])
            iterate 3 (go_big_quiet_step (first | (go_at_call 91;exact HO3.out _ _)))
            (first | go_big_quiet_skip | (refine quiet_load_mid 92 _ rfl b (off+k * 14) rfl cs _ RJ.out Tryz.underlying92 rfl IE.out (by rfl) ?_;change wpQuiet _ _ _ _ _ (Act.put _ (some 15) _);simp only [Act.put,List.setIfInBounds_toArray,List.set_cons_zero,List.set_cons_succ]))
            iterate 12 (go_big_quiet_step (first | (go_at_call 91;exact HO3.out _ _)))
            refine wpQuiet_nil ?_
            intro _ hw'
            obtain ⟨⟨dq,osq⟩,hw''⟩:=hw'
            subst hw''
            have hb4:=below_regrown wr dq osq
            obtain ⟨w4,hw4⟩:∃ x,grow (redrawn wr dq) osq=x:=⟨_,rfl⟩
            rw [hw4] at hb4 ⊢
            clear hw4
            have B4:=hide (B0.out.trans (hb4.mono B0.out.size))
            have B14:=hide (B10.out.trans (hb4.mono B10.out.size))
            clear RJ IE HO3 g1 gc0 hb4
            have Hy:=hide (Hyes.out (by rw [HA.out];rfl))
            clear Hno Hyes HA
            go_wp2
            refine wp_region_quiet_below (by kernel_rfl) (by kernel_rfl) ?_
            (try dsimp only [List.append])
            (try simp only [Act.put])
            iterate 43 (go_big_quiet_step (first | (go_at_call 36;exact HQ6.out _ _)))
            refine wpQuiet_nil ?_
            intro _ hw'
            obtain ⟨⟨dq2,osq2⟩,hw''⟩:=hw'
            subst hw''
            go_wp2
            go_roundw
            case rel=>exact ⟨k+1,by omega,by go_num,Hy.out,B14.out.trans ((below_regrown w4 dq2 osq2).mono B14.out.size)⟩
            case measure=>simp [intOf];omega
          · have heq:(ep != e)=true:=by rw [bne_iff_ne];exact he
            rw [decide_eq_false he] at HA
            clear he
            have hn:=hide (Hno.out (by rw [HA.out];rfl))
            clear Hno Hyes HA
            go_wp2
            refine wp_region_quiet_below (by kernel_rfl) (by kernel_rfl) ?_
            (try dsimp only [List.append])
            (try simp only [Act.put])
            iterate 3 (go_big_quiet_step (first | (go_at_call 91;exact HO3.out _ _)))
            (first | go_big_quiet_skip | (refine quiet_load_mid 92 _ rfl b (off+k * 14) rfl cs _ RJ.out Tryz.underlying92 rfl IE.out (by rfl) ?_;change wpQuiet _ _ _ _ _ (Act.put _ (some 15) _);simp only [Act.put,List.setIfInBounds_toArray,List.set_cons_zero,List.set_cons_succ]))
            iterate 12 (go_big_quiet_step (first | (go_at_call 91;exact HO3.out _ _)))
            refine wpQuiet_nil ?_
            intro _ hw'
            obtain ⟨⟨dq,osq⟩,hw''⟩:=hw'
            subst hw''
            go_wp2
            go_ret
            exact ⟨ret_bool hn.out.symm,B0.out.trans ((below_regrown wr dq osq).mono B0.out.size)⟩
      · obtain ⟨bp,hkp,hrp⟩:=hat (k - 1) (by omega)
        have HA:Hid (lkAt e st l k hlt=(blB l[k] && (decide (l[k].ep=e) && (decide (l[k].qb=(l[k - 1]'(by omega)).id) && (decide (l[k].qr=(l[k - 1]'(by omega)).rd) && qcB st l[k].qr l[k].qb l[k].qw))))):=hide (by unfold lkAt cfB;rw [decide_eq_false hk0,Bool.false_or])
        have hd2:decide ((0:Int) < (k:Int))=true:=by simp;omega
        have hd3:decide (0 < k)=true:=by simp;omega
        have hkp3:=hkp.below hb hbw
        have H7:=hide (fun V (hV:Below wr.heap.size wr V)=>(show V.cell? ⟨b,off+(k - 1) * 14,none⟩=some (.int .i64 (l[k - 1]'(by omega)).id)/\V.cell? ⟨b,off+(k - 1) * 14+2,none⟩=some (.int .i64 (l[k - 1]'(by omega)).rd) from
          ⟨(hkp3.below hV hbr).cells.1,(hkp3.below hV hbr).cells.2.2.1⟩))
        have hk1i:(1:Int)<=(k:Int):=by omega
        have hk1j:(k:Int) - 1 < (l.length:Int):=by omega
        clear hk0 hat hk1 hrk hb hC x0 hrk3 hr3 HF HD hqv Hall hat3 hkp hrp hkp3
        generalize bkC l[k] bv=cs at RJ IE HO3
        generalize qcB st l[k].qr l[k].qb l[k].qw=Y at HQc HA
        generalize (l[k - 1]'(by omega)).id=pi at H7 HA
        generalize (l[k - 1]'(by omega)).rd=pr at H7 HA
        generalize l[k].ep=ep at g1 HA
        generalize l[k].qr=qr at H6 HQc HA
        generalize l[k].qb=qb at H6 HQc HA
        generalize l[k].qw.length=qn at H6 HQc
        generalize blB l[k]=X at HO3 HA
        cases X
        · clear HQc H6 H7
          have hn:=hide (Hno.out (by rw [HA.out];rfl))
          clear Hno Hyes HA
          go_wp2
          refine wp_region_quiet_below (by kernel_rfl) (by kernel_rfl) ?_
          (try dsimp only [List.append])
          (try simp only [Act.put])
          iterate 3 (go_big_quiet_step (first | (go_at_call 91;exact HO3.out _ _)))
          (first | go_big_quiet_skip | (refine quiet_load_mid 92 _ rfl b (off+k * 14) rfl cs _ RJ.out Tryz.underlying92 rfl IE.out (by rfl) ?_;change wpQuiet _ _ _ _ _ (Act.put _ (some 15) _);simp only [Act.put,List.setIfInBounds_toArray,List.set_cons_zero,List.set_cons_succ]))
          iterate 12 (go_big_quiet_step (first | (go_at_call 91;exact HO3.out _ _)))
          refine wpQuiet_nil ?_
          intro _ hw'
          obtain ⟨⟨dq,osq⟩,hw''⟩:=hw'
          subst hw''
          go_wp2
          go_ret
          exact ⟨ret_bool hn.out.symm,B0.out.trans ((below_regrown wr dq osq).mono B0.out.size)⟩
        · by_cases he:ep=e
          · have heq:(ep != e)=false:=by rw [he];simp
            rw [decide_eq_true he] at HA
            clear he
            go_wp2
            refine wp_region_quiet_below (by kernel_rfl) (by kernel_rfl) ?_
            (try dsimp only [List.append])
            (try simp only [Act.put])
            iterate 3 (go_big_quiet_step (first | (go_at_call 91;exact HO3.out _ _)))
            (first | go_big_quiet_skip | (refine quiet_load_mid 92 _ rfl b (off+k * 14) rfl cs _ RJ.out Tryz.underlying92 rfl IE.out (by rfl) ?_;change wpQuiet _ _ _ _ _ (Act.put _ (some 15) _);simp only [Act.put,List.setIfInBounds_toArray,List.set_cons_zero,List.set_cons_succ]))
            iterate 12 (go_big_quiet_step (first | (go_at_call 91;exact HO3.out _ _)))
            refine wpQuiet_nil ?_
            intro _ hw'
            obtain ⟨⟨dq,osq⟩,hw''⟩:=hw'
            subst hw''
            have hb4:=below_regrown wr dq osq
            obtain ⟨w4,hw4⟩:∃ x,grow (redrawn wr dq) osq=x:=⟨_,rfl⟩
            rw [hw4] at hb4 ⊢
            clear hw4
            have B4:=hide (B0.out.trans (hb4.mono B0.out.size))
            have B14:=hide (B10.out.trans (hb4.mono B10.out.size))
            obtain ⟨z1,z4,z5,z6,hbz,hcz⟩:=H6.out w4 hb4
            obtain ⟨zi,zr⟩:=H7.out w4 hb4
            have HQ6:=hide (fun (d:Nat) (os:Array Obj)=>Calls.regrown_of (HQc.out (grow (redrawn w4 d) os) (hb4.trans ((below_regrown w4 d os).mono hb4.size))))
            have k1:=cell_regrown z1
            have k4:=cell_regrown z4
            have k5:=cell_regrown z5
            have k6:=cell_regrown z6
            have ki:=cell_regrown zi
            have kr:=cell_regrown zr
            clear RJ IE HO3 g1 gc0 hb4 H6 H7 HQc z1 z4 z5 z6 zi zr hbz hcz
            by_cases hi:qb=pi
            · have hib:(qb != pi)=false:=by rw [hi];simp
              rw [decide_eq_true hi] at HA
              clear hi
              by_cases hj:qr=pr
              · have hjb:(qr != pr)=false:=by rw [hj];simp
                rw [decide_eq_true hj] at HA
                clear hj
                cases Y
                · skip
                  have hn:=hide (Hno.out (by rw [HA.out];rfl))
                  clear Hno Hyes HA
                  go_wp2
                  refine wp_region_quiet_below (by kernel_rfl) (by kernel_rfl) ?_
                  (try dsimp only [List.append])
                  (try simp only [Act.put])
                  iterate 43 (go_big_quiet_step (first | (go_at_call 36;exact HQ6.out _ _)))
                  refine wpQuiet_nil ?_
                  intro _ hw'
                  obtain ⟨⟨dq2,osq2⟩,hw''⟩:=hw'
                  subst hw''
                  go_wp2
                  go_ret
                  exact ⟨ret_bool hn.out.symm,B4.out.trans ((below_regrown w4 dq2 osq2).mono B4.out.size)⟩
                · skip
                  have Hy:=hide (Hyes.out (by rw [HA.out];rfl))
                  clear Hno Hyes HA
                  go_wp2
                  refine wp_region_quiet_below (by kernel_rfl) (by kernel_rfl) ?_
                  (try dsimp only [List.append])
                  (try simp only [Act.put])
                  iterate 43 (go_big_quiet_step (first | (go_at_call 36;exact HQ6.out _ _)))
                  refine wpQuiet_nil ?_
                  intro _ hw'
                  obtain ⟨⟨dq2,osq2⟩,hw''⟩:=hw'
                  subst hw''
                  go_wp2
                  go_roundw
                  case rel=>exact ⟨k+1,by omega,by go_num,Hy.out,B14.out.trans ((below_regrown w4 dq2 osq2).mono B14.out.size)⟩
                  case measure=>simp [intOf];omega
              · have hjb:(qr != pr)=true:=by rw [bne_iff_ne];exact hj
                rw [decide_eq_false hj] at HA
                clear hj HQ6
                have hn:=hide (Hno.out (by rw [HA.out];rfl))
                clear Hno Hyes HA
                go_wp2
                refine wp_region_quiet_below (by kernel_rfl) (by kernel_rfl) ?_
                (try dsimp only [List.append])
                (try simp only [Act.put])
                iterate 43 (go_big_quiet_step (first | (go_at_call 36;exact HQ6.out _ _)))
                refine wpQuiet_nil ?_
                intro _ hw'
                obtain ⟨⟨dq2,osq2⟩,hw''⟩:=hw'
                subst hw''
                go_wp2
                go_ret
                exact ⟨ret_bool hn.out.symm,B4.out.trans ((below_regrown w4 dq2 osq2).mono B4.out.size)⟩
            · have hib:(qb != pi)=true:=by rw [bne_iff_ne];exact hi
              rw [decide_eq_false hi] at HA
              clear hi HQ6
              have hn:=hide (Hno.out (by rw [HA.out];rfl))
              clear Hno Hyes HA
              go_wp2
              refine wp_region_quiet_below (by kernel_rfl) (by kernel_rfl) ?_
              (try dsimp only [List.append])
              (try simp only [Act.put])
              iterate 43 (go_big_quiet_step (first | (go_at_call 36;exact HQ6.out _ _)))
              refine wpQuiet_nil ?_
              intro _ hw'
              obtain ⟨⟨dq2,osq2⟩,hw''⟩:=hw'
              subst hw''
              go_wp2
              go_ret
              exact ⟨ret_bool hn.out.symm,B4.out.trans ((below_regrown w4 dq2 osq2).mono B4.out.size)⟩
          · have heq:(ep != e)=true:=by rw [bne_iff_ne];exact he
            rw [decide_eq_false he] at HA
            clear he HQc H6 H7
            have hn:=hide (Hno.out (by rw [HA.out];rfl))
            clear Hno Hyes HA
            go_wp2
            refine wp_region_quiet_below (by kernel_rfl) (by kernel_rfl) ?_
            (try dsimp only [List.append])
            (try simp only [Act.put])
            iterate 3 (go_big_quiet_step (first | (go_at_call 91;exact HO3.out _ _)))
            (first | go_big_quiet_skip | (refine quiet_load_mid 92 _ rfl b (off+k * 14) rfl cs _ RJ.out Tryz.underlying92 rfl IE.out (by rfl) ?_;change wpQuiet _ _ _ _ _ (Act.put _ (some 15) _);simp only [Act.put,List.setIfInBounds_toArray,List.set_cons_zero,List.set_cons_succ]))
            iterate 12 (go_big_quiet_step (first | (go_at_call 91;exact HO3.out _ _)))
            refine wpQuiet_nil ?_
            intro _ hw'
            obtain ⟨⟨dq,osq⟩,hw''⟩:=hw'
            subst hw''
            go_wp2
            go_ret
            exact ⟨ret_bool hn.out.symm,B0.out.trans ((below_regrown wr dq osq).mono B0.out.size)⟩
    · have hX:=hide (lkB_yes (e:=e) (st:=st) (l:=l) (fun i h=>Hall.out i h (by omega)))
      clear Hall hb
      go_wp2
      go_ret
      exact ⟨ret_bool hX.out.symm,B0.out⟩
end Go.Proofs.YtaidhenkijjcfaaGreat
