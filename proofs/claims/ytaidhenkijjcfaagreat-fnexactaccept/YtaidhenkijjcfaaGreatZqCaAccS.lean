/- Accept of the model. -/
import Derived.Test.YtaidhenkijjcfaaGreatZqCaCpS
set_option maxRecDepth 20000
set_option maxHeartbeats 8000000
namespace Go.Proofs.YtaidhenkijjcfaaGreat
open Go.RowKit Go.Sort
set_option linter.unusedVariables false
theorem Tryz.infoL14:(Tryz.prog.info? 92).map (·.size)=some 14:=by kernel_rfl
theorem l17Linked_any (e:Int) (vs v:Value) (st:List Vl) (l:List Bk) (w:World) (hr:RdV w vs st) (hk:RdKs w v l) (hls:st.length<=4000000) (hl:l.length<=4000000) (hf:∀ b ∈ l,FewK b) (hbd:∀ b ∈ l,-9223372036854775808<=b.tr/\b.tr<=9223372036854775807) (hm:ModV st) :
    Calls Tryz.prog 35 #[.agg #[.int .i64 e,vs],v] w fun en w'=>en=.returned (.bool (lkB e st l))/\Below w.heap.size w w':=by
  obtain ⟨aS,cS,rfl⟩:=hr.shape
  obtain ⟨aL,cL,rfl⟩:=hk.shape
  obtain ⟨w1,hw1⟩:∃ x,w.alloc (.cells #[.int .i64 e,.slice aS st.length cS] 35)=x:=⟨_,rfl⟩
  have b1:Below w.heap.size w w1:=by rw [<- hw1];exact (Below.refl _ w).alloc (Nat.le_refl _) _
  have K1:=hide (show Blk w1 w.heap.size 35 [.int .i64 e,.slice aS st.length cS] from by rw [<- hw1];exact Blk.new w _ _)
  have Hr:=hide (hr.below b1 (Nat.le_refl _))
  have Hk:=hide (hk.below b1 (Nat.le_refl _))
  have Hf:=hide hf
  have Hd:=hide hbd
  have Hm:=hide hm
  have B1:=hide b1
  have IB:=hide Tryz.infoL14
  clear hr hk hf hbd hm b1
  go_enter Tryz.func35,Tryz.ntmps35
  go_upto_region 1 with fail
  (try rw [hw1])
  clear hw1
  go_wp2
  go_loopw [5] (fun i wr=>∃ k:Nat,k<=l.length/\i=.int .i64 k/\(∀ j (h:j < l.length),j < k->lkAt e st l j h=true)/\Below w1.heap.size w1 wr) (fun i _=>l.length - (intOf i).toNat)
  case atStart=>exact ⟨0,Nat.zero_le _,rfl,fun j _ h=>by omega,Below.refl _ _⟩
  case round =>
    obtain ⟨k,hk,rfl,hno,hb⟩:=hrel
    have Hall:=hide hno
    have B10:=hide hb
    have B0:=hide (B1.out.trans (hb.mono B1.out.size))
    clear hno
    by_cases hlt:k < l.length
    · obtain ⟨b,off,rfl,hbw,hcap,hat⟩:=Hk.out.atC (by omega)
      obtain ⟨bv,hk1,hrk⟩:=hat k hlt
      have hli:(k:Int) < (l.length:Int):=by omega
      have HF:=Hf.out l[k] (List.getElem_mem hlt)
      have HD:=Hd.out l[k] (List.getElem_mem hlt)
      have hbr:=Nat.lt_of_lt_of_le hbw hb.size
      have hat3:=hk1.below hb hbw
      have hrk3:=hrk.below hb (Nat.le_refl _)
      have hr3:=Hr.out.below hb (Nat.le_refl _)
      have hC:=K1.out.below hb K1.out.lt
      have IE:=hide (show (Tryz.prog.info? 92).map (·.size)=some (bkC l[k] bv).length from IB.out)
      have RJ:=hide (range_regrown hat3.range hbr)
      have x0:=hC.cell 0
      simp only [List.getElem?_cons_zero] at x0
      have gc0:=cell_regrown x0
      have g1:=cell_regrown hat3.cells.2.1
      have HO3:=hide (fun (d:Nat) (os:Array Obj)=>Calls.regrown_of (specBlockOk_any l[k] bv (grow (redrawn wr d) os) (hrk3.below (below_regrown wr d os) (Nat.le_refl _)) HF HD))
      have Hno:Hid (lkAt e st l k hlt=false->lkB e st l=false):=hide (lkB_no k hlt)
      have Hyes:Hid (lkAt e st l k hlt=true->∀ j (h:j < l.length),j < k+1->lkAt e st l j h=true):=hide (fun h j hj hjk=>by
        by_cases e:j=k
        · subst e;exact h
        · exact Hall.out j hj (by omega))
      rw [show bkV l[k] bv=.agg (bkC l[k] bv).toArray from rfl] at HO3
      obtain ⟨aQ,cQ,hqv⟩:=hrk.q.shape
      -- what the second test reads,wherever it begins
      have H6:=hide (fun V (hV:Below wr.heap.size wr V)=>(show V.cell? ⟨w.heap.size,1,none⟩=some (.slice aS st.length cS)/\V.cell? ⟨b,off+k * 14+4,none⟩=some (.int .i64 l[k].qr)/\V.cell? ⟨b,off+k * 14+5,none⟩=some (.int .i64 l[k].qb)/\V.cell? ⟨b,off+k * 14+6,none⟩=some (.slice aQ l[k].qw.length cQ)/\b < V.heap.size/\w.heap.size < V.heap.size from
        ⟨(hC.below hV hC.lt).cell 1,(hat3.below hV hbr).cells.2.2.2.2.1,(hat3.below hV hbr).cells.2.2.2.2.2.1,by rw [<- hqv];exact (hat3.below hV hbr).cells.2.2.2.2.2.2.1,Nat.lt_of_lt_of_le hbr hV.size,Nat.lt_of_lt_of_le hC.lt hV.size⟩))
      have HQc:=hide (fun V (hV:Below wr.heap.size wr V)=>specQcOk_any (.slice aS st.length cS) bv.q st l[k].qr l[k].qb l[k].qw V (hr3.below hV (Nat.le_refl _)) (hrk3.q.below hV (Nat.le_refl _)) hls HF.q HF.qs Hm.out)
      rw [hqv] at HQc
      simp only [qcV] at HQc
      by_cases hk0:k=0
      · have HA:Hid (lkAt e st l k hlt=(blB l[k] && (decide (l[k].ep=e) && true))):=hide (by unfold lkAt;rw [decide_eq_true hk0,Bool.true_or])
        have hd2:decide ((0:Int) < (k:Int))=false:=by simp;omega
        have hd3:decide (0 < k)=false:=by simp;omega
        clear hk0 hat hk1 hrk hb hC x0 hrk3 hr3 HF HD hqv Hall hat3 H6 HQc
        generalize bkC l[k] bv=cs at RJ IE HO3
        generalize l[k].ep=ep at g1 HA
        generalize blB l[k]=X at HO3 HA
        cases X
        · skip
          have hn:=hide (Hno.out (by rw [HA.out];rfl))
          clear Hno Hyes HA
          go_wp2
          refine wp_region_quiet_below (by kernel_rfl) (by kernel_rfl) ?_
          (try dsimp only [List.append])
          (try simp only [Act.put])
          iterate 3 (go_big_quiet_step (first | (go_at_call 91;exact HO3.out _ _)))
          (first | go_big_quiet_skip | (refine quiet_load_mid 92 _ rfl b (off+k * 14) rfl cs _ RJ.out Tryz.underlying92 rfl IE.out (by rfl) ?_;change wpQuiet _ _ _ _ _ (Act.put _ (some 15) _);simp only [Act.put,List.setIfInBounds_toArray,List.set_cons_zero,List.set_cons_succ]))
          iterate 12 (go_big_quiet_step (first | (go_at_call 91;exact HO3.out _ _)))
          refine wpQuiet_nil ?_
          intro _ hw'
          obtain ⟨⟨dq,osq⟩,hw''⟩:=hw'
          subst hw''
          go_wp2
          go_ret
          exact ⟨ret_bool hn.out.symm,B0.out.trans ((below_regrown wr dq osq).mono B0.out.size)⟩
        · by_cases he:ep=e
          · have heq:(ep != e)=false:=by rw [he];simp
            rw [decide_eq_true he] at HA
            clear he
            go_wp2
            refine wp_region_quiet_below (by kernel_rfl) (by kernel_rfl) ?_
            (try dsimp only [List.append])
            (try simp only [Act.put])
            iterate 3 (go_big_quiet_step (first | (go_at_call 91;exact HO3.out _ _)))
            (first | go_big_quiet_skip | (refine quiet_load_mid 92 _ rfl b (off+k * 14) rfl cs _ RJ.out Tryz.underlying92 rfl IE.out (by rfl) ?_;change wpQuiet _ _ _ _ _ (Act.put _ (some 15) _);simp only [Act.put,List.setIfInBounds_toArray,List.set_cons_zero,List.set_cons_succ]))
            iterate 12 (go_big_quiet_step (first | (go_at_call 91;exact HO3.out _ _)))
            refine wpQuiet_nil ?_
            intro _ hw'
            obtain ⟨⟨dq,osq⟩,hw''⟩:=hw'
            subst hw''
            have hb4:=below_regrown wr dq osq
            obtain ⟨w4,hw4⟩:∃ x,grow (redrawn wr dq) osq=x:=⟨_,rfl⟩
            rw [hw4] at hb4 ⊢
            clear hw4
            have B4:=hide (B0.out.trans (hb4.mono B0.out.size))
            have B14:=hide (B10.out.trans (hb4.mono B10.out.size))
            clear RJ IE HO3 g1 gc0 hb4
            have Hy:=hide (Hyes.out (by rw [HA.out];rfl))
            clear Hno Hyes HA
            go_wp2
            refine wp_region_quiet_below (by kernel_rfl) (by kernel_rfl) ?_
            (try dsimp only [List.append])
            (try simp only [Act.put])
            iterate 43 (go_big_quiet_step (first | (go_at_call 36;exact HQ6.out _ _)))
            refine wpQuiet_nil ?_
            intro _ hw'
            obtain ⟨⟨dq2,osq2⟩,hw''⟩:=hw'
            subst hw''
            go_wp2
            go_roundw
            case rel=>exact ⟨k+1,by omega,by go_num,Hy.out,B14.out.trans ((below_regrown w4 dq2 osq2).mono B14.out.size)⟩
            case measure=>simp [intOf];omega
          · have heq:(ep != e)=true:=by rw [bne_iff_ne];exact he
            rw [decide_eq_false he] at HA
            clear he
            have hn:=hide (Hno.out (by rw [HA.out];rfl))
            clear Hno Hyes HA
            go_wp2
            refine wp_region_quiet_below (by kernel_rfl) (by kernel_rfl) ?_
            (try dsimp only [List.append])
            (try simp only [Act.put])
            iterate 3 (go_big_quiet_step (first | (go_at_call 91;exact HO3.out _ _)))
            (first | go_big_quiet_skip | (refine quiet_load_mid 92 _ rfl b (off+k * 14) rfl cs _ RJ.out Tryz.underlying92 rfl IE.out (by rfl) ?_;change wpQuiet _ _ _ _ _ (Act.put _ (some 15) _);simp only [Act.put,List.setIfInBounds_toArray,List.set_cons_zero,List.set_cons_succ]))
            iterate 12 (go_big_quiet_step (first | (go_at_call 91;exact HO3.out _ _)))
            refine wpQuiet_nil ?_
            intro _ hw'
            obtain ⟨⟨dq,osq⟩,hw''⟩:=hw'
            subst hw''
            go_wp2
            go_ret
            exact ⟨ret_bool hn.out.symm,B0.out.trans ((below_regrown wr dq osq).mono B0.out.size)⟩
      · obtain ⟨bp,hkp,hrp⟩:=hat (k - 1) (by omega)
        have HA:Hid (lkAt e st l k hlt=(blB l[k] && (decide (l[k].ep=e) && (decide (l[k].qb=(l[k - 1]'(by omega)).id) && (decide (l[k].qr=(l[k - 1]'(by omega)).rd) && qcB st l[k].qr l[k].qb l[k].qw))))):=hide (by unfold lkAt cfB;rw [decide_eq_false hk0,Bool.false_or])
        have hd2:decide ((0:Int) < (k:Int))=true:=by simp;omega
        have hd3:decide (0 < k)=true:=by simp;omega
        have hkp3:=hkp.below hb hbw
        have H7:=hide (fun V (hV:Below wr.heap.size wr V)=>(show V.cell? ⟨b,off+(k - 1) * 14,none⟩=some (.int .i64 (l[k - 1]'(by omega)).id)/\V.cell? ⟨b,off+(k - 1) * 14+2,none⟩=some (.int .i64 (l[k - 1]'(by omega)).rd) from
          ⟨(hkp3.below hV hbr).cells.1,(hkp3.below hV hbr).cells.2.2.1⟩))
        have hk1i:(1:Int)<=(k:Int):=by omega
        have hk1j:(k:Int) - 1 < (l.length:Int):=by omega
        clear hk0 hat hk1 hrk hb hC x0 hrk3 hr3 HF HD hqv Hall hat3 hkp hrp hkp3
        generalize bkC l[k] bv=cs at RJ IE HO3
        generalize qcB st l[k].qr l[k].qb l[k].qw=Y at HQc HA
        generalize (l[k - 1]'(by omega)).id=pi at H7 HA
        generalize (l[k - 1]'(by omega)).rd=pr at H7 HA
        generalize l[k].ep=ep at g1 HA
        generalize l[k].qr=qr at H6 HQc HA
        generalize l[k].qb=qb at H6 HQc HA
        generalize l[k].qw.length=qn at H6 HQc
        generalize blB l[k]=X at HO3 HA
        cases X
        · clear HQc H6 H7
          have hn:=hide (Hno.out (by rw [HA.out];rfl))
          clear Hno Hyes HA
          go_wp2
          refine wp_region_quiet_below (by kernel_rfl) (by kernel_rfl) ?_
          (try dsimp only [List.append])
          (try simp only [Act.put])
          iterate 3 (go_big_quiet_step (first | (go_at_call 91;exact HO3.out _ _)))
          (first | go_big_quiet_skip | (refine quiet_load_mid 92 _ rfl b (off+k * 14) rfl cs _ RJ.out Tryz.underlying92 rfl IE.out (by rfl) ?_;change wpQuiet _ _ _ _ _ (Act.put _ (some 15) _);simp only [Act.put,List.setIfInBounds_toArray,List.set_cons_zero,List.set_cons_succ]))
          iterate 12 (go_big_quiet_step (first | (go_at_call 91;exact HO3.out _ _)))
          refine wpQuiet_nil ?_
          intro _ hw'
          obtain ⟨⟨dq,osq⟩,hw''⟩:=hw'
          subst hw''
          go_wp2
          go_ret
          exact ⟨ret_bool hn.out.symm,B0.out.trans ((below_regrown wr dq osq).mono B0.out.size)⟩
        · by_cases he:ep=e
          · have heq:(ep != e)=false:=by rw [he];simp
            rw [decide_eq_true he] at HA
            clear he
            go_wp2
            refine wp_region_quiet_below (by kernel_rfl) (by kernel_rfl) ?_
            (try dsimp only [List.append])
            (try simp only [Act.put])
            iterate 3 (go_big_quiet_step (first | (go_at_call 91;exact HO3.out _ _)))
            (first | go_big_quiet_skip | (refine quiet_load_mid 92 _ rfl b (off+k * 14) rfl cs _ RJ.out Tryz.underlying92 rfl IE.out (by rfl) ?_;change wpQuiet _ _ _ _ _ (Act.put _ (some 15) _);simp only [Act.put,List.setIfInBounds_toArray,List.set_cons_zero,List.set_cons_succ]))
            iterate 12 (go_big_quiet_step (first | (go_at_call 91;exact HO3.out _ _)))
            refine wpQuiet_nil ?_
            intro _ hw'
            obtain ⟨⟨dq,osq⟩,hw''⟩:=hw'
            subst hw''
            have hb4:=below_regrown wr dq osq
            obtain ⟨w4,hw4⟩:∃ x,grow (redrawn wr dq) osq=x:=⟨_,rfl⟩
            rw [hw4] at hb4 ⊢
            clear hw4
            have B4:=hide (B0.out.trans (hb4.mono B0.out.size))
            have B14:=hide (B10.out.trans (hb4.mono B10.out.size))
            obtain ⟨z1,z4,z5,z6,hbz,hcz⟩:=H6.out w4 hb4
            obtain ⟨zi,zr⟩:=H7.out w4 hb4
            have HQ6:=hide (fun (d:Nat) (os:Array Obj)=>Calls.regrown_of (HQc.out (grow (redrawn w4 d) os) (hb4.trans ((below_regrown w4 d os).mono hb4.size))))
            have k1:=cell_regrown z1
            have k4:=cell_regrown z4
            have k5:=cell_regrown z5
            have k6:=cell_regrown z6
            have ki:=cell_regrown zi
            have kr:=cell_regrown zr
            clear RJ IE HO3 g1 gc0 hb4 H6 H7 HQc z1 z4 z5 z6 zi zr hbz hcz
            by_cases hi:qb=pi
            · have hib:(qb != pi)=false:=by rw [hi];simp
              rw [decide_eq_true hi] at HA
              clear hi
              by_cases hj:qr=pr
              · have hjb:(qr != pr)=false:=by rw [hj];simp
                rw [decide_eq_true hj] at HA
                clear hj
                cases Y
                · skip
                  have hn:=hide (Hno.out (by rw [HA.out];rfl))
                  clear Hno Hyes HA
                  go_wp2
                  refine wp_region_quiet_below (by kernel_rfl) (by kernel_rfl) ?_
                  (try dsimp only [List.append])
                  (try simp only [Act.put])
                  iterate 43 (go_big_quiet_step (first | (go_at_call 36;exact HQ6.out _ _)))
                  refine wpQuiet_nil ?_
                  intro _ hw'
                  obtain ⟨⟨dq2,osq2⟩,hw''⟩:=hw'
                  subst hw''
                  go_wp2
                  go_ret
                  exact ⟨ret_bool hn.out.symm,B4.out.trans ((below_regrown w4 dq2 osq2).mono B4.out.size)⟩
                · skip
                  have Hy:=hide (Hyes.out (by rw [HA.out];rfl))
                  clear Hno Hyes HA
                  go_wp2
                  refine wp_region_quiet_below (by kernel_rfl) (by kernel_rfl) ?_
                  (try dsimp only [List.append])
                  (try simp only [Act.put])
                  iterate 43 (go_big_quiet_step (first | (go_at_call 36;exact HQ6.out _ _)))
                  refine wpQuiet_nil ?_
                  intro _ hw'
                  obtain ⟨⟨dq2,osq2⟩,hw''⟩:=hw'
                  subst hw''
                  go_wp2
                  go_roundw
                  case rel=>exact ⟨k+1,by omega,by go_num,Hy.out,B14.out.trans ((below_regrown w4 dq2 osq2).mono B14.out.size)⟩
                  case measure=>simp [intOf];omega
              · have hjb:(qr != pr)=true:=by rw [bne_iff_ne];exact hj
                rw [decide_eq_false hj] at HA
                clear hj HQ6
                have hn:=hide (Hno.out (by rw [HA.out];rfl))
                clear Hno Hyes HA
                go_wp2
                refine wp_region_quiet_below (by kernel_rfl) (by kernel_rfl) ?_
                (try dsimp only [List.append])
                (try simp only [Act.put])
                iterate 43 (go_big_quiet_step (first | (go_at_call 36;exact HQ6.out _ _)))
                refine wpQuiet_nil ?_
                intro _ hw'
                obtain ⟨⟨dq2,osq2⟩,hw''⟩:=hw'
                subst hw''
                go_wp2
                go_ret
                exact ⟨ret_bool hn.out.symm,B4.out.trans ((below_regrown w4 dq2 osq2).mono B4.out.size)⟩
            · have hib:(qb != pi)=true:=by rw [bne_iff_ne];exact hi
              rw [decide_eq_false hi] at HA
              clear hi HQ6
              have hn:=hide (Hno.out (by rw [HA.out];rfl))
              clear Hno Hyes HA
              go_wp2
              refine wp_region_quiet_below (by kernel_rfl) (by kernel_rfl) ?_
              (try dsimp only [List.append])
              (try simp only [Act.put])
              iterate 43 (go_big_quiet_step (first | (go_at_call 36;exact HQ6.out _ _)))
              refine wpQuiet_nil ?_
              intro _ hw'
              obtain ⟨⟨dq2,osq2⟩,hw''⟩:=hw'
              subst hw''
              go_wp2
              go_ret
              exact ⟨ret_bool hn.out.symm,B4.out.trans ((below_regrown w4 dq2 osq2).mono B4.out.size)⟩
          · have heq:(ep != e)=true:=by rw [bne_iff_ne];exact he
            rw [decide_eq_false he] at HA
            clear he HQc H6 H7
            have hn:=hide (Hno.out (by rw [HA.out];rfl))
            clear Hno Hyes HA
            go_wp2
            refine wp_region_quiet_below (by kernel_rfl) (by kernel_rfl) ?_
            (try dsimp only [List.append])
            (try simp only [Act.put])
            iterate 3 (go_big_quiet_step (first | (go_at_call 91;exact HO3.out _ _)))
            (first | go_big_quiet_skip | (refine quiet_load_mid 92 _ rfl b (off+k * 14) rfl cs _ RJ.out Tryz.underlying92 rfl IE.out (by rfl) ?_;change wpQuiet _ _ _ _ _ (Act.put _ (some 15) _);simp only [Act.put,List.setIfInBounds_toArray,List.set_cons_zero,List.set_cons_succ]))
            iterate 12 (go_big_quiet_step (first | (go_at_call 91;exact HO3.out _ _)))
            refine wpQuiet_nil ?_
            intro _ hw'
            obtain ⟨⟨dq,osq⟩,hw''⟩:=hw'
            subst hw''
            go_wp2
            go_ret
            exact ⟨ret_bool hn.out.symm,B0.out.trans ((below_regrown wr dq osq).mono B0.out.size)⟩
    · have hX:=hide (lkB_yes (e:=e) (st:=st) (l:=l) (fun i h=>Hall.out i h (by omega)))
      clear Hall hb
      go_wp2
      go_ret
      exact ⟨ret_bool hX.out.symm,B0.out⟩
end Go.Proofs.YtaidhenkijjcfaaGreat
namespace Go.Proofs.YtaidhenkijjcfaaGreat
open Go.RowKit Go.Sort
set_option linter.unusedVariables false
set_option linter.unusedSimpArgs false
theorem Tryz.infoA14:(Tryz.prog.info? 92).map (·.size)=some 14:=by kernel_rfl
theorem cell_not2S (V:World) (x y:Value) {b o g:Nat} (h:b ≠ g):(V.setCells g 0 [x,y]).cell? ⟨b,o,none⟩=V.cell? ⟨b,o,none⟩:=World.cell?_setCells_out g [x,y] 0 V ⟨b,o,none⟩ (fun e=>absurd e h)
theorem res_specAc {X:World} {a:Act} {R:Ending->World->Prop} {F:List Value} (g:Nat) (bk:Value) (h:X.rangeAt g 0 F) (h4:a.tmps[4]?.getD undef=.pointer (some ⟨g,0,none⟩)) (h5:a.tmps[5]?.getD undef=bk) (hs:(Tryz.prog.info? 35).map (·.size)=some F.length) (hd:a.defers=[]) (hR:R (.returned (.tuple #[.agg F.toArray,bk])) X):bodyPost Tryz.prog Tryz.f8 R .ret a X:=by
  have hl:=run_loadVar_mid (P:=Tryz.prog) X g 0 35 F _ h Tryz.underlying35 rfl hs
  refine bodyPost_ret (v:=.tuple #[.agg F.toArray,bk]) ?_ hd hR
  simp [results,Tryz.f8,h4,h5,asAddr,hl]
theorem specAccept_any (e : Int) (vs:Value) (st:List Vl) (p:Pf) (u:Pv) (w:World) (hr:RdV w vs st) (hp:RdPf w p u) (hls:st.length<=4000000) (hss:∀ a ∈ st,a.1.size<=maxLen) (hl:p.bs.length<=4000000) (hf:∀ b ∈ p.bs,FewK b) (hbd:∀ b ∈ p.bs,-9223372036854775808<=b.tr/\b.tr<=9223372036854775807) (hlq:p.qw.length<=4000000) (hsq:∀ s ∈ p.qw,s.size<=maxLen) :
    Calls Tryz.prog 8 #[lgV e vs,pfV p u] w fun en w'=>∃ v',en=.returned (.tuple #[lgV (clE e st p) v',.bool (clB e st p)])/\OwnV w.heap.size w' v' (clS e st p)/\Below w.heap.size w w':=by
  obtain ⟨aS,cS,rfl⟩:=hr.shape
  obtain ⟨aL,cL,hvL⟩:=hp.kb.shape
  obtain ⟨aQ,cQ,hvQ⟩:=hp.kw.shape
  obtain ⟨yb,yw⟩:=u
  simp only at hvL hvQ
  subst hvL hvQ
  obtain ⟨w1,hw1⟩:∃ x,((w.alloc (.cells #[.int .i64 e,.slice aS st.length cS] 35)).alloc (.cells #[.int .i64 p.ep,.slice aL p.bs.length cL,.int .i64 p.qr,.int .i64 p.qb,.slice aQ p.qw.length cQ] 42)).alloc (.cells #[.int .i64 0,.slice none 0 0] 35)=x:=⟨_,rfl⟩
  have s1:(w.alloc (.cells #[.int .i64 e,.slice aS st.length cS] 35)).heap.size=w.heap.size+1:=by simp
  have s2:((w.alloc (.cells #[.int .i64 e,.slice aS st.length cS] 35)).alloc (.cells #[.int .i64 p.ep,.slice aL p.bs.length cL,.int .i64 p.qr,.int .i64 p.qb,.slice aQ p.qw.length cQ] 42)).heap.size=w.heap.size+1+1:=by simp
  have b1:Below w.heap.size w w1:=by rw [<- hw1];exact (((Below.refl _ w).alloc (Nat.le_refl _) _).alloc (by rw [s1];omega) _).alloc (by rw [s2];omega) _
  have kC:=hide (show Blk w1 w.heap.size 35 [.int .i64 e,.slice aS st.length cS] from by rw [<- hw1];exact (Blk.new w _ _).below (((Below.refl (w.heap.size+1) _).alloc (by rw [s1];exact Nat.le_refl _) _).alloc (by rw [s2];omega) _) (by omega))
  have kP:=hide (show Blk w1 (w.heap.size+1) 42 [.int .i64 p.ep,.slice aL p.bs.length cL,.int .i64 p.qr,.int .i64 p.qb,.slice aQ p.qw.length cQ] from by
    rw [<- hw1]
    exact (Blk.newR _ _ [.int .i64 p.ep,.slice aL p.bs.length cL,.int .i64 p.qr,.int .i64 p.qb,.slice aQ p.qw.length cQ] _ s1.symm).below ((Below.refl (w.heap.size+1+1) _).alloc (by rw [s2];exact Nat.le_refl _) _) (by omega))
  have kR:=hide (show Blk w1 (w.heap.size+1+1) 35 [.int .i64 0,.slice none 0 0] from by rw [<- hw1];exact Blk.newR _ _ [.int .i64 0,.slice none 0 0] _ s2.symm)
  have hz1:=kR.out.lt
  have HCp:=hide (l17Copy_any e (.slice aS st.length cS) st w1 (hr.below b1 (Nat.le_refl _)) hls)
  have HSt:=hide (fun V (hV:Below w1.heap.size w1 V)=>specSetOk_any (.slice aS st.length cS) st V ((hr.below b1 (Nat.le_refl _)).below hV (Nat.le_refl _)) hls hss)
  have HLk:=hide (fun (hm:ModV st) V (hV:Below w1.heap.size w1 V)=>l17Linked_any e (.slice aS st.length cS) (.slice aL p.bs.length cL) st p.bs V ((hr.below b1 (Nat.le_refl _)).below hV (Nat.le_refl _)) ((hp.kb.below b1 (Nat.le_refl _)).below hV (Nat.le_refl _)) hls hl hf hbd hm)
  have HQc:=hide (fun (hm:ModV st) V (hV:Below w1.heap.size w1 V)=>specQcOk_any (.slice aS st.length cS) (.slice aQ p.qw.length cQ) st p.qr p.qb p.qw V ((hr.below b1 (Nat.le_refl _)).below hV (Nat.le_refl _)) ((hp.kw.below b1 (Nat.le_refl _)).below hV (Nat.le_refl _)) hls hlq hsq hm)
  have HK1:=hide (hp.kb.below b1 (Nat.le_refl _))
  have HN:=hide (fun b (h:b ∈ p.bs)=>(hf b h).n)
  have HNe:=hide (show ∀ b,(∃ off,aL=some ⟨b,off,none⟩)->p.bs ≠ []->b < w.heap.size from fun b ⟨off,h⟩ h0=>by
    rcases hp.kb with ⟨_,_,e1,e2,_⟩ | ⟨b',off',_,_,e1,_,_,h3,_⟩
    · exact absurd e2 h0
    · simp only [Value.slice.injEq] at e1
      rw [h] at e1
      simp only [Option.some.injEq,Addr.mk.injEq] at e1
      rw [e1.1.1];exact h3)
  have v0:=kC.out.cell 0
  have v1:=kC.out.cell 1
  simp only [List.getElem?_cons_zero,List.getElem?_cons_succ] at v0 v1
  have B1:=hide b1
  simp only [lgV,pfV,qcV] at *
  clear hr hp hss hf hbd hsq b1 s1 s2
  cases h1:setB st
  · have hX:=clB_no1 (e:=e) (p:=p) h1
    rw [h1] at HSt
    clear h1 HLk HQc HK1 HN HNe
    rw [show clE e st p=e from by unfold clE;rw [if_neg (by rw [hX];decide)],show clS e st p=st from by unfold clS;rw [if_neg (by rw [hX];decide)],hX]
    clear hX
    go_enter Tryz.func8,Tryz.ntmps8
    go_upto_region 1 with fail
    (try rw [hw1])
    clear hw1
    go_wp2_with fail
    refine HCp.out.mono ?_
    rintro en w2 ⟨v2,rfl,o2,hb2⟩
    obtain ⟨a2,c2,hv2⟩:=o2.rd.shape
    subst hv2
    obtain ⟨w3,hw3⟩:∃ x,w2.alloc (.cells #[.int .i64 e,.slice a2 st.length c2] 35)=x:=⟨_,rfl⟩
    have b23:Below w2.heap.size w2 w3:=by rw [<- hw3];exact (Below.refl _ w2).alloc (Nat.le_refl _) _
    have kT:=hide (show Blk w3 w2.heap.size 35 [.int .i64 e,.slice a2 st.length c2] from by rw [<- hw3];exact Blk.new w2 _ _)
    have b13:=hb2.trans (b23.mono hb2.size)
    have hz2:=hb2.size
    have HCp:=trivial
    have kC:=hide (kC.out.below b13 kC.out.lt)
    have kP:=hide (kP.out.below b13 kP.out.lt)
    have kR:=hide (kR.out.below b13 kR.out.lt)
    have HO:=hide (o2.below b23 (Nat.le_refl _))
    have B13:=hide b13
    have x0:=kC.out.cell 0
    have x1:=kC.out.cell 1
    have y0:=kP.out.cell 0
    have y1:=kP.out.cell 1
    simp only [List.getElem?_cons_zero,List.getElem?_cons_succ] at x0 x1 y0 y1
    have HSt:=hide (HSt.out w3 b13)
    have Hw3:=hide hw3
    clear hw3 b13 b23 hb2 o2 v0 v1 HCp
    go_upto_region 2 with fail
    rw [Hw3.out]
    clear Hw3
    go_upto_region 3 with fail
    go_wp2_with fail
    refine HSt.out.mono ?_
    rintro en w4 ⟨rfl,hb4⟩
    have B14:=hide (B13.out.trans (hb4.mono B13.out.size))
    have kC:=hide (kC.out.below hb4 kC.out.lt)
    have kP:=hide (kP.out.below hb4 kP.out.lt)
    have kR:=hide (kR.out.below hb4 kR.out.lt)
    have kT:=hide (kT.out.below hb4 kT.out.lt)
    have HO:=hide (HO.out.below hb4 (Nat.le_refl _))
    have x0:=kC.out.cell 0
    have x1:=kC.out.cell 1
    have y0:=kP.out.cell 0
    have y1:=kP.out.cell 1
    simp only [List.getElem?_cons_zero,List.getElem?_cons_succ] at x0 x1 y0 y1
    clear HSt hb4 B13
    have f0:=kT.out.cell 0
    have f1:=kT.out.cell 1
    have r0:=kR.out.cell 0
    have r1:=kR.out.cell 1
    have g0:=kR.out.frozen 0
    have g1:=kR.out.frozen 1
    simp only [List.getElem?_cons_zero,List.getElem?_cons_succ] at f0 f1 r0 r1
    have HOx:=hide (((HO.out.olderC (g:=w.heap.size+1+1) hz1 0 (.int .i64 e)).olderC (g:=w.heap.size+1+1) hz1 1 (.slice a2 st.length c2)).mono (show w.heap.size<=w1.heap.size by omega))
    have HBx:=hide (((B1.out.trans (B14.out.mono B1.out.size)).setCell (p:=⟨w.heap.size+1+1,0,none⟩) (show w.heap.size<=w.heap.size+1+1 by omega) (.int .i64 e)).setCell (p:=⟨w.heap.size+1+1,1,none⟩) (show w.heap.size<=w.heap.size+1+1 by omega) (.slice a2 st.length c2))
    clear kC kP kR kT HO B1 B14
    go_wp2
    refine bodyPost_ret (v:=.tuple #[.agg #[.int .i64 e,.slice a2 st.length c2],.bool false]) (by simp [results,Tryz.f8,go_sem,r0,r1]) rfl ?_
    exact ⟨_,rfl,HOx.out,HBx.out⟩
  · rw [h1] at HSt
    have hm:ModV st:=set_modC (l:=st) (by rw [h1,Bool.or_true])
    have HLk:=hide (HLk.out hm)
    have HQc:=hide (HQc.out hm)
    clear hm
    by_cases he:p.ep=e
    · have heb : (p.ep != e)=false:=by rw [he];simp
      by_cases h2:2<=p.bs.length
      · have hlt2 : ¬ ((p.bs.length:Int) < 2):=by omega
        have hd2:decide ((p.bs.length:Int) < 2)=false:=by simp;omega
        have hd3:decide (p.bs.length < 2)=false:=by simp;omega
        have hQ:=clB_eq h1 he h2
        have HU:Hid (clT e st p (p.bs[p.bs.length - 2]'(by omega)) (p.bs[p.bs.length - 1]'(by omega))=(lkB e st p.bs && (decide ((p.bs[p.bs.length - 2]'(by omega)).rd=(p.bs[p.bs.length - 1]'(by omega)).rd - 1) && ((decide (p.qb=(p.bs[p.bs.length - 1]'(by omega)).id) && (decide (p.qr=(p.bs[p.bs.length - 1]'(by omega)).rd) && qcB st p.qr p.qb p.qw)) && (p.bs.take (p.bs.length - 1)).any (fun x=>x.en))))):=hide rfl
        rw [<- hQ] at HU
        have HIs:=hide (fun (h:clB e st p=true)=>(clB_is h).1)
        clear hQ h1 he
        cases hL:lkB e st p.bs
        · rw [hL] at HLk HU
          have hX:clB e st p=false:=HU.out
          clear hL HU HQc HK1 HN HNe HIs
          rw [show clE e st p=e from by unfold clE;rw [if_neg (by rw [hX];decide)],show clS e st p=st from by unfold clS;rw [if_neg (by rw [hX];decide)],hX]
          clear hX
          go_enter Tryz.func8,Tryz.ntmps8
          go_upto_region 1 with fail
          (try rw [hw1])
          clear hw1
          go_wp2_with fail
          refine HCp.out.mono ?_
          rintro en w2 ⟨v2,rfl,o2,hb2⟩
          obtain ⟨a2,c2,hv2⟩:=o2.rd.shape
          subst hv2
          obtain ⟨w3,hw3⟩:∃ x,w2.alloc (.cells #[.int .i64 e,.slice a2 st.length c2] 35)=x:=⟨_,rfl⟩
          have b23:Below w2.heap.size w2 w3:=by rw [<- hw3];exact (Below.refl _ w2).alloc (Nat.le_refl _) _
          have kT:=hide (show Blk w3 w2.heap.size 35 [.int .i64 e,.slice a2 st.length c2] from by rw [<- hw3];exact Blk.new w2 _ _)
          have b13:=hb2.trans (b23.mono hb2.size)
          have hz2:=hb2.size
          have HCp:=trivial
          have kC:=hide (kC.out.below b13 kC.out.lt)
          have kP:=hide (kP.out.below b13 kP.out.lt)
          have kR:=hide (kR.out.below b13 kR.out.lt)
          have HO:=hide (o2.below b23 (Nat.le_refl _))
          have B13:=hide b13
          have x0:=kC.out.cell 0
          have x1:=kC.out.cell 1
          have y0:=kP.out.cell 0
          have y1:=kP.out.cell 1
          simp only [List.getElem?_cons_zero,List.getElem?_cons_succ] at x0 x1 y0 y1
          have HSt:=hide (HSt.out w3 b13)
          have Hw3:=hide hw3
          clear hw3 b13 b23 hb2 o2 v0 v1 HCp
          go_upto_region 2 with fail
          rw [Hw3.out]
          clear Hw3
          go_upto_region 3 with fail
          go_wp2_with fail
          refine HSt.out.mono ?_
          rintro en w4 ⟨rfl,hb4⟩
          have B14:=hide (B13.out.trans (hb4.mono B13.out.size))
          have kC:=hide (kC.out.below hb4 kC.out.lt)
          have kP:=hide (kP.out.below hb4 kP.out.lt)
          have kR:=hide (kR.out.below hb4 kR.out.lt)
          have kT:=hide (kT.out.below hb4 kT.out.lt)
          have HO:=hide (HO.out.below hb4 (Nat.le_refl _))
          have x0:=kC.out.cell 0
          have x1:=kC.out.cell 1
          have y0:=kP.out.cell 0
          have y1:=kP.out.cell 1
          simp only [List.getElem?_cons_zero,List.getElem?_cons_succ] at x0 x1 y0 y1
          clear HSt hb4 B13
          have HL:=hide (HLk.out w4 B14.out)
          clear HLk
          go_wp2_with fail
          refine HL.out.mono ?_
          rintro en w5 ⟨rfl,hb5⟩
          have B15:=hide (B14.out.trans (hb5.mono B14.out.size))
          have kC:=hide (kC.out.below hb5 kC.out.lt)
          have kP:=hide (kP.out.below hb5 kP.out.lt)
          have kR:=hide (kR.out.below hb5 kR.out.lt)
          have kT:=hide (kT.out.below hb5 kT.out.lt)
          have HO:=hide (HO.out.below hb5 (Nat.le_refl _))
          clear x0 x1 y0 y1 hb5 B14 HL
          have f0:=kT.out.cell 0
          have f1:=kT.out.cell 1
          have r0:=kR.out.cell 0
          have r1:=kR.out.cell 1
          have g0:=kR.out.frozen 0
          have g1:=kR.out.frozen 1
          simp only [List.getElem?_cons_zero,List.getElem?_cons_succ] at f0 f1 r0 r1
          have HOx:=hide (((HO.out.olderC (g:=w.heap.size+1+1) hz1 0 (.int .i64 e)).olderC (g:=w.heap.size+1+1) hz1 1 (.slice a2 st.length c2)).mono (show w.heap.size<=w1.heap.size by omega))
          have HBx:=hide (((B1.out.trans (B15.out.mono B1.out.size)).setCell (p:=⟨w.heap.size+1+1,0,none⟩) (show w.heap.size<=w.heap.size+1+1 by omega) (.int .i64 e)).setCell (p:=⟨w.heap.size+1+1,1,none⟩) (show w.heap.size<=w.heap.size+1+1 by omega) (.slice a2 st.length c2))
          clear kC kP kR kT HO B1 B15
          go_wp2
          refine bodyPost_ret (v:=.tuple #[.agg #[.int .i64 e,.slice a2 st.length c2],.bool false]) (by simp [results,Tryz.f8,go_sem,r0,r1]) rfl ?_
          exact ⟨_,rfl,HOx.out,HBx.out⟩
        · have HRa := hide ((blB_rd (lkB_at hL (p.bs.length - 2) (by omega)).1).2)
          rw [hL] at HLk HU
          rw [Bool.true_and] at HU
          clear hL
          generalize hYq:qcB st p.qr p.qb p.qw=YQ at HU HQc
          clear hYq
          have hwJ:((p.bs[p.bs.length - 1]'(by omega)).rd != (p.bs[p.bs.length - 2]'(by omega)).rd+1)=!(decide ((p.bs[p.bs.length - 2]'(by omega)).rd=(p.bs[p.bs.length - 1]'(by omega)).rd - 1)):=by
            by_cases h:(p.bs[p.bs.length - 2]'(by omega)).rd=(p.bs[p.bs.length - 1]'(by omega)).rd - 1
            · have h':(p.bs[p.bs.length - 1]'(by omega)).rd=(p.bs[p.bs.length - 2]'(by omega)).rd+1:=by omega
              rw [decide_eq_true h,h'];simp
            · rw [decide_eq_false h];simp;omega
          cases hJ:decide ((p.bs[p.bs.length - 2]'(by omega)).rd=(p.bs[p.bs.length - 1]'(by omega)).rd - 1)
          · rw [hJ] at HU hwJ
            rw [Bool.false_and] at HU
            rw [Bool.not_false] at hwJ
            clear hJ
            have hX:clB e st p=false:=HU.out
            clear HIs HU HN HNe
            rw [show clE e st p=e from by unfold clE;rw [if_neg (by rw [hX];decide)],show clS e st p=st from by unfold clS;rw [if_neg (by rw [hX];decide)],hX]
            clear hX
            go_enter Tryz.func8,Tryz.ntmps8
            go_upto_region 1 with fail
            (try rw [hw1])
            clear hw1
            go_wp2_with fail
            refine HCp.out.mono ?_
            rintro en w2 ⟨v2,rfl,o2,hb2⟩
            obtain ⟨a2,c2,hv2⟩:=o2.rd.shape
            subst hv2
            obtain ⟨w3,hw3⟩:∃ x,w2.alloc (.cells #[.int .i64 e,.slice a2 st.length c2] 35)=x:=⟨_,rfl⟩
            have b23:Below w2.heap.size w2 w3:=by rw [<- hw3];exact (Below.refl _ w2).alloc (Nat.le_refl _) _
            have kT:=hide (show Blk w3 w2.heap.size 35 [.int .i64 e,.slice a2 st.length c2] from by rw [<- hw3];exact Blk.new w2 _ _)
            have b13:=hb2.trans (b23.mono hb2.size)
            have hz2:=hb2.size
            have HCp:=trivial
            have kC:=hide (kC.out.below b13 kC.out.lt)
            have kP:=hide (kP.out.below b13 kP.out.lt)
            have kR:=hide (kR.out.below b13 kR.out.lt)
            have HO:=hide (o2.below b23 (Nat.le_refl _))
            have B13:=hide b13
            have x0:=kC.out.cell 0
            have x1:=kC.out.cell 1
            have y0:=kP.out.cell 0
            have y1:=kP.out.cell 1
            simp only [List.getElem?_cons_zero,List.getElem?_cons_succ] at x0 x1 y0 y1
            have HSt:=hide (HSt.out w3 b13)
            have Hw3:=hide hw3
            clear hw3 b13 b23 hb2 o2 v0 v1 HCp
            go_upto_region 2 with fail
            rw [Hw3.out]
            clear Hw3
            go_upto_region 3 with fail
            go_wp2_with fail
            refine HSt.out.mono ?_
            rintro en w4 ⟨rfl,hb4⟩
            have B14:=hide (B13.out.trans (hb4.mono B13.out.size))
            have kC:=hide (kC.out.below hb4 kC.out.lt)
            have kP:=hide (kP.out.below hb4 kP.out.lt)
            have kR:=hide (kR.out.below hb4 kR.out.lt)
            have kT:=hide (kT.out.below hb4 kT.out.lt)
            have HO:=hide (HO.out.below hb4 (Nat.le_refl _))
            have x0:=kC.out.cell 0
            have x1:=kC.out.cell 1
            have y0:=kP.out.cell 0
            have y1:=kP.out.cell 1
            simp only [List.getElem?_cons_zero,List.getElem?_cons_succ] at x0 x1 y0 y1
            clear HSt hb4 B13
            have HL:=hide (HLk.out w4 B14.out)
            clear HLk
            go_wp2_with fail
            refine HL.out.mono ?_
            rintro en w5 ⟨rfl,hb5⟩
            have B15:=hide (B14.out.trans (hb5.mono B14.out.size))
            have kC:=hide (kC.out.below hb5 kC.out.lt)
            have kP:=hide (kP.out.below hb5 kP.out.lt)
            have kR:=hide (kR.out.below hb5 kR.out.lt)
            have kT:=hide (kT.out.below hb5 kT.out.lt)
            have HO:=hide (HO.out.below hb5 (Nat.le_refl _))
            clear x0 x1 y0 y1 hb5 B14 HL
            obtain ⟨b,off,hab,hbw,hcap,hat⟩:=HK1.out.atC (by omega)
            subst hab
            obtain ⟨va,ka,ra⟩:=hat (p.bs.length - 2) (by omega)
            obtain ⟨vb,kb,rb⟩:=hat (p.bs.length - 1) (by omega)
            have hi1:(0:Int)<=(p.bs.length:Int) - 1:=by omega
            have hi2:(0:Int)<=(p.bs.length:Int) - 2:=by omega
            have hi3:(p.bs.length:Int) - 1 < (p.bs.length:Int):=by omega
            have hi4:(p.bs.length:Int) - 2 < (p.bs.length:Int):=by omega
            have RG:=hide (range_below kb.range B15.out hbw)
            have IE:=hide (show (Tryz.prog.info? 92).map (·.size)=some (bkC (p.bs[p.bs.length - 1]'(by omega)) vb).length from Tryz.infoA14)
            have H1:=hide (show (bkC (p.bs[p.bs.length - 1]'(by omega)) vb).toArray.all (·.oneCell')=true from by rw [List.all_toArray];exact bkC_one rb)
            have bz:Blk (w5.alloc (.cells #[.int .i64 0,.int .i64 0,.int .i64 0,.string { data:=#[] },.int .i64 0,.int .i64 0,.slice none 0 0,.int .i64 0,.slice none 0 0,.slice none 0 0,.slice none 0 0,.bool false,.slice none 0 0,.string { data:=#[] }] 92)) w5.heap.size 92 [.int .i64 0,.int .i64 0,.int .i64 0,.string { data:=#[] },.int .i64 0,.int .i64 0,.slice none 0 0,.int .i64 0,.slice none 0 0,.slice none 0 0,.slice none 0 0,.bool false,.slice none 0 0,.string { data:=#[] }]:=Blk.new w5 _ _
            have Hth:=hide (show (w5.alloc (.cells #[.int .i64 0,.int .i64 0,.int .i64 0,.string { data:=#[] },.int .i64 0,.int .i64 0,.slice none 0 0,.int .i64 0,.slice none 0 0,.slice none 0 0,.slice none 0 0,.bool false,.slice none 0 0,.string { data:=#[] }] 92)).there w5.heap.size 0 (bkC (p.bs[p.bs.length - 1]'(by omega)) vb).toArray.size from bz.there (by rw [List.size_toArray];rfl))
            obtain ⟨w6,hw6⟩:∃ x,(w5.alloc (.cells #[.int .i64 0,.int .i64 0,.int .i64 0,.string { data:=#[] },.int .i64 0,.int .i64 0,.slice none 0 0,.int .i64 0,.slice none 0 0,.slice none 0 0,.slice none 0 0,.bool false,.slice none 0 0,.string { data:=#[] }] 92)).setCells w5.heap.size 0 (bkC (p.bs[p.bs.length - 1]'(by omega)) vb)=x:=⟨_,rfl⟩
            have k6:Blk w6 w5.heap.size 92 (bkC (p.bs[p.bs.length - 1]'(by omega)) vb):=by rw [<- hw6];exact blk_all bz rfl
            have b56:Below w5.heap.size w5 w6:=by rw [<- hw6];exact ((Below.refl _ w5).alloc (Nat.le_refl _) _).trans (putC_below (Nat.le_refl _) _ _ _)
            have Hw6:=hide hw6
            have u1:=kP.out.cell 1
            have t0:w6.cell? ⟨w5.heap.size,0,none⟩=some (.int .i64 (p.bs[p.bs.length - 1]'(by omega)).id):=k6.cell 0
            have t2:w6.cell? ⟨w5.heap.size,2,none⟩=some (.int .i64 (p.bs[p.bs.length - 1]'(by omega)).rd):=k6.cell 2
            have B16:=hide (B15.out.trans (b56.mono B15.out.size))
            have kC:=hide (kC.out.below b56 kC.out.lt)
            have kP:=hide (kP.out.below b56 kP.out.lt)
            have kR:=hide (kR.out.below b56 kR.out.lt)
            have kT:=hide (kT.out.below b56 kT.out.lt)
            have HO:=hide (HO.out.below b56 (Nat.le_refl _))
            have ea:=(ka.below B16.out hbw).cells.2.2.1
            have hb6:=Nat.lt_of_lt_of_le hbw B16.out.size
            have x1:=kC.out.cell 1
            have y1:=kP.out.cell 1
            have y2:=kP.out.cell 2
            have y3:=kP.out.cell 3
            have y4:=kP.out.cell 4
            simp only [List.getElem?_cons_zero,List.getElem?_cons_succ] at x1 y1 y2 y3 y4 u1
            have g0:=cell_regrown t0
            have g2:=cell_regrown t2
            have ga:=cell_regrown ea
            have gc:=cell_regrown x1
            have gp1:=cell_regrown y1
            have gp2:=cell_regrown y2
            have gp3:=cell_regrown y3
            have gp4:=cell_regrown y4
            have HQ6:=hide (fun (d:Nat) (os:Array Obj)=>Calls.regrown_of (HQc.out (grow (redrawn w6 d) os) (B16.out.trans ((below_regrown w6 d os).mono B16.out.size))))
            have HAt:=hide (fun (i:Nat) (h:i < p.bs.length)=>(show ∃ bv,BkAt w1 b (off+i * 14) p.bs[i] bv/\RdK w1 p.bs[i] bv from hat i h))
            clear ka kb ra rb hat t0 t2 ea x1 y1 y2 y3 y4 bz hw6 k6 b56 hcap HQc HK1 B15
            generalize bkC (p.bs[p.bs.length - 1]'(by omega)) vb=db at RG IE H1 Hth Hw6
            generalize (p.bs[p.bs.length - 2]'(by omega)).rd=ra at ga HRa hwJ
            generalize (p.bs[p.bs.length - 1]'(by omega)).rd=rb at g2 hwJ
            generalize (p.bs[p.bs.length - 1]'(by omega)).id=ib at g0
            have hwr:IntKind.i64.wrap (ra+1)=ra+1:=by have:=HRa.out;rw [IntKind.wrap_i64];omega
            have hwr2:wrap64 (ra+1)=ra+1:=by have:=HRa.out;unfold wrap64;omega
            go_upto_region 6 with (first
              | (refine wpList_load_mid rfl 92 _ rfl b (off+(p.bs.length - 1) * 14) rfl db _ RG.out Tryz.underlying92 rfl IE.out ?_)
              | (refine wpList_store_mid rfl 92 _ _ rfl w5.heap.size 0 db.toArray rfl rfl Hth.out (by simpa using IE.out) H1.out ?_;rw [Hw6.out])
              | fail)
            refine wp_region_quiet_below (by kernel_rfl) (by kernel_rfl) ?_
            (try dsimp only [List.append])
            (try simp only [Act.put])
            iterate 35 (go_big_quiet_step (first | (go_at_call 36;exact HQ6.out _ _)))
            refine wpQuiet_nil ?_
            intro _ hw'
            obtain ⟨⟨dq,osq⟩,hw''⟩:=hw'
            subst hw''
            have hb7:=below_regrown w6 dq osq
            obtain ⟨w7,hw7⟩:∃ x,grow (redrawn w6 dq) osq=x:=⟨_,rfl⟩
            rw [hw7] at hb7 ⊢
            have B17:=hide (B16.out.trans (hb7.mono B16.out.size))
            have kC:=hide (kC.out.below hb7 kC.out.lt)
            have kP:=hide (kP.out.below hb7 kP.out.lt)
            have kR:=hide (kR.out.below hb7 kR.out.lt)
            have kT:=hide (kT.out.below hb7 kT.out.lt)
            have HO:=hide (HO.out.below hb7 (Nat.le_refl _))
            clear hw7 hb7 g0 g2 ga gc gp1 gp2 gp3 gp4 u1 HQ6 B16 RG IE H1 Hth Hw6 hwr hwr2
            have f0:=kT.out.cell 0
            have f1:=kT.out.cell 1
            have r0:=kR.out.cell 0
            have r1:=kR.out.cell 1
            have g0:=kR.out.frozen 0
            have g1:=kR.out.frozen 1
            simp only [List.getElem?_cons_zero,List.getElem?_cons_succ] at f0 f1 r0 r1
            have HOx:=hide (((HO.out.olderC (g:=w.heap.size+1+1) hz1 0 (.int .i64 e)).olderC (g:=w.heap.size+1+1) hz1 1 (.slice a2 st.length c2)).mono (show w.heap.size<=w1.heap.size by omega))
            have HBx:=hide (((B1.out.trans (B17.out.mono B1.out.size)).setCell (p:=⟨w.heap.size+1+1,0,none⟩) (show w.heap.size<=w.heap.size+1+1 by omega) (.int .i64 e)).setCell (p:=⟨w.heap.size+1+1,1,none⟩) (show w.heap.size<=w.heap.size+1+1 by omega) (.slice a2 st.length c2))
            clear kC kP kR kT HO B1 B17
            go_wp2
            refine bodyPost_ret (v:=.tuple #[.agg #[.int .i64 e,.slice a2 st.length c2],.bool false]) (by simp [results,Tryz.f8,go_sem,r0,r1]) rfl ?_
            exact ⟨_,rfl,HOx.out,HBx.out⟩
          · rw [hJ] at HU hwJ
            rw [Bool.true_and] at HU
            rw [Bool.not_true] at hwJ
            clear hJ
            cases YQ
            · rw [Bool.and_false,Bool.and_false,Bool.false_and] at HU
              have hX:clB e st p=false:=HU.out
              clear HIs HU HN HNe
              rw [show clE e st p=e from by unfold clE;rw [if_neg (by rw [hX];decide)],show clS e st p=st from by unfold clS;rw [if_neg (by rw [hX];decide)],hX]
              clear hX
              go_enter Tryz.func8,Tryz.ntmps8
              go_upto_region 1 with fail
              (try rw [hw1])
              clear hw1
              go_wp2_with fail
              refine HCp.out.mono ?_
              rintro en w2 ⟨v2,rfl,o2,hb2⟩
              obtain ⟨a2,c2,hv2⟩:=o2.rd.shape
              subst hv2
              obtain ⟨w3,hw3⟩:∃ x,w2.alloc (.cells #[.int .i64 e,.slice a2 st.length c2] 35)=x:=⟨_,rfl⟩
              have b23:Below w2.heap.size w2 w3:=by rw [<- hw3];exact (Below.refl _ w2).alloc (Nat.le_refl _) _
              have kT:=hide (show Blk w3 w2.heap.size 35 [.int .i64 e,.slice a2 st.length c2] from by rw [<- hw3];exact Blk.new w2 _ _)
              have b13:=hb2.trans (b23.mono hb2.size)
              have hz2:=hb2.size
              have HCp:=trivial
              have kC:=hide (kC.out.below b13 kC.out.lt)
              have kP:=hide (kP.out.below b13 kP.out.lt)
              have kR:=hide (kR.out.below b13 kR.out.lt)
              have HO:=hide (o2.below b23 (Nat.le_refl _))
              have B13:=hide b13
              have x0:=kC.out.cell 0
              have x1:=kC.out.cell 1
              have y0:=kP.out.cell 0
              have y1:=kP.out.cell 1
              simp only [List.getElem?_cons_zero,List.getElem?_cons_succ] at x0 x1 y0 y1
              have HSt:=hide (HSt.out w3 b13)
              have Hw3:=hide hw3
              clear hw3 b13 b23 hb2 o2 v0 v1 HCp
              go_upto_region 2 with fail
              rw [Hw3.out]
              clear Hw3
              go_upto_region 3 with fail
              go_wp2_with fail
              refine HSt.out.mono ?_
              rintro en w4 ⟨rfl,hb4⟩
              have B14:=hide (B13.out.trans (hb4.mono B13.out.size))
              have kC:=hide (kC.out.below hb4 kC.out.lt)
              have kP:=hide (kP.out.below hb4 kP.out.lt)
              have kR:=hide (kR.out.below hb4 kR.out.lt)
              have kT:=hide (kT.out.below hb4 kT.out.lt)
              have HO:=hide (HO.out.below hb4 (Nat.le_refl _))
              have x0:=kC.out.cell 0
              have x1:=kC.out.cell 1
              have y0:=kP.out.cell 0
              have y1:=kP.out.cell 1
              simp only [List.getElem?_cons_zero,List.getElem?_cons_succ] at x0 x1 y0 y1
              clear HSt hb4 B13
              have HL:=hide (HLk.out w4 B14.out)
              clear HLk
              go_wp2_with fail
              refine HL.out.mono ?_
              rintro en w5 ⟨rfl,hb5⟩
              have B15:=hide (B14.out.trans (hb5.mono B14.out.size))
              have kC:=hide (kC.out.below hb5 kC.out.lt)
              have kP:=hide (kP.out.below hb5 kP.out.lt)
              have kR:=hide (kR.out.below hb5 kR.out.lt)
              have kT:=hide (kT.out.below hb5 kT.out.lt)
              have HO:=hide (HO.out.below hb5 (Nat.le_refl _))
              clear x0 x1 y0 y1 hb5 B14 HL
              obtain ⟨b,off,hab,hbw,hcap,hat⟩:=HK1.out.atC (by omega)
              subst hab
              obtain ⟨va,ka,ra⟩:=hat (p.bs.length - 2) (by omega)
              obtain ⟨vb,kb,rb⟩:=hat (p.bs.length - 1) (by omega)
              have hi1:(0:Int)<=(p.bs.length:Int) - 1:=by omega
              have hi2:(0:Int)<=(p.bs.length:Int) - 2:=by omega
              have hi3:(p.bs.length:Int) - 1 < (p.bs.length:Int):=by omega
              have hi4:(p.bs.length:Int) - 2 < (p.bs.length:Int):=by omega
              have RG:=hide (range_below kb.range B15.out hbw)
              have IE:=hide (show (Tryz.prog.info? 92).map (·.size)=some (bkC (p.bs[p.bs.length - 1]'(by omega)) vb).length from Tryz.infoA14)
              have H1:=hide (show (bkC (p.bs[p.bs.length - 1]'(by omega)) vb).toArray.all (·.oneCell')=true from by rw [List.all_toArray];exact bkC_one rb)
              have bz:Blk (w5.alloc (.cells #[.int .i64 0,.int .i64 0,.int .i64 0,.string { data:=#[] },.int .i64 0,.int .i64 0,.slice none 0 0,.int .i64 0,.slice none 0 0,.slice none 0 0,.slice none 0 0,.bool false,.slice none 0 0,.string { data:=#[] }] 92)) w5.heap.size 92 [.int .i64 0,.int .i64 0,.int .i64 0,.string { data:=#[] },.int .i64 0,.int .i64 0,.slice none 0 0,.int .i64 0,.slice none 0 0,.slice none 0 0,.slice none 0 0,.bool false,.slice none 0 0,.string { data:=#[] }]:=Blk.new w5 _ _
              have Hth:=hide (show (w5.alloc (.cells #[.int .i64 0,.int .i64 0,.int .i64 0,.string { data:=#[] },.int .i64 0,.int .i64 0,.slice none 0 0,.int .i64 0,.slice none 0 0,.slice none 0 0,.slice none 0 0,.bool false,.slice none 0 0,.string { data:=#[] }] 92)).there w5.heap.size 0 (bkC (p.bs[p.bs.length - 1]'(by omega)) vb).toArray.size from bz.there (by rw [List.size_toArray];rfl))
              obtain ⟨w6,hw6⟩:∃ x,(w5.alloc (.cells #[.int .i64 0,.int .i64 0,.int .i64 0,.string { data:=#[] },.int .i64 0,.int .i64 0,.slice none 0 0,.int .i64 0,.slice none 0 0,.slice none 0 0,.slice none 0 0,.bool false,.slice none 0 0,.string { data:=#[] }] 92)).setCells w5.heap.size 0 (bkC (p.bs[p.bs.length - 1]'(by omega)) vb)=x:=⟨_,rfl⟩
              have k6:Blk w6 w5.heap.size 92 (bkC (p.bs[p.bs.length - 1]'(by omega)) vb):=by rw [<- hw6];exact blk_all bz rfl
              have b56:Below w5.heap.size w5 w6:=by rw [<- hw6];exact ((Below.refl _ w5).alloc (Nat.le_refl _) _).trans (putC_below (Nat.le_refl _) _ _ _)
              have Hw6:=hide hw6
              have u1:=kP.out.cell 1
              have t0:w6.cell? ⟨w5.heap.size,0,none⟩=some (.int .i64 (p.bs[p.bs.length - 1]'(by omega)).id):=k6.cell 0
              have t2:w6.cell? ⟨w5.heap.size,2,none⟩=some (.int .i64 (p.bs[p.bs.length - 1]'(by omega)).rd):=k6.cell 2
              have B16:=hide (B15.out.trans (b56.mono B15.out.size))
              have kC:=hide (kC.out.below b56 kC.out.lt)
              have kP:=hide (kP.out.below b56 kP.out.lt)
              have kR:=hide (kR.out.below b56 kR.out.lt)
              have kT:=hide (kT.out.below b56 kT.out.lt)
              have HO:=hide (HO.out.below b56 (Nat.le_refl _))
              have ea:=(ka.below B16.out hbw).cells.2.2.1
              have hb6:=Nat.lt_of_lt_of_le hbw B16.out.size
              have x1:=kC.out.cell 1
              have y1:=kP.out.cell 1
              have y2:=kP.out.cell 2
              have y3:=kP.out.cell 3
              have y4:=kP.out.cell 4
              simp only [List.getElem?_cons_zero,List.getElem?_cons_succ] at x1 y1 y2 y3 y4 u1
              have g0:=cell_regrown t0
              have g2:=cell_regrown t2
              have ga:=cell_regrown ea
              have gc:=cell_regrown x1
              have gp1:=cell_regrown y1
              have gp2:=cell_regrown y2
              have gp3:=cell_regrown y3
              have gp4:=cell_regrown y4
              have HQ6:=hide (fun (d:Nat) (os:Array Obj)=>Calls.regrown_of (HQc.out (grow (redrawn w6 d) os) (B16.out.trans ((below_regrown w6 d os).mono B16.out.size))))
              have HAt:=hide (fun (i:Nat) (h:i < p.bs.length)=>(show ∃ bv,BkAt w1 b (off+i * 14) p.bs[i] bv/\RdK w1 p.bs[i] bv from hat i h))
              clear ka kb ra rb hat t0 t2 ea x1 y1 y2 y3 y4 bz hw6 k6 b56 hcap HQc HK1 B15
              generalize bkC (p.bs[p.bs.length - 1]'(by omega)) vb=db at RG IE H1 Hth Hw6
              generalize (p.bs[p.bs.length - 2]'(by omega)).rd=ra at ga HRa hwJ
              generalize (p.bs[p.bs.length - 1]'(by omega)).rd=rb at g2 hwJ
              generalize (p.bs[p.bs.length - 1]'(by omega)).id=ib at g0
              have hwr:IntKind.i64.wrap (ra+1)=ra+1:=by have:=HRa.out;rw [IntKind.wrap_i64];omega
              have hwr2:wrap64 (ra+1)=ra+1:=by have:=HRa.out;unfold wrap64;omega
              go_upto_region 6 with (first
                | (refine wpList_load_mid rfl 92 _ rfl b (off+(p.bs.length - 1) * 14) rfl db _ RG.out Tryz.underlying92 rfl IE.out ?_)
                | (refine wpList_store_mid rfl 92 _ _ rfl w5.heap.size 0 db.toArray rfl rfl Hth.out (by simpa using IE.out) H1.out ?_;rw [Hw6.out])
                | fail)
              refine wp_region_quiet_below (by kernel_rfl) (by kernel_rfl) ?_
              (try dsimp only [List.append])
              (try simp only [Act.put])
              iterate 35 (go_big_quiet_step (first | (go_at_call 36;exact HQ6.out _ _)))
              refine wpQuiet_nil ?_
              intro _ hw'
              obtain ⟨⟨dq,osq⟩,hw''⟩:=hw'
              subst hw''
              have hb7:=below_regrown w6 dq osq
              obtain ⟨w7,hw7⟩:∃ x,grow (redrawn w6 dq) osq=x:=⟨_,rfl⟩
              rw [hw7] at hb7 ⊢
              have B17:=hide (B16.out.trans (hb7.mono B16.out.size))
              have kC:=hide (kC.out.below hb7 kC.out.lt)
              have kP:=hide (kP.out.below hb7 kP.out.lt)
              have kR:=hide (kR.out.below hb7 kR.out.lt)
              have kT:=hide (kT.out.below hb7 kT.out.lt)
              have HO:=hide (HO.out.below hb7 (Nat.le_refl _))
              clear hw7 hb7 g0 g2 ga gc gp1 gp2 gp3 gp4 u1 HQ6 B16 RG IE H1 Hth Hw6 hwr hwr2
              have f0:=kT.out.cell 0
              have f1:=kT.out.cell 1
              have r0:=kR.out.cell 0
              have r1:=kR.out.cell 1
              have g0:=kR.out.frozen 0
              have g1:=kR.out.frozen 1
              simp only [List.getElem?_cons_zero,List.getElem?_cons_succ] at f0 f1 r0 r1
              have HOx:=hide (((HO.out.olderC (g:=w.heap.size+1+1) hz1 0 (.int .i64 e)).olderC (g:=w.heap.size+1+1) hz1 1 (.slice a2 st.length c2)).mono (show w.heap.size<=w1.heap.size by omega))
              have HBx:=hide (((B1.out.trans (B17.out.mono B1.out.size)).setCell (p:=⟨w.heap.size+1+1,0,none⟩) (show w.heap.size<=w.heap.size+1+1 by omega) (.int .i64 e)).setCell (p:=⟨w.heap.size+1+1,1,none⟩) (show w.heap.size<=w.heap.size+1+1 by omega) (.slice a2 st.length c2))
              clear kC kP kR kT HO B1 B17
              go_wp2
              refine bodyPost_ret (v:=.tuple #[.agg #[.int .i64 e,.slice a2 st.length c2],.bool false]) (by simp [results,Tryz.f8,go_sem,r0,r1]) rfl ?_
              exact ⟨_,rfl,HOx.out,HBx.out⟩
            · rw [Bool.and_true] at HU
              by_cases hR:p.qr=(p.bs[p.bs.length - 1]'(by omega)).rd
              · have hRb : (p.qr != (p.bs[p.bs.length - 1]'(by omega)).rd)=false:=by rw [hR];simp
                rw [decide_eq_true hR,Bool.and_true] at HU
                clear hR
                by_cases hB:p.qb=(p.bs[p.bs.length - 1]'(by omega)).id
                · have hBb:(p.qb != (p.bs[p.bs.length - 1]'(by omega)).id)=false:=by rw [hB];simp
                  rw [decide_eq_true hB,Bool.true_and] at HU
                  clear hB
                  cases hE:(p.bs.take (p.bs.length - 1)).any (fun x=>x.en)
                  · rw [hE] at HU
                    have HAny:=hide hE
                    clear hE
                    have hX:clB e st p=false:=HU.out
                    clear HIs HU HN HNe
                    rw [show clE e st p=e from by unfold clE;rw [if_neg (by rw [hX];decide)],show clS e st p=st from by unfold clS;rw [if_neg (by rw [hX];decide)],hX]
                    clear hX
                    go_enter Tryz.func8,Tryz.ntmps8
                    go_upto_region 1 with fail
                    (try rw [hw1])
                    clear hw1
                    go_wp2_with fail
                    refine HCp.out.mono ?_
                    rintro en w2 ⟨v2,rfl,o2,hb2⟩
                    obtain ⟨a2,c2,hv2⟩:=o2.rd.shape
                    subst hv2
                    obtain ⟨w3,hw3⟩:∃ x,w2.alloc (.cells #[.int .i64 e,.slice a2 st.length c2] 35)=x:=⟨_,rfl⟩
                    have b23:Below w2.heap.size w2 w3:=by rw [<- hw3];exact (Below.refl _ w2).alloc (Nat.le_refl _) _
                    have kT:=hide (show Blk w3 w2.heap.size 35 [.int .i64 e,.slice a2 st.length c2] from by rw [<- hw3];exact Blk.new w2 _ _)
                    have b13:=hb2.trans (b23.mono hb2.size)
                    have hz2:=hb2.size
                    have HCp:=trivial
                    have kC:=hide (kC.out.below b13 kC.out.lt)
                    have kP:=hide (kP.out.below b13 kP.out.lt)
                    have kR:=hide (kR.out.below b13 kR.out.lt)
                    have HO:=hide (o2.below b23 (Nat.le_refl _))
                    have B13:=hide b13
                    have x0:=kC.out.cell 0
                    have x1:=kC.out.cell 1
                    have y0:=kP.out.cell 0
                    have y1:=kP.out.cell 1
                    simp only [List.getElem?_cons_zero,List.getElem?_cons_succ] at x0 x1 y0 y1
                    have HSt:=hide (HSt.out w3 b13)
                    have Hw3:=hide hw3
                    clear hw3 b13 b23 hb2 o2 v0 v1 HCp
                    go_upto_region 2 with fail
                    rw [Hw3.out]
                    clear Hw3
                    go_upto_region 3 with fail
                    go_wp2_with fail
                    refine HSt.out.mono ?_
                    rintro en w4 ⟨rfl,hb4⟩
                    have B14:=hide (B13.out.trans (hb4.mono B13.out.size))
                    have kC:=hide (kC.out.below hb4 kC.out.lt)
                    have kP:=hide (kP.out.below hb4 kP.out.lt)
                    have kR:=hide (kR.out.below hb4 kR.out.lt)
                    have kT:=hide (kT.out.below hb4 kT.out.lt)
                    have HO:=hide (HO.out.below hb4 (Nat.le_refl _))
                    have x0:=kC.out.cell 0
                    have x1:=kC.out.cell 1
                    have y0:=kP.out.cell 0
                    have y1:=kP.out.cell 1
                    simp only [List.getElem?_cons_zero,List.getElem?_cons_succ] at x0 x1 y0 y1
                    clear HSt hb4 B13
                    have HL:=hide (HLk.out w4 B14.out)
                    clear HLk
                    go_wp2_with fail
                    refine HL.out.mono ?_
                    rintro en w5 ⟨rfl,hb5⟩
                    have B15:=hide (B14.out.trans (hb5.mono B14.out.size))
                    have kC:=hide (kC.out.below hb5 kC.out.lt)
                    have kP:=hide (kP.out.below hb5 kP.out.lt)
                    have kR:=hide (kR.out.below hb5 kR.out.lt)
                    have kT:=hide (kT.out.below hb5 kT.out.lt)
                    have HO:=hide (HO.out.below hb5 (Nat.le_refl _))
                    clear x0 x1 y0 y1 hb5 B14 HL
                    obtain ⟨b,off,hab,hbw,hcap,hat⟩:=HK1.out.atC (by omega)
                    subst hab
                    obtain ⟨va,ka,ra⟩:=hat (p.bs.length - 2) (by omega)
                    obtain ⟨vb,kb,rb⟩:=hat (p.bs.length - 1) (by omega)
                    have hi1:(0:Int)<=(p.bs.length:Int) - 1:=by omega
                    have hi2:(0:Int)<=(p.bs.length:Int) - 2:=by omega
                    have hi3:(p.bs.length:Int) - 1 < (p.bs.length:Int):=by omega
                    have hi4:(p.bs.length:Int) - 2 < (p.bs.length:Int):=by omega
                    have RG:=hide (range_below kb.range B15.out hbw)
                    have IE:=hide (show (Tryz.prog.info? 92).map (·.size)=some (bkC (p.bs[p.bs.length - 1]'(by omega)) vb).length from Tryz.infoA14)
                    have H1:=hide (show (bkC (p.bs[p.bs.length - 1]'(by omega)) vb).toArray.all (·.oneCell')=true from by rw [List.all_toArray];exact bkC_one rb)
                    have bz:Blk (w5.alloc (.cells #[.int .i64 0,.int .i64 0,.int .i64 0,.string { data:=#[] },.int .i64 0,.int .i64 0,.slice none 0 0,.int .i64 0,.slice none 0 0,.slice none 0 0,.slice none 0 0,.bool false,.slice none 0 0,.string { data:=#[] }] 92)) w5.heap.size 92 [.int .i64 0,.int .i64 0,.int .i64 0,.string { data:=#[] },.int .i64 0,.int .i64 0,.slice none 0 0,.int .i64 0,.slice none 0 0,.slice none 0 0,.slice none 0 0,.bool false,.slice none 0 0,.string { data:=#[] }]:=Blk.new w5 _ _
                    have Hth:=hide (show (w5.alloc (.cells #[.int .i64 0,.int .i64 0,.int .i64 0,.string { data:=#[] },.int .i64 0,.int .i64 0,.slice none 0 0,.int .i64 0,.slice none 0 0,.slice none 0 0,.slice none 0 0,.bool false,.slice none 0 0,.string { data:=#[] }] 92)).there w5.heap.size 0 (bkC (p.bs[p.bs.length - 1]'(by omega)) vb).toArray.size from bz.there (by rw [List.size_toArray];rfl))
                    obtain ⟨w6,hw6⟩:∃ x,(w5.alloc (.cells #[.int .i64 0,.int .i64 0,.int .i64 0,.string { data:=#[] },.int .i64 0,.int .i64 0,.slice none 0 0,.int .i64 0,.slice none 0 0,.slice none 0 0,.slice none 0 0,.bool false,.slice none 0 0,.string { data:=#[] }] 92)).setCells w5.heap.size 0 (bkC (p.bs[p.bs.length - 1]'(by omega)) vb)=x:=⟨_,rfl⟩
                    have k6:Blk w6 w5.heap.size 92 (bkC (p.bs[p.bs.length - 1]'(by omega)) vb):=by rw [<- hw6];exact blk_all bz rfl
                    have b56:Below w5.heap.size w5 w6:=by rw [<- hw6];exact ((Below.refl _ w5).alloc (Nat.le_refl _) _).trans (putC_below (Nat.le_refl _) _ _ _)
                    have Hw6:=hide hw6
                    have u1:=kP.out.cell 1
                    have t0:w6.cell? ⟨w5.heap.size,0,none⟩=some (.int .i64 (p.bs[p.bs.length - 1]'(by omega)).id):=k6.cell 0
                    have t2:w6.cell? ⟨w5.heap.size,2,none⟩=some (.int .i64 (p.bs[p.bs.length - 1]'(by omega)).rd):=k6.cell 2
                    have B16:=hide (B15.out.trans (b56.mono B15.out.size))
                    have kC:=hide (kC.out.below b56 kC.out.lt)
                    have kP:=hide (kP.out.below b56 kP.out.lt)
                    have kR:=hide (kR.out.below b56 kR.out.lt)
                    have kT:=hide (kT.out.below b56 kT.out.lt)
                    have HO:=hide (HO.out.below b56 (Nat.le_refl _))
                    have ea:=(ka.below B16.out hbw).cells.2.2.1
                    have hb6:=Nat.lt_of_lt_of_le hbw B16.out.size
                    have x1:=kC.out.cell 1
                    have y1:=kP.out.cell 1
                    have y2:=kP.out.cell 2
                    have y3:=kP.out.cell 3
                    have y4:=kP.out.cell 4
                    simp only [List.getElem?_cons_zero,List.getElem?_cons_succ] at x1 y1 y2 y3 y4 u1
                    have g0:=cell_regrown t0
                    have g2:=cell_regrown t2
                    have ga:=cell_regrown ea
                    have gc:=cell_regrown x1
                    have gp1:=cell_regrown y1
                    have gp2:=cell_regrown y2
                    have gp3:=cell_regrown y3
                    have gp4:=cell_regrown y4
                    have HQ6:=hide (fun (d:Nat) (os:Array Obj)=>Calls.regrown_of (HQc.out (grow (redrawn w6 d) os) (B16.out.trans ((below_regrown w6 d os).mono B16.out.size))))
                    have HAt:=hide (fun (i:Nat) (h:i < p.bs.length)=>(show ∃ bv,BkAt w1 b (off+i * 14) p.bs[i] bv/\RdK w1 p.bs[i] bv from hat i h))
                    clear ka kb ra rb hat t0 t2 ea x1 y1 y2 y3 y4 bz hw6 k6 b56 hcap HQc HK1 B15
                    generalize bkC (p.bs[p.bs.length - 1]'(by omega)) vb=db at RG IE H1 Hth Hw6
                    generalize (p.bs[p.bs.length - 2]'(by omega)).rd=ra at ga HRa hwJ
                    generalize (p.bs[p.bs.length - 1]'(by omega)).rd=rb at g2 hwJ hRb
                    generalize (p.bs[p.bs.length - 1]'(by omega)).id=ib at g0 hBb
                    have hwr:IntKind.i64.wrap (ra+1)=ra+1:=by have:=HRa.out;rw [IntKind.wrap_i64];omega
                    have hwr2:wrap64 (ra+1)=ra+1:=by have:=HRa.out;unfold wrap64;omega
                    go_upto_region 6 with (first
                      | (refine wpList_load_mid rfl 92 _ rfl b (off+(p.bs.length - 1) * 14) rfl db _ RG.out Tryz.underlying92 rfl IE.out ?_)
                      | (refine wpList_store_mid rfl 92 _ _ rfl w5.heap.size 0 db.toArray rfl rfl Hth.out (by simpa using IE.out) H1.out ?_;rw [Hw6.out])
                      | fail)
                    refine wp_region_quiet_below (by kernel_rfl) (by kernel_rfl) ?_
                    (try dsimp only [List.append])
                    (try simp only [Act.put])
                    iterate 35 (go_big_quiet_step (first | (go_at_call 36;exact HQ6.out _ _)))
                    refine wpQuiet_nil ?_
                    intro _ hw'
                    obtain ⟨⟨dq,osq⟩,hw''⟩:=hw'
                    subst hw''
                    have hb7:=below_regrown w6 dq osq
                    obtain ⟨w7,hw7⟩:∃ x,grow (redrawn w6 dq) osq=x:=⟨_,rfl⟩
                    rw [hw7] at hb7 ⊢
                    have B17:=hide (B16.out.trans (hb7.mono B16.out.size))
                    have kC:=hide (kC.out.below hb7 kC.out.lt)
                    have kP:=hide (kP.out.below hb7 kP.out.lt)
                    have kR:=hide (kR.out.below hb7 kR.out.lt)
                    have kT:=hide (kT.out.below hb7 kT.out.lt)
                    have HO:=hide (HO.out.below hb7 (Nat.le_refl _))
                    clear hw7 hb7 g0 g2 ga gc gp1 gp2 gp3 gp4 u1 HQ6 B16 RG IE H1 Hth Hw6 hwr hwr2
                    have z1:=kP.out.cell 1
                    simp only [List.getElem?_cons_zero,List.getElem?_cons_succ] at z1
                    go_wp2
                    go_loopw [9] (fun iv wr=>∃ k:Nat,k<=p.bs.length - 1/\iv=.int .i64 (k:Int)/\(∀ j (h:j < p.bs.length),j < k->p.bs[j].en=false)/\wr=w7) (fun iv _=>p.bs.length - (intOf iv).toNat)
                    case atStart=>exact ⟨0,by omega,rfl,fun j _ h=>by omega,rfl⟩
                    case round =>
                      obtain ⟨k,hk,rfl,hno,rfl⟩:=hrel
                      have Hno:=hide hno
                      clear hno
                      by_cases hlt:k < p.bs.length - 1
                      · have hli:(k:Int) < (p.bs.length:Int) - 1:=by omega
                        have hlj:(k:Int) < (p.bs.length:Int):=by omega
                        obtain ⟨bv,hk1,hrk⟩:=HAt.out k (by omega)
                        have hk7:=hk1.below B17.out hbw
                        have en7:=hk7.cells.2.2.2.2.2.2.2.2.2.2.2.1
                        cases hen:(p.bs[k]'(by omega)).en
                        · skip
                          have Hn2:=hide (show ∀ j (h:j < p.bs.length),j < k+1->p.bs[j].en=false from fun j h hj=>by
                            rcases Nat.lt_succ_iff_lt_or_eq.1 hj with h' | h'
                            · exact Hno.out j h h'
                            · subst h';exact hen)
                          rw [hen] at en7
                          clear Hno hen hk1 hrk hk7
                          go_wp2
                          go_roundw
                          case rel=>exact ⟨k+1,by omega,by go_num,Hn2.out,by trivial⟩
                          case measure=>simp [intOf];omega
                        · have hA:=HAny.out
                          rw [List.any_eq_false] at hA
                          exact absurd hen (hA _ (List.mem_iff_getElem.2 ⟨k,by rw [List.length_take];omega,by rw [List.getElem_take]⟩))
                      · have hle:¬ ((k:Int) < (p.bs.length:Int) - 1):=by omega
                        clear Hno HAt HAny
                        have f0:=kT.out.cell 0
                        have f1:=kT.out.cell 1
                        have r0:=kR.out.cell 0
                        have r1:=kR.out.cell 1
                        have g0:=kR.out.frozen 0
                        have g1:=kR.out.frozen 1
                        simp only [List.getElem?_cons_zero,List.getElem?_cons_succ] at f0 f1 r0 r1
                        have HOx:=hide (((HO.out.olderC (g:=w.heap.size+1+1) hz1 0 (.int .i64 e)).olderC (g:=w.heap.size+1+1) hz1 1 (.slice a2 st.length c2)).mono (show w.heap.size<=w1.heap.size by omega))
                        have HBx:=hide (((B1.out.trans (B17.out.mono B1.out.size)).setCell (p:=⟨w.heap.size+1+1,0,none⟩) (show w.heap.size<=w.heap.size+1+1 by omega) (.int .i64 e)).setCell (p:=⟨w.heap.size+1+1,1,none⟩) (show w.heap.size<=w.heap.size+1+1 by omega) (.slice a2 st.length c2))
                        go_wp2
                        refine bodyPost_ret (v:=.tuple #[.agg #[.int .i64 e,.slice a2 st.length c2],.bool false]) (by simp [results,Tryz.f8,go_sem,r0,r1]) rfl ?_
                        exact ⟨_,rfl,HOx.out,HBx.out⟩
                  · rw [hE] at HU
                    have HAny:=hide hE
                    have hX:clB e st p=true:=HU.out
                    obtain ⟨he0,he9⟩:=HIs.out HU.out
                    have hew:IntKind.i64.wrap (e+1)=e+1:=by rw [IntKind.wrap_i64];omega
                    clear hE HIs HU
                    rw [show clE e st p=e+1 from by unfold clE;rw [if_pos hX],show clS e st p=enN p.bs from by unfold clS;rw [if_pos hX],hX]
                    clear hX
                    go_enter Tryz.func8,Tryz.ntmps8
                    go_upto_region 1 with fail
                    (try rw [hw1])
                    clear hw1
                    go_wp2_with fail
                    refine HCp.out.mono ?_
                    rintro en w2 ⟨v2,rfl,o2,hb2⟩
                    obtain ⟨a2,c2,hv2⟩:=o2.rd.shape
                    subst hv2
                    obtain ⟨w3,hw3⟩:∃ x,w2.alloc (.cells #[.int .i64 e,.slice a2 st.length c2] 35)=x:=⟨_,rfl⟩
                    have b23:Below w2.heap.size w2 w3:=by rw [<- hw3];exact (Below.refl _ w2).alloc (Nat.le_refl _) _
                    have kT:=hide (show Blk w3 w2.heap.size 35 [.int .i64 e,.slice a2 st.length c2] from by rw [<- hw3];exact Blk.new w2 _ _)
                    have b13:=hb2.trans (b23.mono hb2.size)
                    have hz2:=hb2.size
                    have HCp:=trivial
                    have kC:=hide (kC.out.below b13 kC.out.lt)
                    have kP:=hide (kP.out.below b13 kP.out.lt)
                    have kR:=hide (kR.out.below b13 kR.out.lt)
                    have HO:=hide (o2.below b23 (Nat.le_refl _))
                    have B13:=hide b13
                    have x0:=kC.out.cell 0
                    have x1:=kC.out.cell 1
                    have y0:=kP.out.cell 0
                    have y1:=kP.out.cell 1
                    simp only [List.getElem?_cons_zero,List.getElem?_cons_succ] at x0 x1 y0 y1
                    have HSt:=hide (HSt.out w3 b13)
                    have Hw3:=hide hw3
                    clear hw3 b13 b23 hb2 o2 v0 v1 HCp
                    go_upto_region 2 with fail
                    rw [Hw3.out]
                    clear Hw3
                    go_upto_region 3 with fail
                    go_wp2_with fail
                    refine HSt.out.mono ?_
                    rintro en w4 ⟨rfl,hb4⟩
                    have B14:=hide (B13.out.trans (hb4.mono B13.out.size))
                    have kC:=hide (kC.out.below hb4 kC.out.lt)
                    have kP:=hide (kP.out.below hb4 kP.out.lt)
                    have kR:=hide (kR.out.below hb4 kR.out.lt)
                    have kT:=hide (kT.out.below hb4 kT.out.lt)
                    have HO:=hide (HO.out.below hb4 (Nat.le_refl _))
                    have x0:=kC.out.cell 0
                    have x1:=kC.out.cell 1
                    have y0:=kP.out.cell 0
                    have y1:=kP.out.cell 1
                    simp only [List.getElem?_cons_zero,List.getElem?_cons_succ] at x0 x1 y0 y1
                    clear HSt hb4 B13
                    have HL:=hide (HLk.out w4 B14.out)
                    clear HLk
                    go_wp2_with fail
                    refine HL.out.mono ?_
                    rintro en w5 ⟨rfl,hb5⟩
                    have B15:=hide (B14.out.trans (hb5.mono B14.out.size))
                    have kC:=hide (kC.out.below hb5 kC.out.lt)
                    have kP:=hide (kP.out.below hb5 kP.out.lt)
                    have kR:=hide (kR.out.below hb5 kR.out.lt)
                    have kT:=hide (kT.out.below hb5 kT.out.lt)
                    have HO:=hide (HO.out.below hb5 (Nat.le_refl _))
                    clear x0 x1 y0 y1 hb5 B14 HL
                    obtain ⟨b,off,hab,hbw,hcap,hat⟩:=HK1.out.atC (by omega)
                    subst hab
                    obtain ⟨va,ka,ra⟩:=hat (p.bs.length - 2) (by omega)
                    obtain ⟨vb,kb,rb⟩:=hat (p.bs.length - 1) (by omega)
                    have hi1:(0:Int)<=(p.bs.length:Int) - 1:=by omega
                    have hi2:(0:Int)<=(p.bs.length:Int) - 2:=by omega
                    have hi3:(p.bs.length:Int) - 1 < (p.bs.length:Int):=by omega
                    have hi4:(p.bs.length:Int) - 2 < (p.bs.length:Int):=by omega
                    have RG:=hide (range_below kb.range B15.out hbw)
                    have IE:=hide (show (Tryz.prog.info? 92).map (·.size)=some (bkC (p.bs[p.bs.length - 1]'(by omega)) vb).length from Tryz.infoA14)
                    have H1:=hide (show (bkC (p.bs[p.bs.length - 1]'(by omega)) vb).toArray.all (·.oneCell')=true from by rw [List.all_toArray];exact bkC_one rb)
                    have bz:Blk (w5.alloc (.cells #[.int .i64 0,.int .i64 0,.int .i64 0,.string { data:=#[] },.int .i64 0,.int .i64 0,.slice none 0 0,.int .i64 0,.slice none 0 0,.slice none 0 0,.slice none 0 0,.bool false,.slice none 0 0,.string { data:=#[] }] 92)) w5.heap.size 92 [.int .i64 0,.int .i64 0,.int .i64 0,.string { data:=#[] },.int .i64 0,.int .i64 0,.slice none 0 0,.int .i64 0,.slice none 0 0,.slice none 0 0,.slice none 0 0,.bool false,.slice none 0 0,.string { data:=#[] }]:=Blk.new w5 _ _
                    have Hth:=hide (show (w5.alloc (.cells #[.int .i64 0,.int .i64 0,.int .i64 0,.string { data:=#[] },.int .i64 0,.int .i64 0,.slice none 0 0,.int .i64 0,.slice none 0 0,.slice none 0 0,.slice none 0 0,.bool false,.slice none 0 0,.string { data:=#[] }] 92)).there w5.heap.size 0 (bkC (p.bs[p.bs.length - 1]'(by omega)) vb).toArray.size from bz.there (by rw [List.size_toArray];rfl))
                    obtain ⟨w6,hw6⟩:∃ x,(w5.alloc (.cells #[.int .i64 0,.int .i64 0,.int .i64 0,.string { data:=#[] },.int .i64 0,.int .i64 0,.slice none 0 0,.int .i64 0,.slice none 0 0,.slice none 0 0,.slice none 0 0,.bool false,.slice none 0 0,.string { data:=#[] }] 92)).setCells w5.heap.size 0 (bkC (p.bs[p.bs.length - 1]'(by omega)) vb)=x:=⟨_,rfl⟩
                    have k6:Blk w6 w5.heap.size 92 (bkC (p.bs[p.bs.length - 1]'(by omega)) vb):=by rw [<- hw6];exact blk_all bz rfl
                    have b56:Below w5.heap.size w5 w6:=by rw [<- hw6];exact ((Below.refl _ w5).alloc (Nat.le_refl _) _).trans (putC_below (Nat.le_refl _) _ _ _)
                    have Hw6:=hide hw6
                    have u1:=kP.out.cell 1
                    have t0:w6.cell? ⟨w5.heap.size,0,none⟩=some (.int .i64 (p.bs[p.bs.length - 1]'(by omega)).id):=k6.cell 0
                    have t2:w6.cell? ⟨w5.heap.size,2,none⟩=some (.int .i64 (p.bs[p.bs.length - 1]'(by omega)).rd):=k6.cell 2
                    have B16:=hide (B15.out.trans (b56.mono B15.out.size))
                    have kC:=hide (kC.out.below b56 kC.out.lt)
                    have kP:=hide (kP.out.below b56 kP.out.lt)
                    have kR:=hide (kR.out.below b56 kR.out.lt)
                    have kT:=hide (kT.out.below b56 kT.out.lt)
                    have HO:=hide (HO.out.below b56 (Nat.le_refl _))
                    have ea:=(ka.below B16.out hbw).cells.2.2.1
                    have hb6:=Nat.lt_of_lt_of_le hbw B16.out.size
                    have x1:=kC.out.cell 1
                    have y1:=kP.out.cell 1
                    have y2:=kP.out.cell 2
                    have y3:=kP.out.cell 3
                    have y4:=kP.out.cell 4
                    simp only [List.getElem?_cons_zero,List.getElem?_cons_succ] at x1 y1 y2 y3 y4 u1
                    have g0:=cell_regrown t0
                    have g2:=cell_regrown t2
                    have ga:=cell_regrown ea
                    have gc:=cell_regrown x1
                    have gp1:=cell_regrown y1
                    have gp2:=cell_regrown y2
                    have gp3:=cell_regrown y3
                    have gp4:=cell_regrown y4
                    have HQ6:=hide (fun (d:Nat) (os:Array Obj)=>Calls.regrown_of (HQc.out (grow (redrawn w6 d) os) (B16.out.trans ((below_regrown w6 d os).mono B16.out.size))))
                    have HAt:=hide (fun (i:Nat) (h:i < p.bs.length)=>(show ∃ bv,BkAt w1 b (off+i * 14) p.bs[i] bv/\RdK w1 p.bs[i] bv from hat i h))
                    clear ka kb ra rb hat t0 t2 ea x1 y1 y2 y3 y4 bz hw6 k6 b56 hcap HQc HK1 B15
                    generalize bkC (p.bs[p.bs.length - 1]'(by omega)) vb=db at RG IE H1 Hth Hw6
                    generalize (p.bs[p.bs.length - 2]'(by omega)).rd=ra at ga HRa hwJ
                    generalize (p.bs[p.bs.length - 1]'(by omega)).rd=rb at g2 hwJ hRb
                    generalize (p.bs[p.bs.length - 1]'(by omega)).id=ib at g0 hBb
                    have hwr:IntKind.i64.wrap (ra+1)=ra+1:=by have:=HRa.out;rw [IntKind.wrap_i64];omega
                    have hwr2:wrap64 (ra+1)=ra+1:=by have:=HRa.out;unfold wrap64;omega
                    go_upto_region 6 with (first
                      | (refine wpList_load_mid rfl 92 _ rfl b (off+(p.bs.length - 1) * 14) rfl db _ RG.out Tryz.underlying92 rfl IE.out ?_)
                      | (refine wpList_store_mid rfl 92 _ _ rfl w5.heap.size 0 db.toArray rfl rfl Hth.out (by simpa using IE.out) H1.out ?_;rw [Hw6.out])
                      | fail)
                    refine wp_region_quiet_below (by kernel_rfl) (by kernel_rfl) ?_
                    (try dsimp only [List.append])
                    (try simp only [Act.put])
                    iterate 35 (go_big_quiet_step (first | (go_at_call 36;exact HQ6.out _ _)))
                    refine wpQuiet_nil ?_
                    intro _ hw'
                    obtain ⟨⟨dq,osq⟩,hw''⟩:=hw'
                    subst hw''
                    have hb7:=below_regrown w6 dq osq
                    obtain ⟨w7,hw7⟩:∃ x,grow (redrawn w6 dq) osq=x:=⟨_,rfl⟩
                    rw [hw7] at hb7 ⊢
                    have B17:=hide (B16.out.trans (hb7.mono B16.out.size))
                    have kC:=hide (kC.out.below hb7 kC.out.lt)
                    have kP:=hide (kP.out.below hb7 kP.out.lt)
                    have kR:=hide (kR.out.below hb7 kR.out.lt)
                    have kT:=hide (kT.out.below hb7 kT.out.lt)
                    have HO:=hide (HO.out.below hb7 (Nat.le_refl _))
                    clear hw7 hb7 g0 g2 ga gc gp1 gp2 gp3 gp4 u1 HQ6 B16 RG IE H1 Hth Hw6 hwr hwr2
                    have z1:=kP.out.cell 1
                    simp only [List.getElem?_cons_zero,List.getElem?_cons_succ] at z1
                    go_wp2
                    go_loopw [9] (fun iv wr=>∃ k:Nat,k<=p.bs.length - 1/\iv=.int .i64 (k:Int)/\(∀ j (h:j < p.bs.length),j < k->p.bs[j].en=false)/\wr=w7) (fun iv _=>p.bs.length - (intOf iv).toNat)
                    case atStart=>exact ⟨0,by omega,rfl,fun j _ h=>by omega,rfl⟩
                    case round =>
                      obtain ⟨k,hk,rfl,hno,rfl⟩:=hrel
                      have Hno:=hide hno
                      clear hno
                      by_cases hlt:k < p.bs.length - 1
                      · have hli:(k:Int) < (p.bs.length:Int) - 1:=by omega
                        have hlj:(k:Int) < (p.bs.length:Int):=by omega
                        obtain ⟨bv,hk1,hrk⟩:=HAt.out k (by omega)
                        have hk7:=hk1.below B17.out hbw
                        have en7:=hk7.cells.2.2.2.2.2.2.2.2.2.2.2.1
                        cases hen:(p.bs[k]'(by omega)).en
                        · skip
                          have Hn2:=hide (show ∀ j (h:j < p.bs.length),j < k+1->p.bs[j].en=false from fun j h hj=>by
                            rcases Nat.lt_succ_iff_lt_or_eq.1 hj with h' | h'
                            · exact Hno.out j h h'
                            · subst h';exact hen)
                          rw [hen] at en7
                          clear Hno hen hk1 hrk hk7
                          go_wp2
                          go_roundw
                          case rel=>exact ⟨k+1,by omega,by go_num,Hn2.out,by trivial⟩
                          case measure=>simp [intOf];omega
                        · have HEN:=hide (show enN p.bs=(p.bs[k]'(by omega)).nx from by
                            unfold enN
                            rw [show p.bs.find? (fun x=>x.en)=some (p.bs[k]'(by omega)) from List.find?_eq_some_iff_getElem.2 ⟨hen,k,by omega,rfl,fun j hj=>by simp [Hno.out j (by omega) hj]⟩]
                            rfl)
                          rw [hen] at en7
                          obtain ⟨aN,cN,hvN⟩:=hrk.n.shape
                          have hn:=HN.out _ (List.getElem_mem (show k < p.bs.length by omega))
                          have hbr:=Nat.lt_of_lt_of_le hbw B17.out.size
                          have hne:b ≠ w.heap.size+1+1:=by have:=HNe.out b ⟨off,rfl⟩ (List.ne_nil_of_length_pos (by omega));omega
                          have cN7:∀ V,Below wr.heap.size wr V->V.cell? ⟨b,off+k * 14+12,none⟩=some (.slice aN (p.bs[k]'(by omega)).nx.length cN):=fun V hV=>by rw [<- hvN];exact (hk7.below hV hbr).cells.2.2.2.2.2.2.2.2.2.2.2.2.1
                          have bD:Below wr.heap.size wr wr.drew:=(Below.refl _ wr).drew
                          have HSS:=hide (fun V (hV:Below wr.heap.size wr V)=>(show V.cell? ⟨w.heap.size,0,none⟩=some (.int .i64 e)/\V.cell? ⟨w.heap.size+1,1,none⟩=some (.slice (some ⟨b,off,none⟩) p.bs.length cL)/\V.cell? ⟨b,off+k * 14+12,none⟩=some (.slice aN (p.bs[k]'(by omega)).nx.length cN) from ⟨(kC.out.below hV kC.out.lt).cell 0,(kP.out.below hV kP.out.lt).cell 1,cN7 V hV⟩))
                          have HST:=hide (fun V (x y:Value) (hV:Below wr.heap.size wr V)=>(show (V.setCells (w.heap.size+1+1) 0 [x,y]).cell? ⟨w.heap.size,0,none⟩=some (.int .i64 e)/\(V.setCells (w.heap.size+1+1) 0 [x,y]).cell? ⟨w.heap.size+1,1,none⟩=some (.slice (some ⟨b,off,none⟩) p.bs.length cL)/\(V.setCells (w.heap.size+1+1) 0 [x,y]).cell? ⟨b,off+k * 14+12,none⟩=some (.slice aN (p.bs[k]'(by omega)).nx.length cN) from by
                            have k1:=(kC.out.below hV kC.out.lt).not2 (g:=w.heap.size+1+1) (by omega) x y
                            have k2:=(kP.out.below hV kP.out.lt).not2 (g:=w.heap.size+1+1) (by omega) x y
                            exact ⟨k1.cell 0,k2.cell 1,by rw [cell_not2S _ _ _ hne];exact cN7 V hV⟩))
                          have HRR:=hide (fun V (hV:Below wr.heap.size wr V)=>kR.out.below hV kR.out.lt)
                          have hrn:=(hrk.n.below B17.out (Nat.le_refl _))
                          rw [hvN] at hrn
                          have HRd:=hide (fun V (hV:Below wr.heap.size wr V)=>hrn.below hV (Nat.le_refl _))
                          have HB2:=hide (B1.out.trans (B17.out.mono B1.out.size))
                          have hs2:w.heap.size+1+1 < wr.heap.size:=Nat.lt_of_lt_of_le hz1 B17.out.size
                          have hki:(k:Int) < (p.bs.length:Int):=hlj
                          clear Hno hen hk1 hrk hk7 hvN hrn HAt HAny kC kP kR kT HO B1 B17 cN7
                          generalize (p.bs[k]'(by omega)).nx=Y at HSS HST HRd HEN hn
                          go_upto_region 12 with fail
                          refine wp_region_held_drew (S:=fun W=>W.cell? ⟨w.heap.size,0,none⟩=some (.int .i64 e)/\W.cell? ⟨w.heap.size+1,1,none⟩=some (.slice (some ⟨b,off,none⟩) p.bs.length cL)/\W.cell? ⟨b,off+k * 14+12,none⟩=some (.slice aN Y.length cN)) (by kernel_rfl) (HSS.out _ bD) (fun hHeld=>?_)
                          refine wpAnyH_take (i:=0) (v:=.pointer (some ⟨w.heap.size,0,none⟩)) rfl (by kernel_rfl) (by kernel_rfl) (by kernel_rfl) (fun _ _ _ h=>h) (Or.inl ⟨by rfl,fun W hW=>by (obtain ⟨q0,q1,q2⟩:=hW;go_simp)⟩) (by assumption) ?_
                          change wpAnyH Tryz.prog _ _ _ _ _ _ (Act.put _ (some 92) _) _
                          simp only [Act.put,List.setIfInBounds_toArray,List.set_cons_zero,List.set_cons_succ]
                          refine wpAnyH_take (i:=1) (v:=.int .i64 e) rfl (by kernel_rfl) (by kernel_rfl) (by kernel_rfl) (fun _ _ _ h=>h) (Or.inl ⟨by rfl,fun W hW=>by (obtain ⟨q0,q1,q2⟩:=hW;go_simp)⟩) (by assumption) ?_
                          change wpAnyH Tryz.prog _ _ _ _ _ _ (Act.put _ (some 93) _) _
                          simp only [Act.put,List.setIfInBounds_toArray,List.set_cons_zero,List.set_cons_succ]
                          refine wpAnyH_take (i:=2) (v:=.int .i64 (e+1)) rfl (by kernel_rfl) (by kernel_rfl) (by kernel_rfl) (fun _ _ _ h=>h) (Or.inl ⟨by rfl,fun W hW=>by (obtain ⟨q0,q1,q2⟩:=hW;go_simp)⟩) (by assumption) ?_
                          change wpAnyH Tryz.prog _ _ _ _ _ _ (Act.put _ (some 94) _) _
                          simp only [Act.put,List.setIfInBounds_toArray,List.set_cons_zero,List.set_cons_succ]
                          refine wpAnyH_take (i:=4) (v:=.pointer (some ⟨w.heap.size+1,1,none⟩)) rfl (by kernel_rfl) (by kernel_rfl) (by kernel_rfl) (fun _ _ _ h=>h) (Or.inl ⟨by rfl,fun W hW=>by (obtain ⟨q0,q1,q2⟩:=hW;go_simp)⟩) (by assumption) ?_
                          change wpAnyH Tryz.prog _ _ _ _ _ _ (Act.put _ (some 96) _) _
                          simp only [Act.put,List.setIfInBounds_toArray,List.set_cons_zero,List.set_cons_succ]
                          refine wpAnyH_take (i:=5) (v:=.slice (some ⟨b,off,none⟩) p.bs.length cL) rfl (by kernel_rfl) (by kernel_rfl) (by kernel_rfl) (fun _ _ _ h=>h) (Or.inl ⟨by rfl,fun W hW=>by (obtain ⟨q0,q1,q2⟩:=hW;go_simp)⟩) (by assumption) ?_
                          change wpAnyH Tryz.prog _ _ _ _ _ _ (Act.put _ (some 97) _) _
                          simp only [Act.put,List.setIfInBounds_toArray,List.set_cons_zero,List.set_cons_succ]
                          refine wpAnyH_take (i:=6) (v:=.int .i64 (k:Int)) rfl (by kernel_rfl) (by kernel_rfl) (by kernel_rfl) (fun _ _ _ h=>h) (Or.inl ⟨by rfl,fun W hW=>by (obtain ⟨q0,q1,q2⟩:=hW;go_simp)⟩) (by assumption) ?_
                          change wpAnyH Tryz.prog _ _ _ _ _ _ (Act.put _ (some 98) _) _
                          simp only [Act.put,List.setIfInBounds_toArray,List.set_cons_zero,List.set_cons_succ]
                          refine wpAnyH_take (i:=7) (v:=.pointer (some ⟨b,off+k * 14,none⟩)) rfl (by kernel_rfl) (by kernel_rfl) (by kernel_rfl) (fun _ _ _ h=>h) (Or.inl ⟨by rfl,fun W hW=>by (obtain ⟨q0,q1,q2⟩:=hW;go_simp)⟩) (by assumption) ?_
                          change wpAnyH Tryz.prog _ _ _ _ _ _ (Act.put _ (some 99) _) _
                          simp only [Act.put,List.setIfInBounds_toArray,List.set_cons_zero,List.set_cons_succ]
                          refine wpAnyH_take (i:=8) (v:=.pointer (some ⟨b,off+k * 14+12,none⟩)) rfl (by kernel_rfl) (by kernel_rfl) (by kernel_rfl) (fun _ _ _ h=>h) (Or.inl ⟨by rfl,fun W hW=>by (obtain ⟨q0,q1,q2⟩:=hW;go_simp)⟩) (by assumption) ?_
                          change wpAnyH Tryz.prog _ _ _ _ _ _ (Act.put _ (some 100) _) _
                          simp only [Act.put,List.setIfInBounds_toArray,List.set_cons_zero,List.set_cons_succ]
                          refine wpAnyH_take (i:=9) (v:=.slice aN Y.length cN) rfl (by kernel_rfl) (by kernel_rfl) (by kernel_rfl) (fun _ _ _ h=>h) (Or.inl ⟨by rfl,fun W hW=>by (obtain ⟨q0,q1,q2⟩:=hW;go_simp)⟩) (by assumption) ?_
                          change wpAnyH Tryz.prog _ _ _ _ _ _ (Act.put _ (some 101) _) _
                          simp only [Act.put,List.setIfInBounds_toArray,List.set_cons_zero,List.set_cons_succ]
                          refine wpAnyH_ready (rs:=[3]) (by kernel_rfl) (by simp) ?_
                          refine AllReadyH.cons rfl (fun K hK=>?_) AllReadyH.nil
                          go_simp
                          have ba:Below wr.heap.size wr (wr.alloc (.cells #[] 100)).drew:=((Below.refl _ wr).alloc (Nat.le_refl _) _).drew
                          have oa:OwnV wr.heap.size (wr.alloc (.cells #[] 100)).drew (.slice (some ⟨wr.heap.size,0,none⟩) 0 0) []:=(own_nilV wr _ (Nat.le_refl _)).drew
                          refine hK.out _ _ (HSS.out _ ba) (fun hHeld=>?_)
                          try simp only [Act.put,List.setIfInBounds_toArray,List.set_cons_zero,List.set_cons_succ]
                          refine wpAnyH_ready (rs:=[10]) (by kernel_rfl) (by simp) ?_
                          refine AllReadyH.cons rfl (fun K hK=>?_) AllReadyH.nil
                          refine wp_appVs _ _ rfl wr.heap.size _ _ [] Y rfl rfl oa (HRd.out _ ba) (by simp;omega) ba.size ?_
                          intro v3 w3 o3 hb3
                          rw [List.nil_append] at o3
                          obtain ⟨a3,c3,hv3⟩:=o3.rd.shape
                          subst hv3
                          have b3:=ba.trans hb3
                          refine hK.out _ _ (HSS.out _ b3) (fun hHeld=>?_)
                          try simp only [Act.put,List.setIfInBounds_toArray,List.set_cons_zero,List.set_cons_succ]
                          refine wpAnyH_take (i:=11) (v:=.agg #[.int .i64 (e+1),.slice a3 Y.length c3]) rfl (by kernel_rfl) (by kernel_rfl) (by kernel_rfl) (fun _ _ _ h=>h) (Or.inl ⟨by rfl,fun W hW=>by (obtain ⟨q0,q1,q2⟩:=hW;go_simp)⟩) (by assumption) ?_
                          change wpAnyH Tryz.prog _ _ _ _ _ _ (Act.put _ (some 103) _) _
                          simp only [Act.put,List.setIfInBounds_toArray,List.set_cons_zero,List.set_cons_succ]
                          have kr:=HRR.out _ b3
                          refine wpAnyH_ready (rs:=[12]) (by kernel_rfl) (by simp) ?_
                          refine AllReadyH.cons rfl (fun K hK=>?_) AllReadyH.nil
                          refine wp_store_mid 35 _ _ rfl (w.heap.size+1+1) 0 #[.int .i64 (e+1),.slice a3 Y.length c3] rfl rfl (kr.there2 (n:=2) rfl) (by kernel_rfl) (all_oneCell_toArray (cs:=[.int .i64 (e+1),.slice a3 Y.length c3]) (List.all_eq_true.1 rfl)) ?_
                          refine hK.out _ _ (HST.out _ _ _ b3) (fun hHeld=>?_)
                          try simp only [Act.put,List.setIfInBounds_toArray,List.set_cons_zero,List.set_cons_succ]
                          refine wpAnyH_take (i:=13) (v:=.bool true) rfl (by kernel_rfl) (by kernel_rfl) (by kernel_rfl) (fun _ _ _ h=>h) (Or.inl ⟨by rfl,fun W hW=>by go_simp⟩) (by assumption) ?_
                          change wpAnyH Tryz.prog _ _ _ _ _ _ (Act.put _ (some 5) _) _
                          simp only [Act.put,List.setIfInBounds_toArray,List.set_cons_zero,List.set_cons_succ]
                          refine wpAnyH_done (by kernel_rfl) ?_ _
                          have KX:=hide (show Blk (w3.setCells (w.heap.size+1+1) 0 [.int .i64 (e+1),.slice a3 Y.length c3]) (w.heap.size+1+1) 35 [.int .i64 (e+1),.slice a3 Y.length c3] from kr.set2 _ _)
                          have HB:=hide (below_set2 (HB2.out.trans (b3.mono HB2.out.size)) (g:=w.heap.size+1+1) (by omega) (.int .i64 (e+1)) (.slice a3 Y.length c3))
                          have HO:=hide ((o3.setsC (g:=w.heap.size+1+1) hs2 (.int .i64 (e+1)) (.slice a3 Y.length c3)).mono (show w.heap.size<=wr.heap.size from HB2.out.size))
                          clear HSS HST HRR HRd kr ba oa o3 hb3 b3
                          go_wp2
                          refine res_specAc (F:=[.int .i64 (e+1),.slice a3 Y.length c3]) (w.heap.size+1+1) (.bool true) KX.out.range2 (by rfl) (by rfl) (by kernel_rfl) rfl ?_
                          exact ⟨.slice a3 Y.length c3,rfl,by rw [HEN.out];exact HO.out,HB.out⟩
                      · exact absurd HAny.out (by
                          rw [Bool.not_eq_true]
                          rw [List.any_eq_false]
                          intro x hx
                          obtain ⟨j,hj,rfl⟩:=List.mem_iff_getElem.1 hx
                          rw [List.length_take] at hj
                          rw [List.getElem_take,Hno.out j (by omega) (by omega)]
                          decide)
                · have hBb:(p.qb != (p.bs[p.bs.length - 1]'(by omega)).id)=true:=by rw [bne_iff_ne];exact hB
                  rw [decide_eq_false hB,Bool.false_and] at HU
                  clear hB
                  have hX:clB e st p=false:=HU.out
                  clear HIs HU HN HNe
                  rw [show clE e st p=e from by unfold clE;rw [if_neg (by rw [hX];decide)],show clS e st p=st from by unfold clS;rw [if_neg (by rw [hX];decide)],hX]
                  clear hX
                  go_enter Tryz.func8,Tryz.ntmps8
                  go_upto_region 1 with fail
                  (try rw [hw1])
                  clear hw1
                  go_wp2_with fail
                  refine HCp.out.mono ?_
                  rintro en w2 ⟨v2,rfl,o2,hb2⟩
                  obtain ⟨a2,c2,hv2⟩:=o2.rd.shape
                  subst hv2
                  obtain ⟨w3,hw3⟩:∃ x,w2.alloc (.cells #[.int .i64 e,.slice a2 st.length c2] 35)=x:=⟨_,rfl⟩
                  have b23:Below w2.heap.size w2 w3:=by rw [<- hw3];exact (Below.refl _ w2).alloc (Nat.le_refl _) _
                  have kT:=hide (show Blk w3 w2.heap.size 35 [.int .i64 e,.slice a2 st.length c2] from by rw [<- hw3];exact Blk.new w2 _ _)
                  have b13:=hb2.trans (b23.mono hb2.size)
                  have hz2:=hb2.size
                  have HCp:=trivial
                  have kC:=hide (kC.out.below b13 kC.out.lt)
                  have kP:=hide (kP.out.below b13 kP.out.lt)
                  have kR:=hide (kR.out.below b13 kR.out.lt)
                  have HO:=hide (o2.below b23 (Nat.le_refl _))
                  have B13:=hide b13
                  have x0:=kC.out.cell 0
                  have x1:=kC.out.cell 1
                  have y0:=kP.out.cell 0
                  have y1:=kP.out.cell 1
                  simp only [List.getElem?_cons_zero,List.getElem?_cons_succ] at x0 x1 y0 y1
                  have HSt:=hide (HSt.out w3 b13)
                  have Hw3:=hide hw3
                  clear hw3 b13 b23 hb2 o2 v0 v1 HCp
                  go_upto_region 2 with fail
                  rw [Hw3.out]
                  clear Hw3
                  go_upto_region 3 with fail
                  go_wp2_with fail
                  refine HSt.out.mono ?_
                  rintro en w4 ⟨rfl,hb4⟩
                  have B14:=hide (B13.out.trans (hb4.mono B13.out.size))
                  have kC:=hide (kC.out.below hb4 kC.out.lt)
                  have kP:=hide (kP.out.below hb4 kP.out.lt)
                  have kR:=hide (kR.out.below hb4 kR.out.lt)
                  have kT:=hide (kT.out.below hb4 kT.out.lt)
                  have HO:=hide (HO.out.below hb4 (Nat.le_refl _))
                  have x0:=kC.out.cell 0
                  have x1:=kC.out.cell 1
                  have y0:=kP.out.cell 0
                  have y1:=kP.out.cell 1
                  simp only [List.getElem?_cons_zero,List.getElem?_cons_succ] at x0 x1 y0 y1
                  clear HSt hb4 B13
                  have HL:=hide (HLk.out w4 B14.out)
                  clear HLk
                  go_wp2_with fail
                  refine HL.out.mono ?_
                  rintro en w5 ⟨rfl,hb5⟩
                  have B15:=hide (B14.out.trans (hb5.mono B14.out.size))
                  have kC:=hide (kC.out.below hb5 kC.out.lt)
                  have kP:=hide (kP.out.below hb5 kP.out.lt)
                  have kR:=hide (kR.out.below hb5 kR.out.lt)
                  have kT:=hide (kT.out.below hb5 kT.out.lt)
                  have HO:=hide (HO.out.below hb5 (Nat.le_refl _))
                  clear x0 x1 y0 y1 hb5 B14 HL
                  obtain ⟨b,off,hab,hbw,hcap,hat⟩:=HK1.out.atC (by omega)
                  subst hab
                  obtain ⟨va,ka,ra⟩:=hat (p.bs.length - 2) (by omega)
                  obtain ⟨vb,kb,rb⟩:=hat (p.bs.length - 1) (by omega)
                  have hi1:(0:Int)<=(p.bs.length:Int) - 1:=by omega
                  have hi2:(0:Int)<=(p.bs.length:Int) - 2:=by omega
                  have hi3:(p.bs.length:Int) - 1 < (p.bs.length:Int):=by omega
                  have hi4:(p.bs.length:Int) - 2 < (p.bs.length:Int):=by omega
                  have RG:=hide (range_below kb.range B15.out hbw)
                  have IE:=hide (show (Tryz.prog.info? 92).map (·.size)=some (bkC (p.bs[p.bs.length - 1]'(by omega)) vb).length from Tryz.infoA14)
                  have H1:=hide (show (bkC (p.bs[p.bs.length - 1]'(by omega)) vb).toArray.all (·.oneCell')=true from by rw [List.all_toArray];exact bkC_one rb)
                  have bz:Blk (w5.alloc (.cells #[.int .i64 0,.int .i64 0,.int .i64 0,.string { data:=#[] },.int .i64 0,.int .i64 0,.slice none 0 0,.int .i64 0,.slice none 0 0,.slice none 0 0,.slice none 0 0,.bool false,.slice none 0 0,.string { data:=#[] }] 92)) w5.heap.size 92 [.int .i64 0,.int .i64 0,.int .i64 0,.string { data:=#[] },.int .i64 0,.int .i64 0,.slice none 0 0,.int .i64 0,.slice none 0 0,.slice none 0 0,.slice none 0 0,.bool false,.slice none 0 0,.string { data:=#[] }]:=Blk.new w5 _ _
                  have Hth:=hide (show (w5.alloc (.cells #[.int .i64 0,.int .i64 0,.int .i64 0,.string { data:=#[] },.int .i64 0,.int .i64 0,.slice none 0 0,.int .i64 0,.slice none 0 0,.slice none 0 0,.slice none 0 0,.bool false,.slice none 0 0,.string { data:=#[] }] 92)).there w5.heap.size 0 (bkC (p.bs[p.bs.length - 1]'(by omega)) vb).toArray.size from bz.there (by rw [List.size_toArray];rfl))
                  obtain ⟨w6,hw6⟩:∃ x,(w5.alloc (.cells #[.int .i64 0,.int .i64 0,.int .i64 0,.string { data:=#[] },.int .i64 0,.int .i64 0,.slice none 0 0,.int .i64 0,.slice none 0 0,.slice none 0 0,.slice none 0 0,.bool false,.slice none 0 0,.string { data:=#[] }] 92)).setCells w5.heap.size 0 (bkC (p.bs[p.bs.length - 1]'(by omega)) vb)=x:=⟨_,rfl⟩
                  have k6:Blk w6 w5.heap.size 92 (bkC (p.bs[p.bs.length - 1]'(by omega)) vb):=by rw [<- hw6];exact blk_all bz rfl
                  have b56:Below w5.heap.size w5 w6:=by rw [<- hw6];exact ((Below.refl _ w5).alloc (Nat.le_refl _) _).trans (putC_below (Nat.le_refl _) _ _ _)
                  have Hw6:=hide hw6
                  have u1:=kP.out.cell 1
                  have t0:w6.cell? ⟨w5.heap.size,0,none⟩=some (.int .i64 (p.bs[p.bs.length - 1]'(by omega)).id):=k6.cell 0
                  have t2:w6.cell? ⟨w5.heap.size,2,none⟩=some (.int .i64 (p.bs[p.bs.length - 1]'(by omega)).rd):=k6.cell 2
                  have B16:=hide (B15.out.trans (b56.mono B15.out.size))
                  have kC:=hide (kC.out.below b56 kC.out.lt)
                  have kP:=hide (kP.out.below b56 kP.out.lt)
                  have kR:=hide (kR.out.below b56 kR.out.lt)
                  have kT:=hide (kT.out.below b56 kT.out.lt)
                  have HO:=hide (HO.out.below b56 (Nat.le_refl _))
                  have ea:=(ka.below B16.out hbw).cells.2.2.1
                  have hb6:=Nat.lt_of_lt_of_le hbw B16.out.size
                  have x1:=kC.out.cell 1
                  have y1:=kP.out.cell 1
                  have y2:=kP.out.cell 2
                  have y3:=kP.out.cell 3
                  have y4:=kP.out.cell 4
                  simp only [List.getElem?_cons_zero,List.getElem?_cons_succ] at x1 y1 y2 y3 y4 u1
                  have g0:=cell_regrown t0
                  have g2:=cell_regrown t2
                  have ga:=cell_regrown ea
                  have gc:=cell_regrown x1
                  have gp1:=cell_regrown y1
                  have gp2:=cell_regrown y2
                  have gp3:=cell_regrown y3
                  have gp4:=cell_regrown y4
                  have HQ6:=hide (fun (d:Nat) (os:Array Obj)=>Calls.regrown_of (HQc.out (grow (redrawn w6 d) os) (B16.out.trans ((below_regrown w6 d os).mono B16.out.size))))
                  have HAt:=hide (fun (i:Nat) (h:i < p.bs.length)=>(show ∃ bv,BkAt w1 b (off+i * 14) p.bs[i] bv/\RdK w1 p.bs[i] bv from hat i h))
                  clear ka kb ra rb hat t0 t2 ea x1 y1 y2 y3 y4 bz hw6 k6 b56 hcap HQc HK1 B15
                  generalize bkC (p.bs[p.bs.length - 1]'(by omega)) vb=db at RG IE H1 Hth Hw6
                  generalize (p.bs[p.bs.length - 2]'(by omega)).rd=ra at ga HRa hwJ
                  generalize (p.bs[p.bs.length - 1]'(by omega)).rd=rb at g2 hwJ hRb
                  generalize (p.bs[p.bs.length - 1]'(by omega)).id=ib at g0 hBb
                  have hwr:IntKind.i64.wrap (ra+1)=ra+1:=by have:=HRa.out;rw [IntKind.wrap_i64];omega
                  have hwr2:wrap64 (ra+1)=ra+1:=by have:=HRa.out;unfold wrap64;omega
                  go_upto_region 6 with (first
                    | (refine wpList_load_mid rfl 92 _ rfl b (off+(p.bs.length - 1) * 14) rfl db _ RG.out Tryz.underlying92 rfl IE.out ?_)
                    | (refine wpList_store_mid rfl 92 _ _ rfl w5.heap.size 0 db.toArray rfl rfl Hth.out (by simpa using IE.out) H1.out ?_;rw [Hw6.out])
                    | fail)
                  refine wp_region_quiet_below (by kernel_rfl) (by kernel_rfl) ?_
                  (try dsimp only [List.append])
                  (try simp only [Act.put])
                  iterate 35 (go_big_quiet_step (first | (go_at_call 36;exact HQ6.out _ _)))
                  refine wpQuiet_nil ?_
                  intro _ hw'
                  obtain ⟨⟨dq,osq⟩,hw''⟩:=hw'
                  subst hw''
                  have hb7:=below_regrown w6 dq osq
                  obtain ⟨w7,hw7⟩:∃ x,grow (redrawn w6 dq) osq=x:=⟨_,rfl⟩
                  rw [hw7] at hb7 ⊢
                  have B17:=hide (B16.out.trans (hb7.mono B16.out.size))
                  have kC:=hide (kC.out.below hb7 kC.out.lt)
                  have kP:=hide (kP.out.below hb7 kP.out.lt)
                  have kR:=hide (kR.out.below hb7 kR.out.lt)
                  have kT:=hide (kT.out.below hb7 kT.out.lt)
                  have HO:=hide (HO.out.below hb7 (Nat.le_refl _))
                  clear hw7 hb7 g0 g2 ga gc gp1 gp2 gp3 gp4 u1 HQ6 B16 RG IE H1 Hth Hw6 hwr hwr2
                  have f0:=kT.out.cell 0
                  have f1:=kT.out.cell 1
                  have r0:=kR.out.cell 0
                  have r1:=kR.out.cell 1
                  have g0:=kR.out.frozen 0
                  have g1:=kR.out.frozen 1
                  simp only [List.getElem?_cons_zero,List.getElem?_cons_succ] at f0 f1 r0 r1
                  have HOx:=hide (((HO.out.olderC (g:=w.heap.size+1+1) hz1 0 (.int .i64 e)).olderC (g:=w.heap.size+1+1) hz1 1 (.slice a2 st.length c2)).mono (show w.heap.size<=w1.heap.size by omega))
                  have HBx:=hide (((B1.out.trans (B17.out.mono B1.out.size)).setCell (p:=⟨w.heap.size+1+1,0,none⟩) (show w.heap.size<=w.heap.size+1+1 by omega) (.int .i64 e)).setCell (p:=⟨w.heap.size+1+1,1,none⟩) (show w.heap.size<=w.heap.size+1+1 by omega) (.slice a2 st.length c2))
                  clear kC kP kR kT HO B1 B17
                  go_wp2
                  refine bodyPost_ret (v:=.tuple #[.agg #[.int .i64 e,.slice a2 st.length c2],.bool false]) (by simp [results,Tryz.f8,go_sem,r0,r1]) rfl ?_
                  exact ⟨_,rfl,HOx.out,HBx.out⟩
              · have hRb:(p.qr != (p.bs[p.bs.length - 1]'(by omega)).rd)=true:=by rw [bne_iff_ne];exact hR
                rw [decide_eq_false hR,Bool.and_false,Bool.false_and] at HU
                clear hR
                have hX:clB e st p=false:=HU.out
                clear HIs HU HN HNe
                rw [show clE e st p=e from by unfold clE;rw [if_neg (by rw [hX];decide)],show clS e st p=st from by unfold clS;rw [if_neg (by rw [hX];decide)],hX]
                clear hX
                go_enter Tryz.func8,Tryz.ntmps8
                go_upto_region 1 with fail
                (try rw [hw1])
                clear hw1
                go_wp2_with fail
                refine HCp.out.mono ?_
                rintro en w2 ⟨v2,rfl,o2,hb2⟩
                obtain ⟨a2,c2,hv2⟩:=o2.rd.shape
                subst hv2
                obtain ⟨w3,hw3⟩:∃ x,w2.alloc (.cells #[.int .i64 e,.slice a2 st.length c2] 35)=x:=⟨_,rfl⟩
                have b23:Below w2.heap.size w2 w3:=by rw [<- hw3];exact (Below.refl _ w2).alloc (Nat.le_refl _) _
                have kT:=hide (show Blk w3 w2.heap.size 35 [.int .i64 e,.slice a2 st.length c2] from by rw [<- hw3];exact Blk.new w2 _ _)
                have b13:=hb2.trans (b23.mono hb2.size)
                have hz2:=hb2.size
                have HCp:=trivial
                have kC:=hide (kC.out.below b13 kC.out.lt)
                have kP:=hide (kP.out.below b13 kP.out.lt)
                have kR:=hide (kR.out.below b13 kR.out.lt)
                have HO:=hide (o2.below b23 (Nat.le_refl _))
                have B13:=hide b13
                have x0:=kC.out.cell 0
                have x1:=kC.out.cell 1
                have y0:=kP.out.cell 0
                have y1:=kP.out.cell 1
                simp only [List.getElem?_cons_zero,List.getElem?_cons_succ] at x0 x1 y0 y1
                have HSt:=hide (HSt.out w3 b13)
                have Hw3:=hide hw3
                clear hw3 b13 b23 hb2 o2 v0 v1 HCp
                go_upto_region 2 with fail
                rw [Hw3.out]
                clear Hw3
                go_upto_region 3 with fail
                go_wp2_with fail
                refine HSt.out.mono ?_
                rintro en w4 ⟨rfl,hb4⟩
                have B14:=hide (B13.out.trans (hb4.mono B13.out.size))
                have kC:=hide (kC.out.below hb4 kC.out.lt)
                have kP:=hide (kP.out.below hb4 kP.out.lt)
                have kR:=hide (kR.out.below hb4 kR.out.lt)
                have kT:=hide (kT.out.below hb4 kT.out.lt)
                have HO:=hide (HO.out.below hb4 (Nat.le_refl _))
                have x0:=kC.out.cell 0
                have x1:=kC.out.cell 1
                have y0:=kP.out.cell 0
                have y1:=kP.out.cell 1
                simp only [List.getElem?_cons_zero,List.getElem?_cons_succ] at x0 x1 y0 y1
                clear HSt hb4 B13
                have HL:=hide (HLk.out w4 B14.out)
                clear HLk
                go_wp2_with fail
                refine HL.out.mono ?_
                rintro en w5 ⟨rfl,hb5⟩
                have B15:=hide (B14.out.trans (hb5.mono B14.out.size))
                have kC:=hide (kC.out.below hb5 kC.out.lt)
                have kP:=hide (kP.out.below hb5 kP.out.lt)
                have kR:=hide (kR.out.below hb5 kR.out.lt)
                have kT:=hide (kT.out.below hb5 kT.out.lt)
                have HO:=hide (HO.out.below hb5 (Nat.le_refl _))
                clear x0 x1 y0 y1 hb5 B14 HL
                obtain ⟨b,off,hab,hbw,hcap,hat⟩:=HK1.out.atC (by omega)
                subst hab
                obtain ⟨va,ka,ra⟩:=hat (p.bs.length - 2) (by omega)
                obtain ⟨vb,kb,rb⟩:=hat (p.bs.length - 1) (by omega)
                have hi1:(0:Int)<=(p.bs.length:Int) - 1:=by omega
                have hi2:(0:Int)<=(p.bs.length:Int) - 2:=by omega
                have hi3:(p.bs.length:Int) - 1 < (p.bs.length:Int):=by omega
                have hi4:(p.bs.length:Int) - 2 < (p.bs.length:Int):=by omega
                have RG:=hide (range_below kb.range B15.out hbw)
                have IE:=hide (show (Tryz.prog.info? 92).map (·.size)=some (bkC (p.bs[p.bs.length - 1]'(by omega)) vb).length from Tryz.infoA14)
                have H1:=hide (show (bkC (p.bs[p.bs.length - 1]'(by omega)) vb).toArray.all (·.oneCell')=true from by rw [List.all_toArray];exact bkC_one rb)
                have bz:Blk (w5.alloc (.cells #[.int .i64 0,.int .i64 0,.int .i64 0,.string { data:=#[] },.int .i64 0,.int .i64 0,.slice none 0 0,.int .i64 0,.slice none 0 0,.slice none 0 0,.slice none 0 0,.bool false,.slice none 0 0,.string { data:=#[] }] 92)) w5.heap.size 92 [.int .i64 0,.int .i64 0,.int .i64 0,.string { data:=#[] },.int .i64 0,.int .i64 0,.slice none 0 0,.int .i64 0,.slice none 0 0,.slice none 0 0,.slice none 0 0,.bool false,.slice none 0 0,.string { data:=#[] }]:=Blk.new w5 _ _
                have Hth:=hide (show (w5.alloc (.cells #[.int .i64 0,.int .i64 0,.int .i64 0,.string { data:=#[] },.int .i64 0,.int .i64 0,.slice none 0 0,.int .i64 0,.slice none 0 0,.slice none 0 0,.slice none 0 0,.bool false,.slice none 0 0,.string { data:=#[] }] 92)).there w5.heap.size 0 (bkC (p.bs[p.bs.length - 1]'(by omega)) vb).toArray.size from bz.there (by rw [List.size_toArray];rfl))
                obtain ⟨w6,hw6⟩:∃ x,(w5.alloc (.cells #[.int .i64 0,.int .i64 0,.int .i64 0,.string { data:=#[] },.int .i64 0,.int .i64 0,.slice none 0 0,.int .i64 0,.slice none 0 0,.slice none 0 0,.slice none 0 0,.bool false,.slice none 0 0,.string { data:=#[] }] 92)).setCells w5.heap.size 0 (bkC (p.bs[p.bs.length - 1]'(by omega)) vb)=x:=⟨_,rfl⟩
                have k6:Blk w6 w5.heap.size 92 (bkC (p.bs[p.bs.length - 1]'(by omega)) vb):=by rw [<- hw6];exact blk_all bz rfl
                have b56:Below w5.heap.size w5 w6:=by rw [<- hw6];exact ((Below.refl _ w5).alloc (Nat.le_refl _) _).trans (putC_below (Nat.le_refl _) _ _ _)
                have Hw6:=hide hw6
                have u1:=kP.out.cell 1
                have t0:w6.cell? ⟨w5.heap.size,0,none⟩=some (.int .i64 (p.bs[p.bs.length - 1]'(by omega)).id):=k6.cell 0
                have t2:w6.cell? ⟨w5.heap.size,2,none⟩=some (.int .i64 (p.bs[p.bs.length - 1]'(by omega)).rd):=k6.cell 2
                have B16:=hide (B15.out.trans (b56.mono B15.out.size))
                have kC:=hide (kC.out.below b56 kC.out.lt)
                have kP:=hide (kP.out.below b56 kP.out.lt)
                have kR:=hide (kR.out.below b56 kR.out.lt)
                have kT:=hide (kT.out.below b56 kT.out.lt)
                have HO:=hide (HO.out.below b56 (Nat.le_refl _))
                have ea:=(ka.below B16.out hbw).cells.2.2.1
                have hb6:=Nat.lt_of_lt_of_le hbw B16.out.size
                have x1:=kC.out.cell 1
                have y1:=kP.out.cell 1
                have y2:=kP.out.cell 2
                have y3:=kP.out.cell 3
                have y4:=kP.out.cell 4
                simp only [List.getElem?_cons_zero,List.getElem?_cons_succ] at x1 y1 y2 y3 y4 u1
                have g0:=cell_regrown t0
                have g2:=cell_regrown t2
                have ga:=cell_regrown ea
                have gc:=cell_regrown x1
                have gp1:=cell_regrown y1
                have gp2:=cell_regrown y2
                have gp3:=cell_regrown y3
                have gp4:=cell_regrown y4
                have HQ6:=hide (fun (d:Nat) (os:Array Obj)=>Calls.regrown_of (HQc.out (grow (redrawn w6 d) os) (B16.out.trans ((below_regrown w6 d os).mono B16.out.size))))
                have HAt:=hide (fun (i:Nat) (h:i < p.bs.length)=>(show ∃ bv,BkAt w1 b (off+i * 14) p.bs[i] bv/\RdK w1 p.bs[i] bv from hat i h))
                clear ka kb ra rb hat t0 t2 ea x1 y1 y2 y3 y4 bz hw6 k6 b56 hcap HQc HK1 B15
                generalize bkC (p.bs[p.bs.length - 1]'(by omega)) vb=db at RG IE H1 Hth Hw6
                generalize (p.bs[p.bs.length - 2]'(by omega)).rd=ra at ga HRa hwJ
                generalize (p.bs[p.bs.length - 1]'(by omega)).rd=rb at g2 hwJ hRb
                generalize (p.bs[p.bs.length - 1]'(by omega)).id=ib at g0
                have hwr:IntKind.i64.wrap (ra+1)=ra+1:=by have:=HRa.out;rw [IntKind.wrap_i64];omega
                have hwr2:wrap64 (ra+1)=ra+1:=by have:=HRa.out;unfold wrap64;omega
                go_upto_region 6 with (first
                  | (refine wpList_load_mid rfl 92 _ rfl b (off+(p.bs.length - 1) * 14) rfl db _ RG.out Tryz.underlying92 rfl IE.out ?_)
                  | (refine wpList_store_mid rfl 92 _ _ rfl w5.heap.size 0 db.toArray rfl rfl Hth.out (by simpa using IE.out) H1.out ?_;rw [Hw6.out])
                  | fail)
                refine wp_region_quiet_below (by kernel_rfl) (by kernel_rfl) ?_
                (try dsimp only [List.append])
                (try simp only [Act.put])
                iterate 35 (go_big_quiet_step (first | (go_at_call 36;exact HQ6.out _ _)))
                refine wpQuiet_nil ?_
                intro _ hw'
                obtain ⟨⟨dq,osq⟩,hw''⟩:=hw'
                subst hw''
                have hb7:=below_regrown w6 dq osq
                obtain ⟨w7,hw7⟩:∃ x,grow (redrawn w6 dq) osq=x:=⟨_,rfl⟩
                rw [hw7] at hb7 ⊢
                have B17:=hide (B16.out.trans (hb7.mono B16.out.size))
                have kC:=hide (kC.out.below hb7 kC.out.lt)
                have kP:=hide (kP.out.below hb7 kP.out.lt)
                have kR:=hide (kR.out.below hb7 kR.out.lt)
                have kT:=hide (kT.out.below hb7 kT.out.lt)
                have HO:=hide (HO.out.below hb7 (Nat.le_refl _))
                clear hw7 hb7 g0 g2 ga gc gp1 gp2 gp3 gp4 u1 HQ6 B16 RG IE H1 Hth Hw6 hwr hwr2
                have f0:=kT.out.cell 0
                have f1:=kT.out.cell 1
                have r0:=kR.out.cell 0
                have r1:=kR.out.cell 1
                have g0:=kR.out.frozen 0
                have g1:=kR.out.frozen 1
                simp only [List.getElem?_cons_zero,List.getElem?_cons_succ] at f0 f1 r0 r1
                have HOx:=hide (((HO.out.olderC (g:=w.heap.size+1+1) hz1 0 (.int .i64 e)).olderC (g:=w.heap.size+1+1) hz1 1 (.slice a2 st.length c2)).mono (show w.heap.size<=w1.heap.size by omega))
                have HBx:=hide (((B1.out.trans (B17.out.mono B1.out.size)).setCell (p:=⟨w.heap.size+1+1,0,none⟩) (show w.heap.size<=w.heap.size+1+1 by omega) (.int .i64 e)).setCell (p:=⟨w.heap.size+1+1,1,none⟩) (show w.heap.size<=w.heap.size+1+1 by omega) (.slice a2 st.length c2))
                clear kC kP kR kT HO B1 B17
                go_wp2
                refine bodyPost_ret (v:=.tuple #[.agg #[.int .i64 e,.slice a2 st.length c2],.bool false]) (by simp [results,Tryz.f8,go_sem,r0,r1]) rfl ?_
                exact ⟨_,rfl,HOx.out,HBx.out⟩
      · have hX:=clB_no3 (e:=e) (st:=st) h2
        have hlt2:(p.bs.length:Int) < 2:=by omega
        have hd2:decide ((p.bs.length:Int) < 2)=true:=by simp;omega
        have hd3:decide (p.bs.length < 2)=true:=by simp;omega
        clear h1 he HLk HQc HK1 HN HNe h2
        rw [show clE e st p=e from by unfold clE;rw [if_neg (by rw [hX];decide)],show clS e st p=st from by unfold clS;rw [if_neg (by rw [hX];decide)],hX]
        clear hX
        go_enter Tryz.func8,Tryz.ntmps8
        go_upto_region 1 with fail
        (try rw [hw1])
        clear hw1
        go_wp2_with fail
        refine HCp.out.mono ?_
        rintro en w2 ⟨v2,rfl,o2,hb2⟩
        obtain ⟨a2,c2,hv2⟩:=o2.rd.shape
        subst hv2
        obtain ⟨w3,hw3⟩:∃ x,w2.alloc (.cells #[.int .i64 e,.slice a2 st.length c2] 35)=x:=⟨_,rfl⟩
        have b23:Below w2.heap.size w2 w3:=by rw [<- hw3];exact (Below.refl _ w2).alloc (Nat.le_refl _) _
        have kT:=hide (show Blk w3 w2.heap.size 35 [.int .i64 e,.slice a2 st.length c2] from by rw [<- hw3];exact Blk.new w2 _ _)
        have b13:=hb2.trans (b23.mono hb2.size)
        have hz2:=hb2.size
        have HCp:=trivial
        have kC:=hide (kC.out.below b13 kC.out.lt)
        have kP:=hide (kP.out.below b13 kP.out.lt)
        have kR:=hide (kR.out.below b13 kR.out.lt)
        have HO:=hide (o2.below b23 (Nat.le_refl _))
        have B13:=hide b13
        have x0:=kC.out.cell 0
        have x1:=kC.out.cell 1
        have y0:=kP.out.cell 0
        have y1:=kP.out.cell 1
        simp only [List.getElem?_cons_zero,List.getElem?_cons_succ] at x0 x1 y0 y1
        have HSt:=hide (HSt.out w3 b13)
        have Hw3:=hide hw3
        clear hw3 b13 b23 hb2 o2 v0 v1 HCp
        go_upto_region 2 with fail
        rw [Hw3.out]
        clear Hw3
        go_upto_region 3 with fail
        go_wp2_with fail
        refine HSt.out.mono ?_
        rintro en w4 ⟨rfl,hb4⟩
        have B14:=hide (B13.out.trans (hb4.mono B13.out.size))
        have kC:=hide (kC.out.below hb4 kC.out.lt)
        have kP:=hide (kP.out.below hb4 kP.out.lt)
        have kR:=hide (kR.out.below hb4 kR.out.lt)
        have kT:=hide (kT.out.below hb4 kT.out.lt)
        have HO:=hide (HO.out.below hb4 (Nat.le_refl _))
        have x0:=kC.out.cell 0
        have x1:=kC.out.cell 1
        have y0:=kP.out.cell 0
        have y1:=kP.out.cell 1
        simp only [List.getElem?_cons_zero,List.getElem?_cons_succ] at x0 x1 y0 y1
        clear HSt hb4 B13
        have f0:=kT.out.cell 0
        have f1:=kT.out.cell 1
        have r0:=kR.out.cell 0
        have r1:=kR.out.cell 1
        have g0:=kR.out.frozen 0
        have g1:=kR.out.frozen 1
        simp only [List.getElem?_cons_zero,List.getElem?_cons_succ] at f0 f1 r0 r1
        have HOx:=hide (((HO.out.olderC (g:=w.heap.size+1+1) hz1 0 (.int .i64 e)).olderC (g:=w.heap.size+1+1) hz1 1 (.slice a2 st.length c2)).mono (show w.heap.size<=w1.heap.size by omega))
        have HBx:=hide (((B1.out.trans (B14.out.mono B1.out.size)).setCell (p:=⟨w.heap.size+1+1,0,none⟩) (show w.heap.size<=w.heap.size+1+1 by omega) (.int .i64 e)).setCell (p:=⟨w.heap.size+1+1,1,none⟩) (show w.heap.size<=w.heap.size+1+1 by omega) (.slice a2 st.length c2))
        clear kC kP kR kT HO B1 B14
        go_wp2
        refine bodyPost_ret (v:=.tuple #[.agg #[.int .i64 e,.slice a2 st.length c2],.bool false]) (by simp [results,Tryz.f8,go_sem,r0,r1]) rfl ?_
        exact ⟨_,rfl,HOx.out,HBx.out⟩
    · have heb:(p.ep != e)=true:=by rw [bne_iff_ne];exact he
      have hX:=clB_no2 (e:=e) (st:=st) he
      clear h1 he HLk HQc HK1 HN HNe
      rw [show clE e st p=e from by unfold clE;rw [if_neg (by rw [hX];decide)],show clS e st p=st from by unfold clS;rw [if_neg (by rw [hX];decide)],hX]
      clear hX
      go_enter Tryz.func8,Tryz.ntmps8
      go_upto_region 1 with fail
      (try rw [hw1])
      clear hw1
      go_wp2_with fail
      refine HCp.out.mono ?_
      rintro en w2 ⟨v2,rfl,o2,hb2⟩
      obtain ⟨a2,c2,hv2⟩:=o2.rd.shape
      subst hv2
      obtain ⟨w3,hw3⟩:∃ x,w2.alloc (.cells #[.int .i64 e,.slice a2 st.length c2] 35)=x:=⟨_,rfl⟩
      have b23:Below w2.heap.size w2 w3:=by rw [<- hw3];exact (Below.refl _ w2).alloc (Nat.le_refl _) _
      have kT:=hide (show Blk w3 w2.heap.size 35 [.int .i64 e,.slice a2 st.length c2] from by rw [<- hw3];exact Blk.new w2 _ _)
      have b13:=hb2.trans (b23.mono hb2.size)
      have hz2:=hb2.size
      have HCp:=trivial
      have kC:=hide (kC.out.below b13 kC.out.lt)
      have kP:=hide (kP.out.below b13 kP.out.lt)
      have kR:=hide (kR.out.below b13 kR.out.lt)
      have HO:=hide (o2.below b23 (Nat.le_refl _))
      have B13:=hide b13
      have x0:=kC.out.cell 0
      have x1:=kC.out.cell 1
      have y0:=kP.out.cell 0
      have y1:=kP.out.cell 1
      simp only [List.getElem?_cons_zero,List.getElem?_cons_succ] at x0 x1 y0 y1
      have HSt:=hide (HSt.out w3 b13)
      have Hw3:=hide hw3
      clear hw3 b13 b23 hb2 o2 v0 v1 HCp
      go_upto_region 2 with fail
      rw [Hw3.out]
      clear Hw3
      go_upto_region 3 with fail
      go_wp2_with fail
      refine HSt.out.mono ?_
      rintro en w4 ⟨rfl,hb4⟩
      have B14:=hide (B13.out.trans (hb4.mono B13.out.size))
      have kC:=hide (kC.out.below hb4 kC.out.lt)
      have kP:=hide (kP.out.below hb4 kP.out.lt)
      have kR:=hide (kR.out.below hb4 kR.out.lt)
      have kT:=hide (kT.out.below hb4 kT.out.lt)
      have HO:=hide (HO.out.below hb4 (Nat.le_refl _))
      have x0:=kC.out.cell 0
      have x1:=kC.out.cell 1
      have y0:=kP.out.cell 0
      have y1:=kP.out.cell 1
      simp only [List.getElem?_cons_zero,List.getElem?_cons_succ] at x0 x1 y0 y1
      clear HSt hb4 B13
      have f0:=kT.out.cell 0
      have f1:=kT.out.cell 1
      have r0:=kR.out.cell 0
      have r1:=kR.out.cell 1
      have g0:=kR.out.frozen 0
      have g1:=kR.out.frozen 1
      simp only [List.getElem?_cons_zero,List.getElem?_cons_succ] at f0 f1 r0 r1
      have HOx:=hide (((HO.out.olderC (g:=w.heap.size+1+1) hz1 0 (.int .i64 e)).olderC (g:=w.heap.size+1+1) hz1 1 (.slice a2 st.length c2)).mono (show w.heap.size<=w1.heap.size by omega))
      have HBx:=hide (((B1.out.trans (B14.out.mono B1.out.size)).setCell (p:=⟨w.heap.size+1+1,0,none⟩) (show w.heap.size<=w.heap.size+1+1 by omega) (.int .i64 e)).setCell (p:=⟨w.heap.size+1+1,1,none⟩) (show w.heap.size<=w.heap.size+1+1 by omega) (.slice a2 st.length c2))
      clear kC kP kR kT HO B1 B14
      go_wp2
      refine bodyPost_ret (v:=.tuple #[.agg #[.int .i64 e,.slice a2 st.length c2],.bool false]) (by simp [results,Tryz.f8,go_sem,r0,r1]) rfl ?_
      exact ⟨_,rfl,HOx.out,HBx.out⟩
end Go.Proofs.YtaidhenkijjcfaaGreat
