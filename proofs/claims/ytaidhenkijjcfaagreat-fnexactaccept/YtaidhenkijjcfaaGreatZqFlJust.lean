/- justBelow of the landed code. -/
import Derived.Test.YtaidhenkijjcfaaGreatZqBkOkI
set_option maxRecDepth 20000
set_option maxHeartbeats 8000000
namespace Go.Proofs.YtaidhenkijjcfaaGreat
open Go.RowKit Go.Sort
set_option linter.unusedVariables false
theorem oneBehind_any (e:Int) (vs v:Value) (st:List Vl) (l:List Bk) (w:World) (hr:RdV w vs st) (hk:RdKs w v l) (hls:st.length<=4000000) (hl:l.length<=4000000) (hf:∀ b ∈ l,FewK b) (hbd:∀ b ∈ l,-9223372036854775808<=b.tr/\b.tr<=9223372036854775807) (hm:ModV st) :
    Calls Tryz.prog 99 #[.agg #[.int .i64 e,vs],v] w fun en w'=>en=.returned (.bool (lkB e st l))/\Below w.heap.size w w':=by
  obtain ⟨aS,cS,rfl⟩:=hr.shape
  obtain ⟨aL,cL,rfl⟩:=hk.shape
  obtain ⟨w1,hw1⟩:∃ x,w.alloc (.cells #[.int .i64 e,.slice aS st.length cS] 35)=x:=⟨_,rfl⟩
  have b1:Below w.heap.size w w1:=by rw [<- hw1];exact (Below.refl _ w).alloc (Nat.le_refl _) _
  have K1:=hide (show Blk w1 w.heap.size 35 [.int .i64 e,.slice aS st.length cS] from by rw [<- hw1];exact Blk.new w _ _)
  have Hr:=hide (hr.below b1 (Nat.le_refl _))
  have Hk:=hide (hk.below b1 (Nat.le_refl _))
  have Hf:=hide hf
  have Hd:=hide hbd
  have Hm:=hide hm
  have B1:=hide b1
  have IB:=hide Tryz.infoK14
  clear hr hk hf hbd hm b1
  go_enter Tryz.func99,Tryz.ntmps99
  go_upto_region 1 with fail
  (try rw [hw1])
  clear hw1
  go_wp2
  go_loopw [9] (fun i wr=>∃ k:Nat,k<=l.length/\i=.int .i64 k/\(∀ j (h:j < l.length),j < k->lkAt e st l j h=true)/\Below w1.heap.size w1 wr) (fun i _=>l.length - (intOf i).toNat)
  case atStart=>exact ⟨0,Nat.zero_le _,rfl,fun j _ h=>by omega,Below.refl _ _⟩
  case round =>
    obtain ⟨k,hk,rfl,hno,hb⟩:=hrel
    have Hall:=hide hno
    have Hb:=hide hb
    clear hno
    by_cases hlt:k < l.length
    · obtain ⟨b,off,rfl,hbw,hcap,hat⟩:=Hk.out.atC (by omega)
      obtain ⟨bv,hk1,hrk⟩:=hat k hlt
      have hli:(k:Int) < (l.length:Int):=by omega
      have RG:=hide (range_below hk1.range hb hbw)
      have HF:=Hf.out l[k] (List.getElem_mem hlt)
      have HD:=Hd.out l[k] (List.getElem_mem hlt)
      have IE:=hide (show (Tryz.prog.info? 92).map (·.size)=some (bkC l[k] bv).length from IB.out)
      have H1:=hide (show (bkC l[k] bv).toArray.all (·.oneCell')=true from by rw [List.all_toArray];exact bkC_one hrk)
      have zz:=hb.size
      have z1:=K1.out.lt
      have bz:Blk (wr.alloc (.cells #[.int .i64 0,.int .i64 0,.int .i64 0,.string { data:=#[] },.int .i64 0,.int .i64 0,.slice none 0 0,.int .i64 0,.slice none 0 0,.slice none 0 0,.slice none 0 0,.bool false,.slice none 0 0,.string { data:=#[] }] 92)) wr.heap.size 92 [.int .i64 0,.int .i64 0,.int .i64 0,.string { data:=#[] },.int .i64 0,.int .i64 0,.slice none 0 0,.int .i64 0,.slice none 0 0,.slice none 0 0,.slice none 0 0,.bool false,.slice none 0 0,.string { data:=#[] }]:=Blk.new wr _ _
      have Hth:=hide (show (wr.alloc (.cells #[.int .i64 0,.int .i64 0,.int .i64 0,.string { data:=#[] },.int .i64 0,.int .i64 0,.slice none 0 0,.int .i64 0,.slice none 0 0,.slice none 0 0,.slice none 0 0,.bool false,.slice none 0 0,.string { data:=#[] }] 92)).there wr.heap.size 0 (bkC l[k] bv).toArray.size from bz.there (by rw [List.size_toArray];rfl))
      obtain ⟨w3,hw3⟩:∃ x,(wr.alloc (.cells #[.int .i64 0,.int .i64 0,.int .i64 0,.string { data:=#[] },.int .i64 0,.int .i64 0,.slice none 0 0,.int .i64 0,.slice none 0 0,.slice none 0 0,.slice none 0 0,.bool false,.slice none 0 0,.string { data:=#[] }] 92)).setCells wr.heap.size 0 (bkC l[k] bv)=x:=⟨_,rfl⟩
      have k3:Blk w3 wr.heap.size 92 (bkC l[k] bv):=by rw [<- hw3];exact blk_all bz rfl
      have b3:Below wr.heap.size wr w3:=by rw [<- hw3];exact ((Below.refl _ wr).alloc (Nat.le_refl _) _).trans (putC_below (Nat.le_refl _) _ _ _)
      have Hw3:=hide hw3
      have b13:Below w1.heap.size w1 w3:=hb.trans (b3.mono zz)
      have B13:=hide b13
      have B3:=hide (B1.out.trans (b13.mono B1.out.size))
      have hC:=K1.out.below b13 K1.out.lt
      have x0:=hC.cell 0
      have x1:=hC.cell 1
      simp only [List.getElem?_cons_zero,List.getElem?_cons_succ] at x0 x1
      have gc0:=cell_regrown x0
      have gc1:=cell_regrown x1
      have y1:w3.cell? ⟨wr.heap.size,1,none⟩=some (.int .i64 l[k].ep):=k3.cell 1
      have y4:w3.cell? ⟨wr.heap.size,4,none⟩=some (.int .i64 l[k].qr):=k3.cell 4
      have y5:w3.cell? ⟨wr.heap.size,5,none⟩=some (.int .i64 l[k].qb):=k3.cell 5
      have y6:w3.cell? ⟨wr.heap.size,6,none⟩=some bv.q:=k3.cell 6
      obtain ⟨aQ,cQ,hqv⟩:=hrk.q.shape
      rw [hqv] at y6
      have g1:=cell_regrown y1
      have g4:=cell_regrown y4
      have g5:=cell_regrown y5
      have g6:=cell_regrown y6
      have RJ:=hide (range_regrown (blk_range k3) k3.lt)
      have hrk3:=hrk.below b13 (Nat.le_refl _)
      have hr3:=Hr.out.below b13 (Nat.le_refl _)
      have HO3:=hide (fun (d:Nat) (os:Array Obj)=>Calls.regrown_of (implBlockOk_any l[k] bv (grow (redrawn w3 d) os) (hrk3.below (below_regrown w3 d os) (Nat.le_refl _)) HF HD))
      have Hno:Hid (lkAt e st l k hlt=false->lkB e st l=false):=hide (lkB_no k hlt)
      have Hyes:Hid (lkAt e st l k hlt=true->∀ j (h:j < l.length),j < k+1->lkAt e st l j h=true):=hide (fun h j hj hjk=>by
        by_cases e:j=k
        · subst e;exact h
        · exact Hall.out j hj (by omega))
      rw [show bkV l[k] bv=.agg (bkC l[k] bv).toArray from rfl] at HO3
      by_cases hk0:k=0
      · have HA:Hid (lkAt e st l k hlt=(blB l[k] && (decide (l[k].ep=e) && true))):=hide (by unfold lkAt;rw [decide_eq_true hk0,Bool.true_or])
        have hd2:decide ((0:Int) < (k:Int))=false:=by simp;omega
        have hd3:decide (0 < k)=false:=by simp;omega
        clear hk0 hat hk1 hrk hb b3 b13 bz hC x0 x1 y1 y4 y5 y6 k3 hw3 hrk3 hr3 HF HD hqv Hall
        generalize bkC l[k] bv=cs at RG IE H1 Hth Hw3 RJ HO3
        generalize l[k].ep=ep at g1 HA
        generalize l[k].qr=qr at g4
        generalize l[k].qb=qb at g5
        generalize l[k].qw.length=qn at g6
        generalize blB l[k]=X at HO3 HA
        cases X
        · skip
          have hn:=hide (Hno.out (by rw [HA.out];rfl))
          clear Hno Hyes HA
          go_wp2_with (first
            | (refine wpList_load_mid rfl 92 _ rfl b (off+k * 14) rfl cs _ RG.out Tryz.underlying92 rfl IE.out ?_)
            | (refine wpList_store_mid rfl 92 _ _ rfl wr.heap.size 0 cs.toArray rfl rfl Hth.out (by simpa using IE.out) H1.out ?_;rw [Hw3.out])
            | fail)
          refine wp_region_quiet_below (by kernel_rfl) (by kernel_rfl) ?_
          (try dsimp only [List.append])
          (try simp only [Act.put])
          (first | go_big_quiet_skip | (refine quiet_load_mid 92 _ rfl wr.heap.size (0) rfl cs _ RJ.out Tryz.underlying92 rfl IE.out (by rfl) ?_;change wpQuiet _ _ _ _ _ (Act.put _ (some 14) _);simp only [Act.put,List.setIfInBounds_toArray,List.set_cons_zero,List.set_cons_succ]))
          iterate 25 (go_big_quiet_step (first | (go_at_call 142;exact HO3.out _ _) | (go_at_call 101;exact HC3.out _ _)))
          refine wpQuiet_nil ?_
          intro _ hw'
          obtain ⟨⟨dq,osq⟩,hw''⟩:=hw'
          subst hw''
          go_wp2
          go_ret
          exact ⟨ret_bool hn.out.symm,B3.out.trans ((below_regrown w3 dq osq).mono B3.out.size)⟩
        · by_cases he:ep=e
          · have heq:(ep != e)=false:=by rw [he];simp
            rw [decide_eq_true he] at HA
            clear he
            have Hy:=hide (Hyes.out (by rw [HA.out];rfl))
            clear Hno Hyes HA
            go_wp2_with (first
              | (refine wpList_load_mid rfl 92 _ rfl b (off+k * 14) rfl cs _ RG.out Tryz.underlying92 rfl IE.out ?_)
              | (refine wpList_store_mid rfl 92 _ _ rfl wr.heap.size 0 cs.toArray rfl rfl Hth.out (by simpa using IE.out) H1.out ?_;rw [Hw3.out])
              | fail)
            refine wp_region_quiet_below (by kernel_rfl) (by kernel_rfl) ?_
            (try dsimp only [List.append])
            (try simp only [Act.put])
            (first | go_big_quiet_skip | (refine quiet_load_mid 92 _ rfl wr.heap.size (0) rfl cs _ RJ.out Tryz.underlying92 rfl IE.out (by rfl) ?_;change wpQuiet _ _ _ _ _ (Act.put _ (some 14) _);simp only [Act.put,List.setIfInBounds_toArray,List.set_cons_zero,List.set_cons_succ]))
            iterate 25 (go_big_quiet_step (first | (go_at_call 142;exact HO3.out _ _) | (go_at_call 101;exact HC3.out _ _)))
            refine wpQuiet_nil ?_
            intro _ hw'
            obtain ⟨⟨dq,osq⟩,hw''⟩:=hw'
            subst hw''
            go_wp2
            go_roundw
            case rel=>exact ⟨k+1,by omega,by go_num,Hy.out,B13.out.trans ((below_regrown w3 dq osq).mono B13.out.size)⟩
            case measure=>simp [intOf];omega
          · have heq:(ep != e)=true:=by rw [bne_iff_ne];exact he
            rw [decide_eq_false he] at HA
            clear he
            have hn:=hide (Hno.out (by rw [HA.out];rfl))
            clear Hno Hyes HA
            go_wp2_with (first
              | (refine wpList_load_mid rfl 92 _ rfl b (off+k * 14) rfl cs _ RG.out Tryz.underlying92 rfl IE.out ?_)
              | (refine wpList_store_mid rfl 92 _ _ rfl wr.heap.size 0 cs.toArray rfl rfl Hth.out (by simpa using IE.out) H1.out ?_;rw [Hw3.out])
              | fail)
            refine wp_region_quiet_below (by kernel_rfl) (by kernel_rfl) ?_
            (try dsimp only [List.append])
            (try simp only [Act.put])
            (first | go_big_quiet_skip | (refine quiet_load_mid 92 _ rfl wr.heap.size (0) rfl cs _ RJ.out Tryz.underlying92 rfl IE.out (by rfl) ?_;change wpQuiet _ _ _ _ _ (Act.put _ (some 14) _);simp only [Act.put,List.setIfInBounds_toArray,List.set_cons_zero,List.set_cons_succ]))
            iterate 25 (go_big_quiet_step (first | (go_at_call 142;exact HO3.out _ _) | (go_at_call 101;exact HC3.out _ _)))
            refine wpQuiet_nil ?_
            intro _ hw'
            obtain ⟨⟨dq,osq⟩,hw''⟩:=hw'
            subst hw''
            go_wp2
            go_ret
            exact ⟨ret_bool hn.out.symm,B3.out.trans ((below_regrown w3 dq osq).mono B3.out.size)⟩
      · obtain ⟨bp,hkp,hrp⟩:=hat (k - 1) (by omega)
        have HFp:=Hf.out (l[k - 1]'(by omega)) (List.getElem_mem _)
        have HA:Hid (lkAt e st l k hlt=(blB l[k] && (decide (l[k].ep=e) && cfB st l[k].qr l[k].qb l[k].qw (l[k - 1]'(by omega))))):=hide (by unfold lkAt;rw [decide_eq_false hk0,Bool.false_or])
        have hd2:decide ((0:Int) < (k:Int))=true:=by simp;omega
        have hd3:decide (0 < k)=true:=by simp;omega
        have RP:=hide (range_regrown (range_below hkp.range b13 hbw) (show b < w3.heap.size from Nat.lt_of_lt_of_le hbw b13.size))
        have IP:=hide (show (Tryz.prog.info? 92).map (·.size)=some (bkC (l[k - 1]'(by omega)) bp).length from IB.out)
        have HC3:=hide (fun (d:Nat) (os:Array Obj)=>Calls.regrown_of (certifies_any e (.slice aS st.length cS) bv.q st l[k].qr l[k].qb l[k].qw (l[k - 1]'(by omega)) bp (grow (redrawn w3 d) os) (hr3.below (below_regrown w3 d os) (Nat.le_refl _)) (hrk3.q.below (below_regrown w3 d os) (Nat.le_refl _)) hls HF.q HF.qs Hm.out))
        rw [show bkV (l[k - 1]'(by omega)) bp=.agg (bkC (l[k - 1]'(by omega)) bp).toArray from rfl,hqv] at HC3
        simp only [qcV] at HC3
        have hk1i:(1:Int)<=(k:Int):=by omega
        clear hk0 hat hk1 hrk hb b3 b13 bz hC x0 x1 y1 y4 y5 y6 k3 hw3 hrk3 hr3 HF HD hqv Hall hkp hrp HFp
        generalize bkC l[k] bv=cs at RG IE H1 Hth Hw3 RJ HO3
        generalize bkC (l[k - 1]'(by omega)) bp=ds at RP IP HC3
        generalize cfB st l[k].qr l[k].qb l[k].qw (l[k - 1]'(by omega))=Y at HC3 HA
        generalize l[k].ep=ep at g1 HA
        generalize l[k].qr=qr at g4 HC3
        generalize l[k].qb=qb at g5 HC3
        generalize l[k].qw.length=qn at g6 HC3
        generalize blB l[k]=X at HO3 HA
        cases X
        · clear HC3
          have hn:=hide (Hno.out (by rw [HA.out];rfl))
          clear Hno Hyes HA
          go_wp2_with (first
            | (refine wpList_load_mid rfl 92 _ rfl b (off+k * 14) rfl cs _ RG.out Tryz.underlying92 rfl IE.out ?_)
            | (refine wpList_store_mid rfl 92 _ _ rfl wr.heap.size 0 cs.toArray rfl rfl Hth.out (by simpa using IE.out) H1.out ?_;rw [Hw3.out])
            | fail)
          refine wp_region_quiet_below (by kernel_rfl) (by kernel_rfl) ?_
          (try dsimp only [List.append])
          (try simp only [Act.put])
          (first | go_big_quiet_skip | (refine quiet_load_mid 92 _ rfl wr.heap.size (0) rfl cs _ RJ.out Tryz.underlying92 rfl IE.out (by rfl) ?_;change wpQuiet _ _ _ _ _ (Act.put _ (some 14) _);simp only [Act.put,List.setIfInBounds_toArray,List.set_cons_zero,List.set_cons_succ]))
          iterate 25 (go_big_quiet_step (first | (go_at_call 142;exact HO3.out _ _) | (go_at_call 101;exact HC3.out _ _)))
          refine wpQuiet_nil ?_
          intro _ hw'
          obtain ⟨⟨dq,osq⟩,hw''⟩:=hw'
          subst hw''
          go_wp2
          go_ret
          exact ⟨ret_bool hn.out.symm,B3.out.trans ((below_regrown w3 dq osq).mono B3.out.size)⟩
        · by_cases he:ep=e
          · have heq:(ep != e)=false:=by rw [he];simp
            rw [decide_eq_true he] at HA
            clear he
            cases Y
            · skip
              have hn:=hide (Hno.out (by rw [HA.out];rfl))
              clear Hno Hyes HA
              go_wp2_with (first
                | (refine wpList_load_mid rfl 92 _ rfl b (off+k * 14) rfl cs _ RG.out Tryz.underlying92 rfl IE.out ?_)
                | (refine wpList_store_mid rfl 92 _ _ rfl wr.heap.size 0 cs.toArray rfl rfl Hth.out (by simpa using IE.out) H1.out ?_;rw [Hw3.out])
                | fail)
              refine wp_region_quiet_below (by kernel_rfl) (by kernel_rfl) ?_
              (try dsimp only [List.append])
              (try simp only [Act.put])
              (first | go_big_quiet_skip | (refine quiet_load_mid 92 _ rfl wr.heap.size (0) rfl cs _ RJ.out Tryz.underlying92 rfl IE.out (by rfl) ?_;change wpQuiet _ _ _ _ _ (Act.put _ (some 14) _);simp only [Act.put,List.setIfInBounds_toArray,List.set_cons_zero,List.set_cons_succ]))
              iterate 20 (go_big_quiet_step (first | (go_at_call 142;exact HO3.out _ _) | (go_at_call 101;exact HC3.out _ _)))
              (first | go_big_quiet_skip | (refine quiet_load_mid 92 _ rfl b (off+(k - 1) * 14) rfl ds _ RP.out Tryz.underlying92 rfl IP.out (by rfl) ?_;change wpQuiet _ _ _ _ _ (Act.put _ (some 35) _);simp only [Act.put,List.setIfInBounds_toArray,List.set_cons_zero,List.set_cons_succ]))
              iterate 4 (go_big_quiet_step (first | (go_at_call 142;exact HO3.out _ _) | (go_at_call 101;exact HC3.out _ _)))
              refine wpQuiet_nil ?_
              intro _ hw'
              obtain ⟨⟨dq,osq⟩,hw''⟩:=hw'
              subst hw''
              go_wp2
              go_ret
              exact ⟨ret_bool hn.out.symm,B3.out.trans ((below_regrown w3 dq osq).mono B3.out.size)⟩
            · skip
              have Hy:=hide (Hyes.out (by rw [HA.out];rfl))
              clear Hno Hyes HA
              go_wp2_with (first
                | (refine wpList_load_mid rfl 92 _ rfl b (off+k * 14) rfl cs _ RG.out Tryz.underlying92 rfl IE.out ?_)
                | (refine wpList_store_mid rfl 92 _ _ rfl wr.heap.size 0 cs.toArray rfl rfl Hth.out (by simpa using IE.out) H1.out ?_;rw [Hw3.out])
                | fail)
              refine wp_region_quiet_below (by kernel_rfl) (by kernel_rfl) ?_
              (try dsimp only [List.append])
              (try simp only [Act.put])
              (first | go_big_quiet_skip | (refine quiet_load_mid 92 _ rfl wr.heap.size (0) rfl cs _ RJ.out Tryz.underlying92 rfl IE.out (by rfl) ?_;change wpQuiet _ _ _ _ _ (Act.put _ (some 14) _);simp only [Act.put,List.setIfInBounds_toArray,List.set_cons_zero,List.set_cons_succ]))
              iterate 20 (go_big_quiet_step (first | (go_at_call 142;exact HO3.out _ _) | (go_at_call 101;exact HC3.out _ _)))
              (first | go_big_quiet_skip | (refine quiet_load_mid 92 _ rfl b (off+(k - 1) * 14) rfl ds _ RP.out Tryz.underlying92 rfl IP.out (by rfl) ?_;change wpQuiet _ _ _ _ _ (Act.put _ (some 35) _);simp only [Act.put,List.setIfInBounds_toArray,List.set_cons_zero,List.set_cons_succ]))
              iterate 4 (go_big_quiet_step (first | (go_at_call 142;exact HO3.out _ _) | (go_at_call 101;exact HC3.out _ _)))
              refine wpQuiet_nil ?_
              intro _ hw'
              obtain ⟨⟨dq,osq⟩,hw''⟩:=hw'
              subst hw''
              go_wp2
              go_roundw
              case rel=>exact ⟨k+1,by omega,by go_num,Hy.out,B13.out.trans ((below_regrown w3 dq osq).mono B13.out.size)⟩
              case measure=>simp [intOf];omega
          · have heq:(ep != e)=true:=by rw [bne_iff_ne];exact he
            rw [decide_eq_false he] at HA
            clear he HC3
            have hn:=hide (Hno.out (by rw [HA.out];rfl))
            clear Hno Hyes HA
            go_wp2_with (first
              | (refine wpList_load_mid rfl 92 _ rfl b (off+k * 14) rfl cs _ RG.out Tryz.underlying92 rfl IE.out ?_)
              | (refine wpList_store_mid rfl 92 _ _ rfl wr.heap.size 0 cs.toArray rfl rfl Hth.out (by simpa using IE.out) H1.out ?_;rw [Hw3.out])
              | fail)
            refine wp_region_quiet_below (by kernel_rfl) (by kernel_rfl) ?_
            (try dsimp only [List.append])
            (try simp only [Act.put])
            (first | go_big_quiet_skip | (refine quiet_load_mid 92 _ rfl wr.heap.size (0) rfl cs _ RJ.out Tryz.underlying92 rfl IE.out (by rfl) ?_;change wpQuiet _ _ _ _ _ (Act.put _ (some 14) _);simp only [Act.put,List.setIfInBounds_toArray,List.set_cons_zero,List.set_cons_succ]))
            iterate 25 (go_big_quiet_step (first | (go_at_call 142;exact HO3.out _ _) | (go_at_call 101;exact HC3.out _ _)))
            refine wpQuiet_nil ?_
            intro _ hw'
            obtain ⟨⟨dq,osq⟩,hw''⟩:=hw'
            subst hw''
            go_wp2
            go_ret
            exact ⟨ret_bool hn.out.symm,B3.out.trans ((below_regrown w3 dq osq).mono B3.out.size)⟩
    · have hX:=hide (lkB_yes (e:=e) (st:=st) (l:=l) (fun i h=>Hall.out i h (by omega)))
      have HB:=hide (B1.out.trans (hb.mono B1.out.size))
      clear Hall hb
      go_wp2
      go_ret
      exact ⟨ret_bool hX.out.symm,HB.out⟩
end Go.Proofs.YtaidhenkijjcfaaGreat
namespace Go.Proofs.YtaidhenkijjcfaaGreat
open Go.RowKit
set_option linter.unusedVariables false
theorem implJust17_any (n r:Int) (w:World) (hr:-9223372036854775807<=r/\r<=9223372036854775807) :
    Calls Tryz.prog 100 #[.int .i64 n,.int .i64 r] w fun e w'=>e=.returned (.bool (decide (n=r - 1)))/\w'=w:=by
  have ew:IntKind.i64.wrap (r - 1)=r - 1:=by rw [IntKind.wrap_i64];omega
  by_cases h1:n < r
  · by_cases h2:n=r - 1
    · have HX:Hid (decide (n=r - 1)=true):=hide (decide_eq_true h2)
      have h2b:(n == r - 1)=true:=by rw [h2];simp
      clear h2
      go_enter Tryz.func100,Tryz.ntmps100
      go_wp2
      go_ret
      exact ⟨ret_bool HX.out.symm,rfl⟩
    · have HX:Hid (decide (n=r - 1)=false):=hide (decide_eq_false h2)
      have h2b:(n == r - 1)=false:=by rw [beq_eq_false_iff_ne];exact h2
      clear h2
      go_enter Tryz.func100,Tryz.ntmps100
      go_wp2
      go_ret
      exact ⟨ret_bool HX.out.symm,rfl⟩
  · have HX:Hid (decide (n=r - 1)=false):=hide (decide_eq_false (by omega))
    go_enter Tryz.func100,Tryz.ntmps100
    go_wp2
    go_ret
    exact ⟨ret_bool HX.out.symm,rfl⟩
end Go.Proofs.YtaidhenkijjcfaaGreat
