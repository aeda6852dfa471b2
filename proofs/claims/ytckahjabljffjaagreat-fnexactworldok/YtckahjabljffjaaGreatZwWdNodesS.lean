/- A world's nodes, as the model asks. -/
import Derived.Test.YtckahjabljffjaaGreatZwWdLoopI
set_option maxRecDepth 20000
set_option maxHeartbeats 16000000
namespace Go.Proofs.YtckahjabljffjaaGreat
open Go.RowKit Go.Sort
set_option linter.unusedVariables false
def nfB (nm:ByteArray) (ep be:Int) (la:List Ac) (st:List Vl) (tt:List Bk) (pl:List Tx5):Bool :=
  nmB nm && (lgB be la && (decide (be=ep) && (poolB pl && ((decide (st.length=0) || setB st) && (treeB tt && !oddB tt ep)))))
theorem odd_head {l:List Bk} {e:Int} (ht:treeB l=true) (h0:0 < l.length):oddB l e=!decide (l[0].ep=e):=by
  by_cases h:l[0].ep=e
  · rw [decide_eq_true h,Bool.not_true]
    exact odd_no (fun j hj=>by rw [((treeP_of ht).2 j hj).2.1];exact h)
  · rw [decide_eq_false h,Bool.not_false]
    exact odd_yes h0 h
theorem odd_none {l:List Bk} {e:Int} (h0:l.length=0):oddB l e=false:=odd_no (fun j hj=>by omega)
def nsB (p:Nd):Bool:=inB p.rd 1 10000 && (decide (p.hr < p.rd) && (decide (p.tr < p.rd) && (inB p.vd 0 10000 && (inB p.ld 0 10000 && (qcB p.st p.hr p.hb p.hw && (tcB p.st p.tr p.tw p.th && (decide (p.vo.length<=1000) && (decide (p.go.length<=1000) && (decide (p.dn.length<=200) && decide (p.ps.length<=200))))))))))
theorem nod_two (p:Nd):nodB p=(nfB p.nm p.ep p.be p.la p.st p.tt p.pl && nsB p):=by
  unfold nodB nfB nsB epkB rdsB
  generalize nmB p.nm=a1
  generalize lgB p.be p.la=a2
  generalize decide (p.be=p.ep)=a3
  generalize (decide (p.st.length=0) || setB p.st)=a4
  generalize (treeB p.tt && !oddB p.tt p.ep)=a5
  generalize inB p.rd 1 10000=a6
  generalize inB p.vd 0 10000=a7
  generalize inB p.ld 0 10000=a8
  generalize qcB p.st p.hr p.hb p.hw=a9
  generalize decide (p.hr < p.rd)=b1
  generalize tcB p.st p.tr p.tw p.th=b2
  generalize decide (p.tr < p.rd)=b3
  generalize poolB p.pl=b4
  generalize (decide (p.vo.length<=1000) && (decide (p.go.length<=1000) && (decide (p.dn.length<=200) && decide (p.ps.length<=200))))=b5
  cases a1 <;> cases a2 <;> cases a3 <;> cases a4 <;> cases a5 <;> cases a6 <;> cases a7 <;> cases a8 <;> simp only [Bool.true_and,Bool.false_and,Bool.and_false] <;> cases a9 <;> cases b1 <;> cases b2 <;> cases b3 <;> cases b4 <;> cases b5 <;> rfl
theorem nf_mod {nm:ByteArray} {ep be:Int} {la:List Ac} {st:List Vl} {tt:List Bk} {pl:List Tx5} (h:nfB nm ep be la st tt pl=true):ModV st:=by
  unfold nfB at h
  simp only [Bool.and_eq_true] at h
  exact set_mod h.2.2.2.2.1
theorem specNodeOk_any (p : Nd) (u:Nv) (w:World) (hr:RdNd w p u) (hf:FewNd p) (hg:FitNd p) :
    Calls Tryz.prog 114 #[noV p u] w fun en w'=>en=.returned (.bool (nodB p))/\Below w.heap.size w w':=by
  have HF:=hide (nod_two p)
  have HS2:Hid (nsB p=(inB p.rd 1 10000 && (decide (p.hr < p.rd) && (decide (p.tr < p.rd) && (inB p.vd 0 10000 && (inB p.ld 0 10000 && (qcB p.st p.hr p.hb p.hw && (tcB p.st p.tr p.tw p.th && (decide (p.vo.length<=1000) && (decide (p.go.length<=1000) && (decide (p.dn.length<=200) && decide (p.ps.length<=200)))))))))))):=hide rfl
  have HF1:Hid (nfB p.nm p.ep p.be p.la p.st p.tt p.pl=(nmB p.nm && (lgB p.be p.la && (decide (p.be=p.ep) && (poolB p.pl && ((decide (p.st.length=0) || setB p.st) && (treeB p.tt && !oddB p.tt p.ep))))))):=hide rfl
  have HMd:=hide (show nfB p.nm p.ep p.be p.la p.st p.tt p.pl=true->ModV p.st from nf_mod)
  generalize nsB p=X2 at HF HS2
  generalize nfB p.nm p.ep p.be p.la p.st p.tt p.pl=X1 at HF HF1 HMd
  generalize nodB p=X at HF ⊢
  obtain ⟨nm,ep,be,la,st,tt,rd,vd,hr,hb,hw,tr,tw,th,ld,vo,go,dn,pl,ps⟩:=p
  obtain ⟨ya,ys,yt,yw,yx,yh,yv,yg,yd,yp,yq⟩:=u
  obtain ⟨hya,hys,hyt,hyw,hyx,hyh,hyv,hyg,hyd,hyp,hyq⟩:=hr
  simp only at *
  obtain ⟨ada,cpa,rfl⟩:=hya.shape
  obtain ⟨ads,cps,rfl⟩:=hys.shape
  obtain ⟨adt,cpt,rfl⟩:=hyt.shape
  obtain ⟨adw,cpw,rfl⟩:=hyw.shape
  obtain ⟨adx,cpx,rfl⟩:=hyx.shape
  obtain ⟨adh,cph,rfl⟩:=hyh.shape
  obtain ⟨adv,cpv,rfl⟩:=hyv.shape
  obtain ⟨adg,cpg,rfl⟩:=hyg.shape
  obtain ⟨add,cpd,rfl⟩:=hyd.shape
  obtain ⟨adp,cpp,rfl⟩:=hyp.shape
  obtain ⟨adq,cpq,rfl⟩:=hyq.shape
  simp only [noV]
  obtain ⟨w1,hw1⟩:∃ x,w.alloc (.cells #[.string nm,.int .i64 ep,.int .i64 be,.slice ada la.length cpa,.slice ads st.length cps,.slice adt tt.length cpt,.int .i64 rd,.int .i64 vd,.int .i64 hr,.int .i64 hb,.slice adw hw.length cpw,.int .i64 tr,.slice adx tw.length cpx,.slice adh th.length cph,.int .i64 ld,.slice adv vo.length cpv,.slice adg go.length cpg,.slice add dn.length cpd,.slice adp pl.length cpp,.slice adq ps.length cpq] 75)=x:=⟨_,rfl⟩
  have B1:Below w.heap.size w w1:=by rw [<- hw1];exact (Below.refl _ w).alloc (Nat.le_refl _) _
  have K1:=hide (show Blk w1 w.heap.size 75 [.string nm,.int .i64 ep,.int .i64 be,.slice ada la.length cpa,.slice ads st.length cps,.slice adt tt.length cpt,.int .i64 rd,.int .i64 vd,.int .i64 hr,.int .i64 hb,.slice adw hw.length cpw,.int .i64 tr,.slice adx tw.length cpx,.slice adh th.length cph,.int .i64 ld,.slice adv vo.length cpv,.slice adg go.length cpg,.slice add dn.length cpd,.slice adp pl.length cpp,.slice adq ps.length cpq] from by rw [<- hw1];exact Blk.new w _ _)
  have q:=fun (d:Nat) (os:Array Obj)=>B1.trans ((below_regrown w1 d os).mono B1.size)
  have HN:=hide (fun (d:Nat) (os:Array Obj)=>sameC_regrown (specNameOk_any nm (grow (redrawn w1 d) os) hg.znm))
  have HL:=hide (fun (d:Nat) (os:Array Obj)=>Calls.regrown_of (specLedgerOk_any be (.slice ada la.length cpa) la (grow (redrawn w1 d) os) (hya.below (q d os) (Nat.le_refl _)) hf.na (fun a ha=>⟨(hg.ga a ha).1,hf.fa a ha⟩)))
  have HP:=hide (fun (d:Nat) (os:Array Obj)=>Calls.regrown_of (specPoolOk_any (.slice adp pl.length cpp) pl (grow (redrawn w1 d) os) (hyp.below (q d os) (Nat.le_refl _)) hf.np hg.gp))
  have HV:=hide (fun (d:Nat) (os:Array Obj)=>Calls.regrown_of (specSetOk_any (.slice ads st.length cps) st (grow (redrawn w1 d) os) (hys.below (q d os) (Nat.le_refl _)) hf.ns hg.gs))
  have HT:=hide (fun (d:Nat) (os:Array Obj)=>Calls.regrown_of (specTreeOk_any (.slice adt tt.length cpt) tt (grow (redrawn w1 d) os) (hyt.below (q d os) (Nat.le_refl _)) hf.nt hf.ft (trS_of hg.gt)))
  have HQ:=hide (fun (hm:ModV st) V (hV:Below w.heap.size w V)=>specQcOk_any (.slice ads st.length cps) (.slice adw hw.length cpw) st hr hb hw V (hys.below hV (Nat.le_refl _)) (hyw.below hV (Nat.le_refl _)) hf.ns hf.nw hg.gw hm)
  have HC:=hide (fun (hm:ModV st) V (hV:Below w.heap.size w V)=>specTcOk_any (.slice ads st.length cps) (.slice adx tw.length cpx) (.slice adh th.length cph) st tr tw th V (hys.below hV (Nat.le_refl _)) (hyx.below hV (Nat.le_refl _)) (hyh.below hV (Nat.le_refl _)) hf.ns hf.nx hf.nh hg.gx hm)
  have HHd:=hide (show treeB tt=true->∀ h0:0 < tt.length,oddB tt ep=!decide (tt[0].ep=ep) from odd_head)
  have HH0:=hide (show tt.length=0->oddB tt ep=false from odd_none)
  have HTc:=hide (show ∀ h0:0 < tt.length,∃ b off,adt=some ⟨b,off,none⟩/\w1.cell? ⟨b,off+1,none⟩=some (.int .i64 tt[0].ep) from fun h0=>by
    obtain ⟨b,off,e,h1,h2⟩:=hyt.parts14 h0
    obtain ⟨bv,h3,-⟩:=h2 0 h0
    have h4:=(h3.below B1 h1).cells.2.1
    rw [Nat.zero_mul,Nat.add_zero] at h4
    exact ⟨b,off,e,h4⟩)
  have HB1:=hide B1
  simp only [lgV] at HL
  simp only [qcV,tcV] at HQ HC
  generalize nmB nm=N0 at HF1 HN
  generalize lgB be la=L0 at HF1 HL
  generalize poolB pl=P0 at HF1 HP
  generalize setB st=V0 at HF1 HV
  generalize treeB tt=T0 at HF1 HT HHd
  generalize oddB tt ep=O0 at HF1 HHd HH0
  generalize qcB st hr hb hw=Q0 at HS2 HQ
  generalize tcB st tr tw th=C0 at HS2 HC
  clear q B1 hya hys hyt hyw hyx hyh hyv hyg hyd hyp hyq hf hg
  have k1:=K1.out
  have x0:=k1.cell 0
  have x1:=k1.cell 1
  have x2:=k1.cell 2
  have x3:=k1.cell 3
  have x4:=k1.cell 4
  have x5:=k1.cell 5
  have x18:=k1.cell 18
  simp only [List.getElem?_cons_zero,List.getElem?_cons_succ] at x0 x1 x2 x3 x4 x5 x18
  clear k1
  go_enter Tryz.func114,Tryz.ntmps114
  go_upto_region 1 with fail
  (try rw [hw1])
  clear hw1
  obtain ⟨M,hM⟩:∃ x,(Value.agg #[.string nm,.int .i64 ep,.int .i64 be,.slice ada la.length cpa,.slice ads st.length cps,.slice adt tt.length cpt,.int .i64 rd,.int .i64 vd,.int .i64 hr,.int .i64 hb,.slice adw hw.length cpw,.int .i64 tr,.slice adx tw.length cpx,.slice adh th.length cph,.int .i64 ld,.slice adv vo.length cpv,.slice adg go.length cpg,.slice add dn.length cpd,.slice adp pl.length cpp,.slice adq ps.length cpq])=x:=⟨_,rfl⟩
  rw [hM]
  clear hM
  go_cut [60] from 3 (fun bv wc=>bv=.bool (!X1)/\Below w1.heap.size w1 wc)
  case first =>
    have g0:=cell_regrown x0
    have g1:=cell_regrown x1
    have g2:=cell_regrown x2
    have g3:=cell_regrown x3
    have g4:=cell_regrown x4
    have g5:=cell_regrown x5
    have g18:=cell_regrown x18
    clear x0 x1 x2 x3 x4 x5 x18 HQ HC HS2 HMd HF
    cases N0
    · rw [Bool.false_and] at HF1
      refine wp_region_quiet_below (by kernel_rfl) (by kernel_rfl) ?_
      (try dsimp only [List.append])
      repeat (go_big_quiet_step (first | (go_at_call 70;exact HN.out _ _) | (go_at_call 23;exact HL.out _ _) | (go_at_call 159;exact HP.out _ _) | (go_at_call 107;exact HV.out _ _) | (go_at_call 160;exact HT.out _ _)))
      refine wpQuiet_nil ?_
      intro _ hw'
      obtain ⟨⟨dq,osq⟩,hw''⟩:=hw'
      subst hw''
      go_wp2
      go_meet
      case rel=>exact ⟨by rw [HF1.out];rfl,below_regrown w1 dq osq⟩
    · rw [Bool.true_and] at HF1
      cases L0
      · rw [Bool.false_and] at HF1
        refine wp_region_quiet_below (by kernel_rfl) (by kernel_rfl) ?_
        (try dsimp only [List.append])
        repeat (go_big_quiet_step (first | (go_at_call 70;exact HN.out _ _) | (go_at_call 23;exact HL.out _ _) | (go_at_call 159;exact HP.out _ _) | (go_at_call 107;exact HV.out _ _) | (go_at_call 160;exact HT.out _ _)))
        refine wpQuiet_nil ?_
        intro _ hw'
        obtain ⟨⟨dq,osq⟩,hw''⟩:=hw'
        subst hw''
        go_wp2
        go_meet
        case rel=>exact ⟨by rw [HF1.out];rfl,below_regrown w1 dq osq⟩
      · rw [Bool.true_and] at HF1
        by_cases h2:be=ep
        · rw [decide_eq_true h2,Bool.true_and] at HF1
          have h2i:(be != ep)=false:=by rw [bne_eq_false_iff_eq];exact h2
          clear h2
          cases P0
          · rw [Bool.false_and] at HF1
            refine wp_region_quiet_below (by kernel_rfl) (by kernel_rfl) ?_
            (try dsimp only [List.append])
            repeat (go_big_quiet_step (first | (go_at_call 70;exact HN.out _ _) | (go_at_call 23;exact HL.out _ _) | (go_at_call 159;exact HP.out _ _) | (go_at_call 107;exact HV.out _ _) | (go_at_call 160;exact HT.out _ _)))
            refine wpQuiet_nil ?_
            intro _ hw'
            obtain ⟨⟨dq,osq⟩,hw''⟩:=hw'
            subst hw''
            go_wp2
            go_meet
            case rel=>exact ⟨by rw [HF1.out];rfl,below_regrown w1 dq osq⟩
          · rw [Bool.true_and] at HF1
            by_cases h4:st.length=0
            · rw [decide_eq_true h4,Bool.true_or,Bool.true_and] at HF1
              have h4i:decide (0 < st.length)=false:=by rw [decide_eq_false_iff_not];omega
              clear h4
              cases T0
              · rw [Bool.false_and] at HF1
                refine wp_region_quiet_below (by kernel_rfl) (by kernel_rfl) ?_
                (try dsimp only [List.append])
                repeat (go_big_quiet_step (first | (go_at_call 70;exact HN.out _ _) | (go_at_call 23;exact HL.out _ _) | (go_at_call 159;exact HP.out _ _) | (go_at_call 107;exact HV.out _ _) | (go_at_call 160;exact HT.out _ _)))
                refine wpQuiet_nil ?_
                intro _ hw'
                obtain ⟨⟨dq,osq⟩,hw''⟩:=hw'
                subst hw''
                go_wp2
                go_meet
                case rel=>exact ⟨by rw [HF1.out];rfl,below_regrown w1 dq osq⟩
              · rw [Bool.true_and] at HF1
                by_cases h6:tt.length=0
                · rw [HH0.out h6,Bool.not_false] at HF1
                  have h6i:decide (0 < tt.length)=false:=by rw [decide_eq_false_iff_not];omega
                  clear h6 HTc HHd HH0
                  refine wp_region_quiet_below (by kernel_rfl) (by kernel_rfl) ?_
                  (try dsimp only [List.append])
                  repeat (go_big_quiet_step (first | (go_at_call 70;exact HN.out _ _) | (go_at_call 23;exact HL.out _ _) | (go_at_call 159;exact HP.out _ _) | (go_at_call 107;exact HV.out _ _) | (go_at_call 160;exact HT.out _ _)))
                  refine wpQuiet_nil ?_
                  intro _ hw'
                  obtain ⟨⟨dq,osq⟩,hw''⟩:=hw'
                  subst hw''
                  go_wp2
                  go_meet
                  case rel=>exact ⟨by rw [HF1.out];rfl,below_regrown w1 dq osq⟩
                · have h6p:0 < tt.length:=by omega
                  obtain ⟨b,off,rfl,t0⟩:=HTc.out h6p
                  have gt:=cell_regrown t0
                  rw [HHd.out rfl h6p,Bool.not_not] at HF1
                  have h6i:decide (0 < tt.length)=true:=by rw [decide_eq_true_iff];omega
                  have h6n:(0:Int) < (tt.length:Int):=by omega
                  generalize tt[0].ep=te at HF1 gt t0
                  clear h6 HTc HHd HH0 t0
                  by_cases h7:te=ep
                  · rw [decide_eq_true h7] at HF1
                    have h7i:(te != ep)=false:=by rw [bne_eq_false_iff_eq];exact h7
                    clear h7 h6p
                    refine wp_region_quiet_below (by kernel_rfl) (by kernel_rfl) ?_
                    (try dsimp only [List.append])
                    repeat (go_big_quiet_step (first | (go_at_call 70;exact HN.out _ _) | (go_at_call 23;exact HL.out _ _) | (go_at_call 159;exact HP.out _ _) | (go_at_call 107;exact HV.out _ _) | (go_at_call 160;exact HT.out _ _)))
                    refine wpQuiet_nil ?_
                    intro _ hw'
                    obtain ⟨⟨dq,osq⟩,hw''⟩:=hw'
                    subst hw''
                    go_wp2
                    go_meet
                    case rel=>exact ⟨by rw [HF1.out];rfl,below_regrown w1 dq osq⟩
                  · rw [decide_eq_false h7] at HF1
                    have h7i:(te != ep)=true:=by rw [bne_iff_ne];exact h7
                    clear h7 h6p
                    refine wp_region_quiet_below (by kernel_rfl) (by kernel_rfl) ?_
                    (try dsimp only [List.append])
                    repeat (go_big_quiet_step (first | (go_at_call 70;exact HN.out _ _) | (go_at_call 23;exact HL.out _ _) | (go_at_call 159;exact HP.out _ _) | (go_at_call 107;exact HV.out _ _) | (go_at_call 160;exact HT.out _ _)))
                    refine wpQuiet_nil ?_
                    intro _ hw'
                    obtain ⟨⟨dq,osq⟩,hw''⟩:=hw'
                    subst hw''
                    go_wp2
                    go_meet
                    case rel=>exact ⟨by rw [HF1.out];rfl,below_regrown w1 dq osq⟩
            · rw [decide_eq_false h4,Bool.false_or] at HF1
              have h4i:decide (0 < st.length)=true:=by rw [decide_eq_true_iff];omega
              clear h4
              cases V0
              · rw [Bool.false_and] at HF1
                refine wp_region_quiet_below (by kernel_rfl) (by kernel_rfl) ?_
                (try dsimp only [List.append])
                repeat (go_big_quiet_step (first | (go_at_call 70;exact HN.out _ _) | (go_at_call 23;exact HL.out _ _) | (go_at_call 159;exact HP.out _ _) | (go_at_call 107;exact HV.out _ _) | (go_at_call 160;exact HT.out _ _)))
                refine wpQuiet_nil ?_
                intro _ hw'
                obtain ⟨⟨dq,osq⟩,hw''⟩:=hw'
                subst hw''
                go_wp2
                go_meet
                case rel=>exact ⟨by rw [HF1.out];rfl,below_regrown w1 dq osq⟩
              · rw [Bool.true_and] at HF1
                cases T0
                · rw [Bool.false_and] at HF1
                  refine wp_region_quiet_below (by kernel_rfl) (by kernel_rfl) ?_
                  (try dsimp only [List.append])
                  repeat (go_big_quiet_step (first | (go_at_call 70;exact HN.out _ _) | (go_at_call 23;exact HL.out _ _) | (go_at_call 159;exact HP.out _ _) | (go_at_call 107;exact HV.out _ _) | (go_at_call 160;exact HT.out _ _)))
                  refine wpQuiet_nil ?_
                  intro _ hw'
                  obtain ⟨⟨dq,osq⟩,hw''⟩:=hw'
                  subst hw''
                  go_wp2
                  go_meet
                  case rel=>exact ⟨by rw [HF1.out];rfl,below_regrown w1 dq osq⟩
                · rw [Bool.true_and] at HF1
                  by_cases h6:tt.length=0
                  · rw [HH0.out h6,Bool.not_false] at HF1
                    have h6i:decide (0 < tt.length)=false:=by rw [decide_eq_false_iff_not];omega
                    clear h6 HTc HHd HH0
                    refine wp_region_quiet_below (by kernel_rfl) (by kernel_rfl) ?_
                    (try dsimp only [List.append])
                    repeat (go_big_quiet_step (first | (go_at_call 70;exact HN.out _ _) | (go_at_call 23;exact HL.out _ _) | (go_at_call 159;exact HP.out _ _) | (go_at_call 107;exact HV.out _ _) | (go_at_call 160;exact HT.out _ _)))
                    refine wpQuiet_nil ?_
                    intro _ hw'
                    obtain ⟨⟨dq,osq⟩,hw''⟩:=hw'
                    subst hw''
                    go_wp2
                    go_meet
                    case rel=>exact ⟨by rw [HF1.out];rfl,below_regrown w1 dq osq⟩
                  · have h6p:0 < tt.length:=by omega
                    obtain ⟨b,off,rfl,t0⟩:=HTc.out h6p
                    have gt:=cell_regrown t0
                    rw [HHd.out rfl h6p,Bool.not_not] at HF1
                    have h6i:decide (0 < tt.length)=true:=by rw [decide_eq_true_iff];omega
                    have h6n:(0:Int) < (tt.length:Int):=by omega
                    generalize tt[0].ep=te at HF1 gt t0
                    clear h6 HTc HHd HH0 t0
                    by_cases h7:te=ep
                    · rw [decide_eq_true h7] at HF1
                      have h7i:(te != ep)=false:=by rw [bne_eq_false_iff_eq];exact h7
                      clear h7 h6p
                      refine wp_region_quiet_below (by kernel_rfl) (by kernel_rfl) ?_
                      (try dsimp only [List.append])
                      repeat (go_big_quiet_step (first | (go_at_call 70;exact HN.out _ _) | (go_at_call 23;exact HL.out _ _) | (go_at_call 159;exact HP.out _ _) | (go_at_call 107;exact HV.out _ _) | (go_at_call 160;exact HT.out _ _)))
                      refine wpQuiet_nil ?_
                      intro _ hw'
                      obtain ⟨⟨dq,osq⟩,hw''⟩:=hw'
                      subst hw''
                      go_wp2
                      go_meet
                      case rel=>exact ⟨by rw [HF1.out];rfl,below_regrown w1 dq osq⟩
                    · rw [decide_eq_false h7] at HF1
                      have h7i:(te != ep)=true:=by rw [bne_iff_ne];exact h7
                      clear h7 h6p
                      refine wp_region_quiet_below (by kernel_rfl) (by kernel_rfl) ?_
                      (try dsimp only [List.append])
                      repeat (go_big_quiet_step (first | (go_at_call 70;exact HN.out _ _) | (go_at_call 23;exact HL.out _ _) | (go_at_call 159;exact HP.out _ _) | (go_at_call 107;exact HV.out _ _) | (go_at_call 160;exact HT.out _ _)))
                      refine wpQuiet_nil ?_
                      intro _ hw'
                      obtain ⟨⟨dq,osq⟩,hw''⟩:=hw'
                      subst hw''
                      go_wp2
                      go_meet
                      case rel=>exact ⟨by rw [HF1.out];rfl,below_regrown w1 dq osq⟩
        · rw [decide_eq_false h2,Bool.false_and] at HF1
          have h2i:(be != ep)=true:=by rw [bne_iff_ne];exact h2
          clear h2
          refine wp_region_quiet_below (by kernel_rfl) (by kernel_rfl) ?_
          (try dsimp only [List.append])
          repeat (go_big_quiet_step (first | (go_at_call 70;exact HN.out _ _) | (go_at_call 23;exact HL.out _ _) | (go_at_call 159;exact HP.out _ _) | (go_at_call 107;exact HV.out _ _) | (go_at_call 160;exact HT.out _ _)))
          refine wpQuiet_nil ?_
          intro _ hw'
          obtain ⟨⟨dq,osq⟩,hw''⟩:=hw'
          subst hw''
          go_wp2
          go_meet
          case rel=>exact ⟨by rw [HF1.out];rfl,below_regrown w1 dq osq⟩
  case rest =>
    obtain ⟨rfl,hb2⟩:=hcut
    obtain ⟨w2,rfl⟩:∃ x,x=wc:=⟨_,rfl⟩
    have B2:=HB1.out.trans (hb2.mono HB1.out.size)
    have k2:=K1.out.below hb2 K1.out.lt
    clear x0 x1 x2 x3 x4 x5 x18 HN HL HP HV HT HHd HH0 HTc HF1 K1 hb2
    cases X1
    · rw [Bool.false_and] at HF
      clear k2 HQ HC HS2 HMd
      go_wp2
      go_ret
      exact ⟨ret_bool HF.out.symm,B2⟩
    · rw [Bool.true_and] at HF
      have qq:=fun (d:Nat) (os:Array Obj)=>B2.trans ((below_regrown w2 d os).mono B2.size)
      have HQ:=hide (fun (d:Nat) (os:Array Obj)=>Calls.regrown_of (HQ.out (HMd.out rfl) _ (qq d os)))
      have HC:=hide (fun (d:Nat) (os:Array Obj)=>Calls.regrown_of (HC.out (HMd.out rfl) _ (qq d os)))
      rw [HS2.out] at HF
      clear qq
      have y4:=k2.cell 4
      have y6:=k2.cell 6
      have y7:=k2.cell 7
      have y8:=k2.cell 8
      have y9:=k2.cell 9
      have y10:=k2.cell 10
      have y11:=k2.cell 11
      have y12:=k2.cell 12
      have y13:=k2.cell 13
      have y14:=k2.cell 14
      have y15:=k2.cell 15
      have y16:=k2.cell 16
      have y17:=k2.cell 17
      have y19:=k2.cell 19
      simp only [List.getElem?_cons_zero,List.getElem?_cons_succ] at y4 y6 y7 y8 y9 y10 y11 y12 y13 y14 y15 y16 y17 y19
      have g4:=cell_regrown y4
      have g6:=cell_regrown y6
      have g7:=cell_regrown y7
      have g8:=cell_regrown y8
      have g9:=cell_regrown y9
      have g10:=cell_regrown y10
      have g11:=cell_regrown y11
      have g12:=cell_regrown y12
      have g13:=cell_regrown y13
      have g14:=cell_regrown y14
      have g15:=cell_regrown y15
      have g16:=cell_regrown y16
      have g17:=cell_regrown y17
      have g19:=cell_regrown y19
      clear k2 HS2 HMd y4 y6 y7 y8 y9 y10 y11 y12 y13 y14 y15 y16 y17 y19
      have HB2:=hide B2
      clear B2
      have HI0:=hide (fun (d:Nat) (os:Array Obj)=>sameC_regrown (l1In_any rd 1 10000 (grow (redrawn w2 d) os)))
      cases h0:inB rd 1 10000
      · rw [h0,Bool.false_and] at HF
        rw [h0] at HI0
        clear h0
        go_upto_region 3 with fail
        refine wp_plain_quiet ?_
        dsimp only [List.append]
        repeat (go_big_quiet_step (first | (go_at_call 68;with_reducible exact HI0.out _ _)))
        refine wpQuiet_nil ?_
        intro _ hw'
        obtain ⟨⟨dq,osq⟩,hw''⟩:=hw'
        subst hw''
        go_wp2
        go_ret
        exact ⟨ret_bool HF.out.symm,HB2.out.trans ((below_regrown w2 dq osq).mono HB2.out.size)⟩
      · rw [h0, Bool.true_and] at HF
        rw [h0] at HI0
        clear h0
        by_cases h1:hr < rd
        · rw [decide_eq_true h1,Bool.true_and] at HF
          have h1i:decide (hr < rd)=true:=decide_eq_true h1
          clear h1
          by_cases h2:tr < rd
          · rw [decide_eq_true h2,Bool.true_and] at HF
            have h2i:decide (tr < rd)=true:=decide_eq_true h2
            clear h2
            have HI3:=hide (fun (d:Nat) (os:Array Obj)=>sameC_regrown (l1In_any vd 0 10000 (grow (redrawn w2 d) os)))
            cases h3:inB vd 0 10000
            · rw [h3,Bool.false_and] at HF
              rw [h3] at HI3
              clear h3
              go_upto_region 3 with fail
              refine wp_plain_quiet ?_
              dsimp only [List.append]
              repeat (go_big_quiet_step (first | (go_at_call 68;with_reducible exact HI0.out _ _) | (go_at_call 68;with_reducible exact HI3.out _ _)))
              refine wpQuiet_nil ?_
              intro _ hw'
              obtain ⟨⟨dq,osq⟩,hw''⟩:=hw'
              subst hw''
              go_wp2
              go_ret
              exact ⟨ret_bool HF.out.symm,HB2.out.trans ((below_regrown w2 dq osq).mono HB2.out.size)⟩
            · rw [h3, Bool.true_and] at HF
              rw [h3] at HI3
              clear h3
              have HI4:=hide (fun (d:Nat) (os:Array Obj)=>sameC_regrown (l1In_any ld 0 10000 (grow (redrawn w2 d) os)))
              cases h4:inB ld 0 10000
              · rw [h4,Bool.false_and] at HF
                rw [h4] at HI4
                clear h4
                go_upto_region 3 with fail
                refine wp_plain_quiet ?_
                dsimp only [List.append]
                repeat (go_big_quiet_step (first | (go_at_call 68;with_reducible exact HI0.out _ _) | (go_at_call 68;with_reducible exact HI3.out _ _) | (go_at_call 68;with_reducible exact HI4.out _ _)))
                refine wpQuiet_nil ?_
                intro _ hw'
                obtain ⟨⟨dq,osq⟩,hw''⟩:=hw'
                subst hw''
                go_wp2
                go_ret
                exact ⟨ret_bool HF.out.symm,HB2.out.trans ((below_regrown w2 dq osq).mono HB2.out.size)⟩
              · rw [h4, Bool.true_and] at HF
                rw [h4] at HI4
                clear h4
                cases Q0
                · rw [Bool.false_and] at HF
                  go_upto_region 3 with fail
                  refine wp_plain_quiet ?_
                  dsimp only [List.append]
                  repeat (go_big_quiet_step (first | (go_at_call 68;with_reducible exact HI0.out _ _) | (go_at_call 68;with_reducible exact HI3.out _ _) | (go_at_call 68;with_reducible exact HI4.out _ _) | (go_at_call 161;exact HQ.out _ _)))
                  refine wpQuiet_nil ?_
                  intro _ hw'
                  obtain ⟨⟨dq,osq⟩,hw''⟩:=hw'
                  subst hw''
                  go_wp2
                  go_ret
                  exact ⟨ret_bool HF.out.symm,HB2.out.trans ((below_regrown w2 dq osq).mono HB2.out.size)⟩
                · rw [Bool.true_and] at HF
                  cases C0
                  · rw [Bool.false_and] at HF
                    go_upto_region 3 with fail
                    refine wp_plain_quiet ?_
                    dsimp only [List.append]
                    repeat (go_big_quiet_step (first | (go_at_call 68;with_reducible exact HI0.out _ _) | (go_at_call 68;with_reducible exact HI3.out _ _) | (go_at_call 68;with_reducible exact HI4.out _ _) | (go_at_call 161;exact HQ.out _ _) | (go_at_call 162;exact HC.out _ _)))
                    refine wpQuiet_nil ?_
                    intro _ hw'
                    obtain ⟨⟨dq,osq⟩,hw''⟩:=hw'
                    subst hw''
                    go_wp2
                    go_ret
                    exact ⟨ret_bool HF.out.symm,HB2.out.trans ((below_regrown w2 dq osq).mono HB2.out.size)⟩
                  · rw [Bool.true_and] at HF
                    by_cases h7:vo.length<=1000
                    · rw [decide_eq_true h7,Bool.true_and] at HF
                      have h7i:decide ((vo.length:Int)<=1000)=true:=by rw [decide_eq_true_iff];omega
                      clear h7
                      by_cases h8:go.length<=1000
                      · rw [decide_eq_true h8,Bool.true_and] at HF
                        have h8i:decide ((go.length:Int)<=1000)=true:=by rw [decide_eq_true_iff];omega
                        clear h8
                        by_cases h9:dn.length<=200
                        · rw [decide_eq_true h9,Bool.true_and] at HF
                          have h9i:decide ((dn.length:Int)<=200)=true:=by rw [decide_eq_true_iff];omega
                          clear h9
                          have HL9:decide ((ps.length:Int)<=200)=decide (ps.length<=200):=by rw [decide_eq_decide];omega
                          rw [<- HL9] at HF
                          clear HL9
                          go_upto_region 3 with fail
                          refine wp_plain_quiet ?_
                          dsimp only [List.append]
                          repeat (go_big_quiet_step (first | (go_at_call 68;with_reducible exact HI0.out _ _) | (go_at_call 68;with_reducible exact HI3.out _ _) | (go_at_call 68;with_reducible exact HI4.out _ _) | (go_at_call 161;exact HQ.out _ _) | (go_at_call 162;exact HC.out _ _)))
                          refine wpQuiet_nil ?_
                          intro _ hw'
                          obtain ⟨⟨dq,osq⟩,hw''⟩:=hw'
                          subst hw''
                          go_wp2
                          go_ret
                          exact ⟨ret_bool HF.out.symm,HB2.out.trans ((below_regrown w2 dq osq).mono HB2.out.size)⟩
                        · rw [decide_eq_false h9,Bool.false_and] at HF
                          have h9i:decide ((dn.length:Int)<=200)=false:=by rw [decide_eq_false_iff_not];omega
                          clear h9
                          go_upto_region 3 with fail
                          refine wp_plain_quiet ?_
                          dsimp only [List.append]
                          repeat (go_big_quiet_step (first | (go_at_call 68;with_reducible exact HI0.out _ _) | (go_at_call 68;with_reducible exact HI3.out _ _) | (go_at_call 68;with_reducible exact HI4.out _ _) | (go_at_call 161;exact HQ.out _ _) | (go_at_call 162;exact HC.out _ _)))
                          refine wpQuiet_nil ?_
                          intro _ hw'
                          obtain ⟨⟨dq,osq⟩,hw''⟩:=hw'
                          subst hw''
                          go_wp2
                          go_ret
                          exact ⟨ret_bool HF.out.symm,HB2.out.trans ((below_regrown w2 dq osq).mono HB2.out.size)⟩
                      · rw [decide_eq_false h8,Bool.false_and] at HF
                        have h8i:decide ((go.length:Int)<=1000)=false:=by rw [decide_eq_false_iff_not];omega
                        clear h8
                        go_upto_region 3 with fail
                        refine wp_plain_quiet ?_
                        dsimp only [List.append]
                        repeat (go_big_quiet_step (first | (go_at_call 68;with_reducible exact HI0.out _ _) | (go_at_call 68;with_reducible exact HI3.out _ _) | (go_at_call 68;with_reducible exact HI4.out _ _) | (go_at_call 161;exact HQ.out _ _) | (go_at_call 162;exact HC.out _ _)))
                        refine wpQuiet_nil ?_
                        intro _ hw'
                        obtain ⟨⟨dq,osq⟩,hw''⟩:=hw'
                        subst hw''
                        go_wp2
                        go_ret
                        exact ⟨ret_bool HF.out.symm,HB2.out.trans ((below_regrown w2 dq osq).mono HB2.out.size)⟩
                    · rw [decide_eq_false h7,Bool.false_and] at HF
                      have h7i:decide ((vo.length:Int)<=1000)=false:=by rw [decide_eq_false_iff_not];omega
                      clear h7
                      go_upto_region 3 with fail
                      refine wp_plain_quiet ?_
                      dsimp only [List.append]
                      repeat (go_big_quiet_step (first | (go_at_call 68;with_reducible exact HI0.out _ _) | (go_at_call 68;with_reducible exact HI3.out _ _) | (go_at_call 68;with_reducible exact HI4.out _ _) | (go_at_call 161;exact HQ.out _ _) | (go_at_call 162;exact HC.out _ _)))
                      refine wpQuiet_nil ?_
                      intro _ hw'
                      obtain ⟨⟨dq,osq⟩,hw''⟩:=hw'
                      subst hw''
                      go_wp2
                      go_ret
                      exact ⟨ret_bool HF.out.symm,HB2.out.trans ((below_regrown w2 dq osq).mono HB2.out.size)⟩
          · rw [decide_eq_false h2,Bool.false_and] at HF
            have h2i:decide (tr < rd)=false:=decide_eq_false h2
            clear h2
            go_upto_region 3 with fail
            refine wp_plain_quiet ?_
            dsimp only [List.append]
            repeat (go_big_quiet_step (first | (go_at_call 68;with_reducible exact HI0.out _ _)))
            refine wpQuiet_nil ?_
            intro _ hw'
            obtain ⟨⟨dq,osq⟩,hw''⟩:=hw'
            subst hw''
            go_wp2
            go_ret
            exact ⟨ret_bool HF.out.symm,HB2.out.trans ((below_regrown w2 dq osq).mono HB2.out.size)⟩
        · rw [decide_eq_false h1,Bool.false_and] at HF
          have h1i:decide (hr < rd)=false:=decide_eq_false h1
          clear h1
          go_upto_region 3 with fail
          refine wp_plain_quiet ?_
          dsimp only [List.append]
          repeat (go_big_quiet_step (first | (go_at_call 68;with_reducible exact HI0.out _ _)))
          refine wpQuiet_nil ?_
          intro _ hw'
          obtain ⟨⟨dq,osq⟩,hw''⟩:=hw'
          subst hw''
          go_wp2
          go_ret
          exact ⟨ret_bool HF.out.symm,HB2.out.trans ((below_regrown w2 dq osq).mono HB2.out.size)⟩
end Go.Proofs.YtckahjabljffjaaGreat
namespace Go.Proofs.YtckahjabljffjaaGreat
open Go.RowKit Go.Sort
set_option linter.unusedVariables false
theorem ret_intZ {a b:Int} (h:a=b):Ending.returned (Value.int .i64 a)=Ending.returned (Value.int .i64 b):=by rw [h]
def atZ (ns:List Nd) (s:ByteArray):Int:=if atB ns s=true then ((ns.findIdx (fun n=>decide (n.nm=s)):Nat):Int) else -1
theorem atZ_yes {ns:List Nd} {s:ByteArray} {k:Nat} (hk:k < ns.length) (h:ns[k].nm=s) (hlo:∀ j (h:j < ns.length),j < k->ns[j].nm ≠ s):atZ ns s=(k:Int):=by
  have hf:ns.findIdx (fun n=>decide (n.nm=s))=k:=(List.findIdx_eq hk).2 ⟨by simpa using h,fun j hj=>by simpa using hlo j (by omega) hj⟩
  unfold atZ
  rw [if_pos (atB_yes hk h),hf]
theorem atZ_no {ns:List Nd} {s:ByteArray} (h:∀ j (hj:j < ns.length),ns[j].nm ≠ s):atZ ns s=-1:=by
  unfold atZ
  rw [atB_no h]
  rfl
theorem atZ_at (ns:List Nd) (s:ByteArray):atB ns s=decide (0<=atZ ns s):=by
  unfold atZ
  cases h:atB ns s
  · rfl
  · rw [if_pos rfl,eq_comm,decide_eq_true_iff];omega
theorem specL15AtZ_any (ep:Int) (va vf vb vs vm:Value) (adn:Option Addr) (cpn:Nat) (ns:List Nd) (s:ByteArray) (w:World) (hN:RdNs w (.slice adn ns.length cpn) ns) (hl:ns.length<=4000000) :
    Calls Tryz.prog 57 #[.agg #[.int .i64 ep,va,vf,.slice adn ns.length cpn,vb,vs,vm],.string s] w fun e w'=>e=.returned (.int .i64 (atZ ns s))/\Below w.heap.size w w':=by
  obtain ⟨w1,hw1⟩:∃ x,w.alloc (.cells #[.int .i64 ep,va,vf,.slice adn ns.length cpn,vb,vs,vm] 36)=x:=⟨_,rfl⟩
  have b1:Below w.heap.size w w1:=by rw [<- hw1];exact (Below.refl _ w).alloc (Nat.le_refl _) _
  have k1:Blk w1 w.heap.size 36 [.int .i64 ep,va,vf,.slice adn ns.length cpn,vb,vs,vm]:=by rw [<- hw1];exact Blk.new w _ _
  have x3:=k1.cell 3
  simp only [List.getElem?_cons_zero,List.getElem?_cons_succ] at x3
  have HN:=hide hN
  have B1:=hide b1
  clear hN b1 k1
  go_enter Tryz.func57,Tryz.ntmps57
  go_upto_region 1 with fail
  (try rw [hw1])
  clear hw1
  obtain ⟨M,hM⟩:∃ x,(.agg #[.int .i64 ep,va,vf,.slice adn ns.length cpn,vb,vs,vm]:Value)=x:=⟨_,rfl⟩
  rw [hM]
  clear hM
  go_wp2
  go_loopw [5] (fun iv wr=>∃ k:Nat,k<=ns.length/\iv=.int .i64 (k:Int)/\(∀ j (h:j < ns.length),j < k->ns[j].nm ≠ s)/\wr=w1) (fun iv _=>ns.length - (intOf iv).toNat)
  case atStart=>exact ⟨0,Nat.zero_le _,rfl,(fun j _ h=>by omega),rfl⟩
  case round =>
    obtain ⟨k,hk,rfl,hlo,rfl⟩:=hrel
    have Hlo:=hide hlo
    clear hlo
    by_cases hlt:k < ns.length
    · obtain ⟨b0,off,rfl,h3,hcell⟩:=HN.out.at20 (by omega)
      obtain ⟨u,hat,-⟩:=hcell k hlt
      have c0:=(range_below hat B1.out h3) 0 (.string ns[k].nm) rfl
      rw [Nat.add_zero] at c0
      have hki:(k:Int) < (ns.length:Int):=by omega
      have hk0:(0:Int)<=(k:Int):=by omega
      have Hno:Hid (ns[k].nm ≠ s->∀ j (h:j < ns.length),j < k+1->ns[j].nm ≠ s):=hide (fun h j hj hjk=>by
        by_cases e:j=k
        · subst e;exact h
        · exact Hlo.out j hj (by omega))
      have Hyes:Hid (ns[k].nm=s->atZ ns s=(k:Int)):=hide (fun h=>atZ_yes hlt h Hlo.out)
      clear hat hcell Hlo
      generalize ns[k].nm=t at c0 Hno Hyes
      by_cases h:t=s
      · have hy:=hide (Hyes.out h)
        subst h
        clear Hno Hyes
        go_wp2
        go_ret
        exact ⟨ret_intZ hy.out.symm,B1.out⟩
      · have hn:=hide (Hno.out h)
        have hq:=bytes_ne h
        clear Hno Hyes h
        go_wp2
        go_roundw
        case rel=>exact ⟨k+1,by omega,by go_num,hn.out,by first | rfl | trivial⟩
        case measure=>simp [intOf];omega
    · have hf:=hide (atZ_no (ns:=ns) (s:=s) (fun j hj=>Hlo.out j hj (by omega)))
      go_wp2
      go_ret
      exact ⟨ret_intZ hf.out.symm,B1.out⟩
theorem specNodesOk_any (ep:Int) (va vs:Value) (adf adn adb adm:Option Addr) (cpf cpn cpb cpm:Nat) (fo:List ByteArray) (ns:List Nd) (bs:List Bk) (ms:List Mg) (w:World) (Q:Wq w adf adn adb adm cpf cpn cpb cpm fo ns bs ms) :
    Calls Tryz.prog 59 #[.agg #[.int .i64 ep,va,.slice adf fo.length cpf,.slice adn ns.length cpn,.slice adb bs.length cpb,vs,.slice adm ms.length cpm]] w fun e w'=>e=.returned (.bool (nodesB fo bs ns))/\Below w.heap.size w w':=by
  obtain ⟨w1,hw1⟩:∃ x,w.alloc (.cells #[.int .i64 ep,va,.slice adf fo.length cpf,.slice adn ns.length cpn,.slice adb bs.length cpb,vs,.slice adm ms.length cpm] 36)=x:=⟨_,rfl⟩
  have b1:Below w.heap.size w w1:=by rw [<- hw1];exact (Below.refl _ w).alloc (Nat.le_refl _) _
  have K1:=hide (show Blk w1 w.heap.size 36 [.int .i64 ep,va,.slice adf fo.length cpf,.slice adn ns.length cpn,.slice adb bs.length cpb,vs,.slice adm ms.length cpm] from by rw [<- hw1];exact Blk.new w _ _)
  have IW:=hide (show (Tryz.prog.info? 36).map (·.size)=some ([.int .i64 ep,va,.slice adf fo.length cpf,.slice adn ns.length cpn,.slice adb bs.length cpb,vs,.slice adm ms.length cpm]:List Value).length from infoWd7)
  have B1:=hide b1
  have HQ:=hide Q
  have HX:Hid (nodesB fo bs ns=(decide (ns.length<=12) && (List.range ns.length).all (ndAt fo bs ns))):=hide rfl
  have HO:=hide (fun (n:Nd) (v:Nv) (V:World) (hr:RdNd V n v) (hf:FewNd n) (hg:FitNd n)=>specNodeOk_any n v V hr hf hg)
  have HC:=hide (fun (s:ByteArray) (V:World) (hV:Below w.heap.size w V)=>specHas_any (.slice adf fo.length cpf) fo s V (Q.f.below hV (Nat.le_refl _)) Q.lf)
  have HR:=hide (fun (al:Option Addr) (cl:Nat) (l:List Bk) (V:World) (hV:Below w.heap.size w V) (hL:RdKs V (.slice al l.length cl) l) (hll:l.length<=4000000) (hfl:∀ x ∈ l,FewK x)=>specL15Real_any ep va (.slice adf fo.length cpf) (.slice adn ns.length cpn) vs (.slice adm ms.length cpm) adb cpb bs al cl l V (Q.b.below hV (Nat.le_refl _)) Q.lb Q.fb hL hll hfl)
  have hx2:([.int .i64 ep,va,.slice adf fo.length cpf,.slice adn ns.length cpn,.slice adb bs.length cpb,vs,.slice adm ms.length cpm]:List Value)[2]?=some (.slice adf fo.length cpf):=rfl
  have hx3:([.int .i64 ep,va,.slice adf fo.length cpf,.slice adn ns.length cpn,.slice adb bs.length cpb,vs,.slice adm ms.length cpm]:List Value)[3]?=some (.slice adn ns.length cpn):=rfl
  clear Q b1
  obtain ⟨cw,hcw⟩:∃ x,([.int .i64 ep,va,.slice adf fo.length cpf,.slice adn ns.length cpn,.slice adb bs.length cpb,vs,.slice adm ms.length cpm]:List Value)=x:=⟨_,rfl⟩
  have hcw2:(.agg #[.int .i64 ep,va,.slice adf fo.length cpf,.slice adn ns.length cpn,.slice adb bs.length cpb,vs,.slice adm ms.length cpm]:Value)=.agg cw.toArray:=by rw [<- hcw]
  rw [hcw] at K1 IW hx2 hx3
  rw [hcw2] at HR ⊢
  rw [show (w.alloc (.cells #[.int .i64 ep,va,.slice adf fo.length cpf,.slice adn ns.length cpn,.slice adb bs.length cpb,vs,.slice adm ms.length cpm] 36))=w.alloc (.cells cw.toArray 36) from by rw [<- hcw]] at hw1
  clear hcw hcw2
  have Y3:=hide (fun V (hV:Below w1.heap.size w1 V)=>(show V.cell? ⟨w.heap.size,3,none⟩=some (.slice adn ns.length cpn) from by
    have a:=(range_below (blk_range K1.out) hV K1.out.lt) 3 _ hx3
    rwa [Nat.zero_add] at a))
  generalize nodesB fo bs ns=X at HX ⊢
  go_enter Tryz.func59,Tryz.ntmps59
  go_upto_region 1 with fail
  (try rw [hw1])
  clear hw1
  go_wp2
  go_loopw [3] (fun iv wr=>∃ k:Nat,k<=ns.length/\iv=.int .i64 (k:Int)/\(∀ j,j < k->ndAt fo bs ns j=true)/\Below w1.heap.size w1 wr) (fun iv _=>ns.length - (intOf iv).toNat)
  case atStart=>exact ⟨0,Nat.zero_le _,rfl,(fun j h=>by omega),Below.refl _ _⟩
  case round =>
    obtain ⟨k,hk,rfl,hlo,hb⟩:=hrel
    have Hlo:=hide hlo
    clear hlo
    have hln:=HQ.out.ln
    by_cases hlt:k < ns.length
    · obtain ⟨b0, off,rfl,h3,hcell⟩:=HQ.out.n.at20 (by omega)
      obtain ⟨u,hat,hrl⟩:=hcell k hlt
      have hBr:=B1.out.trans (hb.mono B1.out.size)
      have Hrg:=hide (range_below hat hBr h3)
      have hrw:=hrl.below hBr (Nat.le_refl _)
      have hfw:=HQ.out.fn _ (List.getElem_mem hlt)
      have hgw:=HQ.out.gn _ (List.getElem_mem hlt)
      have Hno:Hid (ndAt fo bs ns k=false->X=false):=hide (fun h=>by rw [HX.out,rangeW_no hlt h,Bool.and_false])
      have Hyes:Hid (ndAt fo bs ns k=true->∀ j,j < k+1->ndAt fo bs ns j=true):=hide (fun h j hjk=>by
        by_cases e:j=k
        · subst e;exact h
        · exact Hlo.out j (by omega))
      have Hq:Hid (ndAt fo bs ns k=(nodB ns[k] && (!hasN fo ns[k].nm && (upAt ns k && realB bs ns[k].tt)))):=hide (ndAt_eq hlt)
      obtain ⟨am,cm,eb⟩:=hrw.kt.shape
      have hki:(k:Int) < (ns.length:Int):=by omega
      have hk0:(0:Int)<=(k:Int):=by omega
      have hz1:=K1.out.lt
      have yr3:=Y3.out wr hb
      have zb:Blk (wr.alloc (.cells #[.string { data:=#[] },.int .i64 0,.int .i64 0,.slice none 0 0,.slice none 0 0,.slice none 0 0,.int .i64 0,.int .i64 0,.int .i64 0,.int .i64 0,.slice none 0 0,.int .i64 0,.slice none 0 0,.slice none 0 0,.int .i64 0,.slice none 0 0,.slice none 0 0,.slice none 0 0,.slice none 0 0,.slice none 0 0] 75)) wr.heap.size 75 [.string { data:=#[] },.int .i64 0,.int .i64 0,.slice none 0 0,.slice none 0 0,.slice none 0 0,.int .i64 0,.int .i64 0,.int .i64 0,.int .i64 0,.slice none 0 0,.int .i64 0,.slice none 0 0,.slice none 0 0,.int .i64 0,.slice none 0 0,.slice none 0 0,.slice none 0 0,.slice none 0 0,.slice none 0 0]:=Blk.new wr _ _
      have H1:=hide (show (noC ns[k] u).toArray.all (·.oneCell')=true from by rw [List.all_toArray];exact noC_one hrw)
      have IE:=hide (show (Tryz.prog.info? 75).map (·.size)=some (noC ns[k] u).length from infoNd20)
      have Hth:=hide (show (wr.alloc (.cells #[.string { data:=#[] },.int .i64 0,.int .i64 0,.slice none 0 0,.slice none 0 0,.slice none 0 0,.int .i64 0,.int .i64 0,.int .i64 0,.int .i64 0,.slice none 0 0,.int .i64 0,.slice none 0 0,.slice none 0 0,.int .i64 0,.slice none 0 0,.slice none 0 0,.slice none 0 0,.slice none 0 0,.slice none 0 0] 75)).there wr.heap.size 0 (noC ns[k] u).toArray.size from zb.there rfl)
      obtain ⟨w3,hw3⟩:∃ x,(wr.alloc (.cells #[.string { data:=#[] },.int .i64 0,.int .i64 0,.slice none 0 0,.slice none 0 0,.slice none 0 0,.int .i64 0,.int .i64 0,.int .i64 0,.int .i64 0,.slice none 0 0,.int .i64 0,.slice none 0 0,.slice none 0 0,.int .i64 0,.slice none 0 0,.slice none 0 0,.slice none 0 0,.slice none 0 0,.slice none 0 0] 75)).setCells wr.heap.size 0 (noC ns[k] u)=x:=⟨_,rfl⟩
      have J3:=hide (show Blk w3 wr.heap.size 75 (noC ns[k] u) from by rw [<- hw3];exact blk_all zb rfl)
      have b3:Below wr.heap.size wr w3:=by rw [<- hw3];exact ((Below.refl _ wr).alloc (Nat.le_refl _) _).trans (putC_below (Nat.le_refl _) _ _ _)
      have B3:=hide (hb.trans (b3.mono hb.size))
      have B3w:=hBr.trans (b3.mono hBr.size)
      have R3:=hrw.below b3 (Nat.le_refl _)
      have qq:=fun (d:Nat) (os:Array Obj)=>below_regrown w3 d os
      have HO3:=hide (fun (d:Nat) (os:Array Obj)=>Calls.regrown_of (HO.out ns[k] u (grow (redrawn w3 d) os) (R3.below (qq d os) (Nat.le_refl _)) hfw hgw))
      have HC3:=hide (fun (d:Nat) (os:Array Obj)=>Calls.regrown_of (HC.out ns[k].nm (grow (redrawn w3 d) os) (B3w.trans ((qq d os).mono B3w.size))))
      have HR3:=hide (fun (d:Nat) (os:Array Obj)=>Calls.regrown_of (HR.out am cm ns[k].tt (grow (redrawn w3 d) os) (B3w.trans ((qq d os).mono B3w.size)) (by rw [<- eb];exact (R3.below (qq d os) (Nat.le_refl _)).kt) hfw.nt hfw.ft))
      have rw3:=range_below (range_below (blk_range K1.out) hb K1.out.lt) b3 (by have:=hb.size;omega)
      have RW:=hide (range_regrown rw3 (by have:=hb.size;have:=b3.size;omega))
      have RJ:=hide (range_regrown (blk_range J3.out) J3.out.lt)
      have g2:=cell_regrown (show w3.cell? ⟨w.heap.size,2,none⟩=some (.slice adf fo.length cpf) from by have a:=rw3 2 _ hx2;rwa [Nat.zero_add] at a)
      have g3:=cell_regrown (show w3.cell? ⟨w.heap.size,3,none⟩=some (.slice (some ⟨b0,off,none⟩) ns.length cpn) from by have a:=rw3 3 _ hx3;rwa [Nat.zero_add] at a)
      have j0:=cell_regrown (show w3.cell? ⟨wr.heap.size,0,none⟩=some (.string ns[k].nm) from J3.out.cell 0)
      have j5:=cell_regrown (show w3.cell? ⟨wr.heap.size,5,none⟩=some (.slice am ns[k].tt.length cm) from by rw [<- eb];exact J3.out.cell 5)
      have HP:=hide (show ∀ (hp:0 < k),w3.cell? ⟨b0,off+(k - 1) * 20,none⟩=some (.string (ns[k - 1]'(by omega)).nm) from fun hp=>by
        obtain ⟨v,ha,-⟩:=hcell (k - 1) (by omega)
        have a:=(range_below ha B3w h3) 0 _ rfl
        rwa [Nat.add_zero] at a)
      have HU:=hide (show ∀ (hp:0 < k),upAt ns k=Op.bytesLess (ns[k - 1]'(by omega)).nm.toList ns[k].nm.toList from fun hp=>upAt_eq hlt hp)
      have HU0:=hide (show k=0->upAt ns k=true from upAt_none)
      rw [show noV ns[k] u=.agg (noC ns[k] u).toArray from rfl] at HO3
      have Hw3:=hide hw3
      clear hat hrl hcell hb hrw b3 zb hw3 hBr Hlo hfw hgw eb R3 hz1 B3w qq rw3 J3 Y3
      generalize ndAt fo bs ns k=Y at Hno Hyes Hq
      generalize nodB ns[k]=G at HO3 Hq
      generalize realB bs ns[k].tt=H at HR3 Hq
      generalize hasN fo ns[k].nm=C at HC3 Hq
      generalize ns[k].tt.length=tn at j5 HR3
      generalize upAt ns k=U at HU HU0 Hq
      generalize ns[k].nm=nm at j0 HC3 HU
      generalize noC ns[k] u=cs at Hrg H1 IE Hth Hw3 RJ HO3
      by_cases hk1:k=0
      · have hd : decide (0 < k)=false:=by simp;omega
        rw [HU0.out hk1,Bool.true_and] at Hq
        clear HU HU0 HP hk1
        cases G
        · rw [Bool.false_and] at Hq
          have hn:=hide (Hno.out Hq.out)
          clear Hno Hyes Hq
          go_wp2_with (first
            | (refine load_mid 75 _ rfl b0 (off+k * 20) rfl cs _ Hrg.out Tryz.underlying75 rfl IE.out (by rfl) ?_)
            | (refine wpList_store_mid rfl 75 _ _ rfl wr.heap.size 0 cs.toArray rfl rfl Hth.out (by simpa using IE.out) H1.out ?_;rw [Hw3.out])
            | fail)
          refine wp_region_quiet_below (by kernel_rfl) (by kernel_rfl) ?_
          (try dsimp only [List.append])
          (try simp only [Act.put])
          (first | go_big_quiet_skip | (refine quiet_load_mid 75 _ rfl wr.heap.size (0) rfl cs _ RJ.out Tryz.underlying75 rfl IE.out (by rfl) ?_;change wpQuiet _ _ _ _ _ (Act.put _ (some 17) _);simp only [Act.put,List.setIfInBounds_toArray,List.set_cons_zero,List.set_cons_succ]))
          iterate 26 (go_big_quiet_step (first | (go_at_call 26;exact HC3.out _ _) | (go_at_call 114;exact HO3.out _ _) | (go_at_call 58;exact HR3.out _ _)))
          (first | go_big_quiet_skip | (refine quiet_load_mid 36 _ rfl w.heap.size (0) rfl cw _ RW.out Tryz.underlying36 rfl IW.out (by rfl) ?_;change wpQuiet _ _ _ _ _ (Act.put _ (some 44) _);simp only [Act.put,List.setIfInBounds_toArray,List.set_cons_zero,List.set_cons_succ]))
          iterate 5 (go_big_quiet_step (first | (go_at_call 26;exact HC3.out _ _) | (go_at_call 114;exact HO3.out _ _) | (go_at_call 58;exact HR3.out _ _)))
          refine wpQuiet_nil ?_
          intro _ hw'
          obtain ⟨⟨dq,osq⟩,hw''⟩:=hw'
          subst hw''
          go_wp2
          go_ret
          exact ⟨ret_bool hn.out.symm,B1.out.trans ((B3.out.trans ((below_regrown w3 dq osq).mono B3.out.size)).mono B1.out.size)⟩
        · rw [Bool.true_and] at Hq
          cases C
          · rw [Bool.not_false,Bool.true_and] at Hq
            cases H
            · skip
              have hn:=hide (Hno.out Hq.out)
              clear Hno Hyes Hq
              go_wp2_with (first
                | (refine load_mid 75 _ rfl b0 (off+k * 20) rfl cs _ Hrg.out Tryz.underlying75 rfl IE.out (by rfl) ?_)
                | (refine wpList_store_mid rfl 75 _ _ rfl wr.heap.size 0 cs.toArray rfl rfl Hth.out (by simpa using IE.out) H1.out ?_;rw [Hw3.out])
                | fail)
              refine wp_region_quiet_below (by kernel_rfl) (by kernel_rfl) ?_
              (try dsimp only [List.append])
              (try simp only [Act.put])
              (first | go_big_quiet_skip | (refine quiet_load_mid 75 _ rfl wr.heap.size (0) rfl cs _ RJ.out Tryz.underlying75 rfl IE.out (by rfl) ?_;change wpQuiet _ _ _ _ _ (Act.put _ (some 17) _);simp only [Act.put,List.setIfInBounds_toArray,List.set_cons_zero,List.set_cons_succ]))
              iterate 26 (go_big_quiet_step (first | (go_at_call 26;exact HC3.out _ _) | (go_at_call 114;exact HO3.out _ _) | (go_at_call 58;exact HR3.out _ _)))
              (first | go_big_quiet_skip | (refine quiet_load_mid 36 _ rfl w.heap.size (0) rfl cw _ RW.out Tryz.underlying36 rfl IW.out (by rfl) ?_;change wpQuiet _ _ _ _ _ (Act.put _ (some 44) _);simp only [Act.put,List.setIfInBounds_toArray,List.set_cons_zero,List.set_cons_succ]))
              iterate 5 (go_big_quiet_step (first | (go_at_call 26;exact HC3.out _ _) | (go_at_call 114;exact HO3.out _ _) | (go_at_call 58;exact HR3.out _ _)))
              refine wpQuiet_nil ?_
              intro _ hw'
              obtain ⟨⟨dq,osq⟩,hw''⟩:=hw'
              subst hw''
              go_wp2
              go_ret
              exact ⟨ret_bool hn.out.symm,B1.out.trans ((B3.out.trans ((below_regrown w3 dq osq).mono B3.out.size)).mono B1.out.size)⟩
            · skip
              have Hy:=hide (Hyes.out Hq.out)
              clear Hno Hyes Hq
              go_wp2_with (first
                | (refine load_mid 75 _ rfl b0 (off+k * 20) rfl cs _ Hrg.out Tryz.underlying75 rfl IE.out (by rfl) ?_)
                | (refine wpList_store_mid rfl 75 _ _ rfl wr.heap.size 0 cs.toArray rfl rfl Hth.out (by simpa using IE.out) H1.out ?_;rw [Hw3.out])
                | fail)
              refine wp_region_quiet_below (by kernel_rfl) (by kernel_rfl) ?_
              (try dsimp only [List.append])
              (try simp only [Act.put])
              (first | go_big_quiet_skip | (refine quiet_load_mid 75 _ rfl wr.heap.size (0) rfl cs _ RJ.out Tryz.underlying75 rfl IE.out (by rfl) ?_;change wpQuiet _ _ _ _ _ (Act.put _ (some 17) _);simp only [Act.put,List.setIfInBounds_toArray,List.set_cons_zero,List.set_cons_succ]))
              iterate 26 (go_big_quiet_step (first | (go_at_call 26;exact HC3.out _ _) | (go_at_call 114;exact HO3.out _ _) | (go_at_call 58;exact HR3.out _ _)))
              (first | go_big_quiet_skip | (refine quiet_load_mid 36 _ rfl w.heap.size (0) rfl cw _ RW.out Tryz.underlying36 rfl IW.out (by rfl) ?_;change wpQuiet _ _ _ _ _ (Act.put _ (some 44) _);simp only [Act.put,List.setIfInBounds_toArray,List.set_cons_zero,List.set_cons_succ]))
              iterate 5 (go_big_quiet_step (first | (go_at_call 26;exact HC3.out _ _) | (go_at_call 114;exact HO3.out _ _) | (go_at_call 58;exact HR3.out _ _)))
              refine wpQuiet_nil ?_
              intro _ hw'
              obtain ⟨⟨dq,osq⟩,hw''⟩:=hw'
              subst hw''
              go_wp2
              go_roundw
              case rel=>exact ⟨k+1,by omega,by go_num,Hy.out,B3.out.trans ((below_regrown w3 dq osq).mono B3.out.size)⟩
              case measure=>simp [intOf];omega
          · rw [Bool.not_true,Bool.false_and] at Hq
            have hn:=hide (Hno.out Hq.out)
            clear Hno Hyes Hq
            go_wp2_with (first
              | (refine load_mid 75 _ rfl b0 (off+k * 20) rfl cs _ Hrg.out Tryz.underlying75 rfl IE.out (by rfl) ?_)
              | (refine wpList_store_mid rfl 75 _ _ rfl wr.heap.size 0 cs.toArray rfl rfl Hth.out (by simpa using IE.out) H1.out ?_;rw [Hw3.out])
              | fail)
            refine wp_region_quiet_below (by kernel_rfl) (by kernel_rfl) ?_
            (try dsimp only [List.append])
            (try simp only [Act.put])
            (first | go_big_quiet_skip | (refine quiet_load_mid 75 _ rfl wr.heap.size (0) rfl cs _ RJ.out Tryz.underlying75 rfl IE.out (by rfl) ?_;change wpQuiet _ _ _ _ _ (Act.put _ (some 17) _);simp only [Act.put,List.setIfInBounds_toArray,List.set_cons_zero,List.set_cons_succ]))
            iterate 26 (go_big_quiet_step (first | (go_at_call 26;exact HC3.out _ _) | (go_at_call 114;exact HO3.out _ _) | (go_at_call 58;exact HR3.out _ _)))
            (first | go_big_quiet_skip | (refine quiet_load_mid 36 _ rfl w.heap.size (0) rfl cw _ RW.out Tryz.underlying36 rfl IW.out (by rfl) ?_;change wpQuiet _ _ _ _ _ (Act.put _ (some 44) _);simp only [Act.put,List.setIfInBounds_toArray,List.set_cons_zero,List.set_cons_succ]))
            iterate 5 (go_big_quiet_step (first | (go_at_call 26;exact HC3.out _ _) | (go_at_call 114;exact HO3.out _ _) | (go_at_call 58;exact HR3.out _ _)))
            refine wpQuiet_nil ?_
            intro _ hw'
            obtain ⟨⟨dq,osq⟩,hw''⟩:=hw'
            subst hw''
            go_wp2
            go_ret
            exact ⟨ret_bool hn.out.symm,B1.out.trans ((B3.out.trans ((below_regrown w3 dq osq).mono B3.out.size)).mono B1.out.size)⟩
      · have hpos : (0:Int) < (k:Int):=by omega
        have hposN:0 < k:=by omega
        have hd1:decide (0 < k)=true:=by simp;omega
        have hix:((k:Int) - 1).toNat=k - 1:=by omega
        have hix1:(0:Int)<=(k:Int) - 1:=by omega
        have hix2:(k:Int) - 1 < (ns.length:Int):=by omega
        have gp:=cell_regrown (HP.out hposN)
        rw [HU.out hposN] at Hq
        generalize (ns[k - 1]'(by omega)).nm=pn at gp Hq
        clear HU HU0 HP hk1
        cases hless:Op.bytesLess pn.toList nm.toList
        · rw [hless,Bool.false_and,Bool.and_false,Bool.and_false] at Hq
          cases G
          · skip
            have hn:=hide (Hno.out Hq.out)
            clear Hno Hyes Hq
            go_wp2_with (first
              | (refine load_mid 75 _ rfl b0 (off+k * 20) rfl cs _ Hrg.out Tryz.underlying75 rfl IE.out (by rfl) ?_)
              | (refine wpList_store_mid rfl 75 _ _ rfl wr.heap.size 0 cs.toArray rfl rfl Hth.out (by simpa using IE.out) H1.out ?_;rw [Hw3.out])
              | fail)
            refine wp_region_quiet_below (by kernel_rfl) (by kernel_rfl) ?_
            (try dsimp only [List.append])
            (try simp only [Act.put])
            (first | go_big_quiet_skip | (refine quiet_load_mid 75 _ rfl wr.heap.size (0) rfl cs _ RJ.out Tryz.underlying75 rfl IE.out (by rfl) ?_;change wpQuiet _ _ _ _ _ (Act.put _ (some 17) _);simp only [Act.put,List.setIfInBounds_toArray,List.set_cons_zero,List.set_cons_succ]))
            iterate 26 (go_big_quiet_step (first | (go_at_call 26;exact HC3.out _ _) | (go_at_call 114;exact HO3.out _ _) | (go_at_call 58;exact HR3.out _ _)))
            (first | go_big_quiet_skip | (refine quiet_load_mid 36 _ rfl w.heap.size (0) rfl cw _ RW.out Tryz.underlying36 rfl IW.out (by rfl) ?_;change wpQuiet _ _ _ _ _ (Act.put _ (some 44) _);simp only [Act.put,List.setIfInBounds_toArray,List.set_cons_zero,List.set_cons_succ]))
            iterate 5 (go_big_quiet_step (first | (go_at_call 26;exact HC3.out _ _) | (go_at_call 114;exact HO3.out _ _) | (go_at_call 58;exact HR3.out _ _)))
            refine wpQuiet_nil ?_
            intro _ hw'
            obtain ⟨⟨dq,osq⟩,hw''⟩:=hw'
            subst hw''
            go_wp2
            go_ret
            exact ⟨ret_bool hn.out.symm,B1.out.trans ((B3.out.trans ((below_regrown w3 dq osq).mono B3.out.size)).mono B1.out.size)⟩
          · cases C
            · skip
              have hn:=hide (Hno.out Hq.out)
              clear Hno Hyes Hq
              go_wp2_with (first
                | (refine load_mid 75 _ rfl b0 (off+k * 20) rfl cs _ Hrg.out Tryz.underlying75 rfl IE.out (by rfl) ?_)
                | (refine wpList_store_mid rfl 75 _ _ rfl wr.heap.size 0 cs.toArray rfl rfl Hth.out (by simpa using IE.out) H1.out ?_;rw [Hw3.out])
                | fail)
              refine wp_region_quiet_below (by kernel_rfl) (by kernel_rfl) ?_
              (try dsimp only [List.append])
              (try simp only [Act.put])
              (first | go_big_quiet_skip | (refine quiet_load_mid 75 _ rfl wr.heap.size (0) rfl cs _ RJ.out Tryz.underlying75 rfl IE.out (by rfl) ?_;change wpQuiet _ _ _ _ _ (Act.put _ (some 17) _);simp only [Act.put,List.setIfInBounds_toArray,List.set_cons_zero,List.set_cons_succ]))
              iterate 26 (go_big_quiet_step (first | (go_at_call 26;exact HC3.out _ _) | (go_at_call 114;exact HO3.out _ _) | (go_at_call 58;exact HR3.out _ _)))
              (first | go_big_quiet_skip | (refine quiet_load_mid 36 _ rfl w.heap.size (0) rfl cw _ RW.out Tryz.underlying36 rfl IW.out (by rfl) ?_;change wpQuiet _ _ _ _ _ (Act.put _ (some 44) _);simp only [Act.put,List.setIfInBounds_toArray,List.set_cons_zero,List.set_cons_succ]))
              iterate 5 (go_big_quiet_step (first | (go_at_call 26;exact HC3.out _ _) | (go_at_call 114;exact HO3.out _ _) | (go_at_call 58;exact HR3.out _ _)))
              refine wpQuiet_nil ?_
              intro _ hw'
              obtain ⟨⟨dq,osq⟩,hw''⟩:=hw'
              subst hw''
              go_wp2
              go_ret
              exact ⟨ret_bool hn.out.symm,B1.out.trans ((B3.out.trans ((below_regrown w3 dq osq).mono B3.out.size)).mono B1.out.size)⟩
            · skip
              have hn:=hide (Hno.out Hq.out)
              clear Hno Hyes Hq
              go_wp2_with (first
                | (refine load_mid 75 _ rfl b0 (off+k * 20) rfl cs _ Hrg.out Tryz.underlying75 rfl IE.out (by rfl) ?_)
                | (refine wpList_store_mid rfl 75 _ _ rfl wr.heap.size 0 cs.toArray rfl rfl Hth.out (by simpa using IE.out) H1.out ?_;rw [Hw3.out])
                | fail)
              refine wp_region_quiet_below (by kernel_rfl) (by kernel_rfl) ?_
              (try dsimp only [List.append])
              (try simp only [Act.put])
              (first | go_big_quiet_skip | (refine quiet_load_mid 75 _ rfl wr.heap.size (0) rfl cs _ RJ.out Tryz.underlying75 rfl IE.out (by rfl) ?_;change wpQuiet _ _ _ _ _ (Act.put _ (some 17) _);simp only [Act.put,List.setIfInBounds_toArray,List.set_cons_zero,List.set_cons_succ]))
              iterate 26 (go_big_quiet_step (first | (go_at_call 26;exact HC3.out _ _) | (go_at_call 114;exact HO3.out _ _) | (go_at_call 58;exact HR3.out _ _)))
              (first | go_big_quiet_skip | (refine quiet_load_mid 36 _ rfl w.heap.size (0) rfl cw _ RW.out Tryz.underlying36 rfl IW.out (by rfl) ?_;change wpQuiet _ _ _ _ _ (Act.put _ (some 44) _);simp only [Act.put,List.setIfInBounds_toArray,List.set_cons_zero,List.set_cons_succ]))
              iterate 5 (go_big_quiet_step (first | (go_at_call 26;exact HC3.out _ _) | (go_at_call 114;exact HO3.out _ _) | (go_at_call 58;exact HR3.out _ _)))
              refine wpQuiet_nil ?_
              intro _ hw'
              obtain ⟨⟨dq,osq⟩,hw''⟩:=hw'
              subst hw''
              go_wp2
              go_ret
              exact ⟨ret_bool hn.out.symm,B1.out.trans ((B3.out.trans ((below_regrown w3 dq osq).mono B3.out.size)).mono B1.out.size)⟩
        · rw [hless,Bool.true_and] at Hq
          cases G
          · rw [Bool.false_and] at Hq
            have hn:=hide (Hno.out Hq.out)
            clear Hno Hyes Hq
            go_wp2_with (first
              | (refine load_mid 75 _ rfl b0 (off+k * 20) rfl cs _ Hrg.out Tryz.underlying75 rfl IE.out (by rfl) ?_)
              | (refine wpList_store_mid rfl 75 _ _ rfl wr.heap.size 0 cs.toArray rfl rfl Hth.out (by simpa using IE.out) H1.out ?_;rw [Hw3.out])
              | fail)
            refine wp_region_quiet_below (by kernel_rfl) (by kernel_rfl) ?_
            (try dsimp only [List.append])
            (try simp only [Act.put])
            (first | go_big_quiet_skip | (refine quiet_load_mid 75 _ rfl wr.heap.size (0) rfl cs _ RJ.out Tryz.underlying75 rfl IE.out (by rfl) ?_;change wpQuiet _ _ _ _ _ (Act.put _ (some 17) _);simp only [Act.put,List.setIfInBounds_toArray,List.set_cons_zero,List.set_cons_succ]))
            iterate 26 (go_big_quiet_step (first | (go_at_call 26;exact HC3.out _ _) | (go_at_call 114;exact HO3.out _ _) | (go_at_call 58;exact HR3.out _ _)))
            (first | go_big_quiet_skip | (refine quiet_load_mid 36 _ rfl w.heap.size (0) rfl cw _ RW.out Tryz.underlying36 rfl IW.out (by rfl) ?_;change wpQuiet _ _ _ _ _ (Act.put _ (some 44) _);simp only [Act.put,List.setIfInBounds_toArray,List.set_cons_zero,List.set_cons_succ]))
            iterate 5 (go_big_quiet_step (first | (go_at_call 26;exact HC3.out _ _) | (go_at_call 114;exact HO3.out _ _) | (go_at_call 58;exact HR3.out _ _)))
            refine wpQuiet_nil ?_
            intro _ hw'
            obtain ⟨⟨dq,osq⟩,hw''⟩:=hw'
            subst hw''
            go_wp2
            go_ret
            exact ⟨ret_bool hn.out.symm,B1.out.trans ((B3.out.trans ((below_regrown w3 dq osq).mono B3.out.size)).mono B1.out.size)⟩
          · rw [Bool.true_and] at Hq
            cases C
            · rw [Bool.not_false,Bool.true_and] at Hq
              cases H
              · skip
                have hn:=hide (Hno.out Hq.out)
                clear Hno Hyes Hq
                go_wp2_with (first
                  | (refine load_mid 75 _ rfl b0 (off+k * 20) rfl cs _ Hrg.out Tryz.underlying75 rfl IE.out (by rfl) ?_)
                  | (refine wpList_store_mid rfl 75 _ _ rfl wr.heap.size 0 cs.toArray rfl rfl Hth.out (by simpa using IE.out) H1.out ?_;rw [Hw3.out])
                  | fail)
                refine wp_region_quiet_below (by kernel_rfl) (by kernel_rfl) ?_
                (try dsimp only [List.append])
                (try simp only [Act.put])
                (first | go_big_quiet_skip | (refine quiet_load_mid 75 _ rfl wr.heap.size (0) rfl cs _ RJ.out Tryz.underlying75 rfl IE.out (by rfl) ?_;change wpQuiet _ _ _ _ _ (Act.put _ (some 17) _);simp only [Act.put,List.setIfInBounds_toArray,List.set_cons_zero,List.set_cons_succ]))
                iterate 26 (go_big_quiet_step (first | (go_at_call 26;exact HC3.out _ _) | (go_at_call 114;exact HO3.out _ _) | (go_at_call 58;exact HR3.out _ _)))
                (first | go_big_quiet_skip | (refine quiet_load_mid 36 _ rfl w.heap.size (0) rfl cw _ RW.out Tryz.underlying36 rfl IW.out (by rfl) ?_;change wpQuiet _ _ _ _ _ (Act.put _ (some 44) _);simp only [Act.put,List.setIfInBounds_toArray,List.set_cons_zero,List.set_cons_succ]))
                iterate 5 (go_big_quiet_step (first | (go_at_call 26;exact HC3.out _ _) | (go_at_call 114;exact HO3.out _ _) | (go_at_call 58;exact HR3.out _ _)))
                refine wpQuiet_nil ?_
                intro _ hw'
                obtain ⟨⟨dq,osq⟩,hw''⟩:=hw'
                subst hw''
                go_wp2
                go_ret
                exact ⟨ret_bool hn.out.symm,B1.out.trans ((B3.out.trans ((below_regrown w3 dq osq).mono B3.out.size)).mono B1.out.size)⟩
              · skip
                have Hy:=hide (Hyes.out Hq.out)
                clear Hno Hyes Hq
                go_wp2_with (first
                  | (refine load_mid 75 _ rfl b0 (off+k * 20) rfl cs _ Hrg.out Tryz.underlying75 rfl IE.out (by rfl) ?_)
                  | (refine wpList_store_mid rfl 75 _ _ rfl wr.heap.size 0 cs.toArray rfl rfl Hth.out (by simpa using IE.out) H1.out ?_;rw [Hw3.out])
                  | fail)
                refine wp_region_quiet_below (by kernel_rfl) (by kernel_rfl) ?_
                (try dsimp only [List.append])
                (try simp only [Act.put])
                (first | go_big_quiet_skip | (refine quiet_load_mid 75 _ rfl wr.heap.size (0) rfl cs _ RJ.out Tryz.underlying75 rfl IE.out (by rfl) ?_;change wpQuiet _ _ _ _ _ (Act.put _ (some 17) _);simp only [Act.put,List.setIfInBounds_toArray,List.set_cons_zero,List.set_cons_succ]))
                iterate 26 (go_big_quiet_step (first | (go_at_call 26;exact HC3.out _ _) | (go_at_call 114;exact HO3.out _ _) | (go_at_call 58;exact HR3.out _ _)))
                (first | go_big_quiet_skip | (refine quiet_load_mid 36 _ rfl w.heap.size (0) rfl cw _ RW.out Tryz.underlying36 rfl IW.out (by rfl) ?_;change wpQuiet _ _ _ _ _ (Act.put _ (some 44) _);simp only [Act.put,List.setIfInBounds_toArray,List.set_cons_zero,List.set_cons_succ]))
                iterate 5 (go_big_quiet_step (first | (go_at_call 26;exact HC3.out _ _) | (go_at_call 114;exact HO3.out _ _) | (go_at_call 58;exact HR3.out _ _)))
                refine wpQuiet_nil ?_
                intro _ hw'
                obtain ⟨⟨dq,osq⟩,hw''⟩:=hw'
                subst hw''
                go_wp2
                go_roundw
                case rel=>exact ⟨k+1,by omega,by go_num,Hy.out,B3.out.trans ((below_regrown w3 dq osq).mono B3.out.size)⟩
                case measure=>simp [intOf];omega
            · rw [Bool.not_true,Bool.false_and] at Hq
              have hn:=hide (Hno.out Hq.out)
              clear Hno Hyes Hq
              go_wp2_with (first
                | (refine load_mid 75 _ rfl b0 (off+k * 20) rfl cs _ Hrg.out Tryz.underlying75 rfl IE.out (by rfl) ?_)
                | (refine wpList_store_mid rfl 75 _ _ rfl wr.heap.size 0 cs.toArray rfl rfl Hth.out (by simpa using IE.out) H1.out ?_;rw [Hw3.out])
                | fail)
              refine wp_region_quiet_below (by kernel_rfl) (by kernel_rfl) ?_
              (try dsimp only [List.append])
              (try simp only [Act.put])
              (first | go_big_quiet_skip | (refine quiet_load_mid 75 _ rfl wr.heap.size (0) rfl cs _ RJ.out Tryz.underlying75 rfl IE.out (by rfl) ?_;change wpQuiet _ _ _ _ _ (Act.put _ (some 17) _);simp only [Act.put,List.setIfInBounds_toArray,List.set_cons_zero,List.set_cons_succ]))
              iterate 26 (go_big_quiet_step (first | (go_at_call 26;exact HC3.out _ _) | (go_at_call 114;exact HO3.out _ _) | (go_at_call 58;exact HR3.out _ _)))
              (first | go_big_quiet_skip | (refine quiet_load_mid 36 _ rfl w.heap.size (0) rfl cw _ RW.out Tryz.underlying36 rfl IW.out (by rfl) ?_;change wpQuiet _ _ _ _ _ (Act.put _ (some 44) _);simp only [Act.put,List.setIfInBounds_toArray,List.set_cons_zero,List.set_cons_succ]))
              iterate 5 (go_big_quiet_step (first | (go_at_call 26;exact HC3.out _ _) | (go_at_call 114;exact HO3.out _ _) | (go_at_call 58;exact HR3.out _ _)))
              refine wpQuiet_nil ?_
              intro _ hw'
              obtain ⟨⟨dq,osq⟩,hw''⟩:=hw'
              subst hw''
              go_wp2
              go_ret
              exact ⟨ret_bool hn.out.symm,B1.out.trans ((B3.out.trans ((below_regrown w3 dq osq).mono B3.out.size)).mono B1.out.size)⟩
    · have hf:=hide (show X=decide ((ns.length:Int)<=12) from by rw [HX.out,rangeW_yes (fun j hj=>Hlo.out j (by omega)),Bool.and_true,decide_eq_decide];omega)
      have yr3:=Y3.out wr hb
      clear HX Hlo Y3
      go_wp2
      go_ret
      exact ⟨ret_bool hf.out.symm,B1.out.trans (hb.mono B1.out.size)⟩
end Go.Proofs.YtckahjabljffjaaGreat
