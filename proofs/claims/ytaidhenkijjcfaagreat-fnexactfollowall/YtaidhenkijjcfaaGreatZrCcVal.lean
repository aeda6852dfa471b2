/- slices.Concat of one list of names with weights, and slices.Grow of none. -/
import Derived.Test.YtaidhenkijjcfaaGreatZrCaBeh
import Derived.Test.YtaidhenkijjcfaaGreatZrNdMod
import Derived.Lib.AppendZerosOnto
set_option maxRecDepth 20000
set_option maxHeartbeats 8000000
namespace Go.Proofs.YtaidhenkijjcfaaGreat
open Go.RowKit Go.Sort
set_option linter.unusedVariables false
theorem believes_any (e:Int) (vs:Value) (st:List Vl) (p:Pf) (u:Pv) (w:World) (hr:RdV w vs st) (hp:RdPf w p u) (hls:st.length<=4000000) (hss:∀ a ∈ st,a.1.size<=maxLen) (hl:p.bs.length<=4000000) (hf:∀ b ∈ p.bs,FewK b) (hbd:∀ b ∈ p.bs,-9223372036854775808<=b.tr/\b.tr<=9223372036854775807) (hlq:p.qw.length<=4000000) (hsq:∀ s ∈ p.qw,s.size<=maxLen) :
    Calls Tryz.prog 40 #[.agg #[.int .i64 e,vs],pfV p u] w fun en w'=>en=.returned (.bool (clB e st p))/\Below w.heap.size w w':=by
  obtain ⟨aS,cS,rfl⟩:=hr.shape
  obtain ⟨aL,cL,hvL⟩:=hp.kb.shape
  obtain ⟨aQ,cQ,hvQ⟩:=hp.kw.shape
  obtain ⟨yb,yw⟩:=u
  simp only at hvL hvQ
  subst hvL hvQ
  obtain ⟨w1,hw1⟩:∃ x,(w.alloc (.cells #[.int .i64 e,.slice aS st.length cS] 35)).alloc (.cells #[.int .i64 p.ep,.slice aL p.bs.length cL,.int .i64 p.qr,.int .i64 p.qb,.slice aQ p.qw.length cQ] 42)=x:=⟨_,rfl⟩
  have s1:(w.alloc (.cells #[.int .i64 e,.slice aS st.length cS] 35)).heap.size=w.heap.size+1:=by simp
  have b1:Below w.heap.size w w1:=by rw [<- hw1];exact ((Below.refl _ w).alloc (Nat.le_refl _) _).alloc (by rw [s1];omega) _
  have kC:Blk w1 w.heap.size 35 [.int .i64 e,.slice aS st.length cS]:=by rw [<- hw1];exact (Blk.new w _ _).below ((Below.refl (w.heap.size+1) _).alloc (by rw [s1];exact Nat.le_refl _) _) (by omega)
  have kP:Blk w1 (w.heap.size+1) 42 [.int .i64 p.ep,.slice aL p.bs.length cL,.int .i64 p.qr,.int .i64 p.qb,.slice aQ p.qw.length cQ]:=by rw [<- hw1];exact Blk.newR _ _ [.int .i64 p.ep,.slice aL p.bs.length cL,.int .i64 p.qr,.int .i64 p.qb,.slice aQ p.qw.length cQ] _ s1.symm
  have x0:=kC.cell 0
  have x1:=kC.cell 1
  have y0:=kP.cell 0
  have y1:=kP.cell 1
  have y2:=kP.cell 2
  have y3:=kP.cell 3
  have y4:=kP.cell 4
  simp only [List.getElem?_cons_zero,List.getElem?_cons_succ] at x0 x1 y0 y1 y2 y3 y4
  have gc0:=cell_regrown x0
  have gc1:=cell_regrown x1
  have gp0:=cell_regrown y0
  have gp1:=cell_regrown y1
  have gp2:=cell_regrown y2
  have gp3:=cell_regrown y3
  have gp4:=cell_regrown y4
  have B1:=hide b1
  have hr1:=hr.below b1 (Nat.le_refl _)
  have hk1:=hp.kb.below b1 (Nat.le_refl _)
  have hq1:=hp.kw.below b1 (Nat.le_refl _)
  have HS3:=hide (fun (d:Nat) (os:Array Obj)=>Calls.regrown_of (implSetOk_any (.slice aS st.length cS) st (grow (redrawn w1 d) os) (hr1.below (below_regrown w1 d os) (Nat.le_refl _)) hls hss))
  have HNo1:Hid (setB st=false->clB e st p=false):=hide clB_no1
  have HNo2:Hid (¬ p.ep=e->clB e st p=false):=hide clB_no2
  have HNo3:Hid (¬ 2<=p.bs.length->clB e st p=false):=hide clB_no3
  have HEq:=hide (fun (h1:setB st=true) (h2:p.ep=e) (h3:2<=p.bs.length)=>clB_eq (e:=e) (st:=st) h1 h2 h3)
  have HU:=hide (fun (a b:Bk)=>show clT e st p a b=(lkB e st p.bs && (decide (a.rd=b.rd - 1) && (cfB st p.qr p.qb p.qw b && (p.bs.take (p.bs.length - 1)).any (fun x=>x.en)))) from rfl)
  have HMo:=hide (fun (h1:setB st=true)=>set_modC (l:=st) (by rw [h1,Bool.or_true]))
  simp only [pfV]
  clear hr hp x0 x1 y0 y2 y3 y4 kC kP s1 hss b1
  obtain ⟨ep,bs,qr,qb,qw⟩:=p
  simp only at *
  cases hX:setB st
  · have hn:=hide (HNo1.out hX)
    rw [hX] at HS3
    clear hX HNo1 HNo2 HNo3 HEq HU HMo hr1 hk1 hq1 hf hbd hsq
    go_enter Tryz.func40,Tryz.ntmps40
    go_upto_region 1 with fail
    (try rw [hw1])
    clear hw1
    go_upto_region 2 with fail
    refine wp_region_quiet_below (by kernel_rfl) (by kernel_rfl) ?_
    (try dsimp only [List.append])
    (try simp only [Act.put])
    iterate 55 (go_big_quiet_step (first | (go_at_call 98;exact HS3.out _ _) | (go_at_call 99;exact HO3.out _ _) | (go_at_call 100;exact HJ3.out _ _) | (go_at_call 101;exact HC3.out _ _) | (go_at_call 102;exact HE3.out _ _)))
    refine wpQuiet_nil ?_
    intro _ hw'
    obtain ⟨⟨dq,osq⟩,hw''⟩:=hw'
    subst hw''
    go_wp2
    go_ret
    exact ⟨ret_bool hn.out.symm,B1.out.trans ((below_regrown w1 dq osq).mono B1.out.size)⟩
  · rw [hX] at HS3
    by_cases he:ep=e
    · by_cases h2:2<=bs.length
      · have HQ:=hide (HEq.out hX he h2)
        have hM:=HMo.out hX
        have heb:(ep == e)=true:=by rw [he];simp
        obtain ⟨b,off,rfl,hbw,hcap,hat⟩:=hk1.atC (by omega)
        obtain ⟨va,ka,ra⟩:=hat (bs.length - 2) (by omega)
        obtain ⟨vb,kb,rb⟩:=hat (bs.length - 1) (by omega)
        have HO3:=hide (fun (d:Nat) (os:Array Obj)=>Calls.regrown_of (oneBehind_any e (.slice aS st.length cS) (.slice (some ⟨b,off,none⟩) bs.length cL) st bs (grow (redrawn w1 d) os) (hr1.below (below_regrown w1 d os) (Nat.le_refl _)) (hk1.below (below_regrown w1 d os) (Nat.le_refl _)) hls hl hf hbd hM))
        have HLk:=hide (fun (h:lkB e st bs=true)=>(blB_rd (lkB_at h (bs.length - 1) (by omega)).1).2)
        have HU:=hide (HU.out (bs[bs.length - 2]'(by omega)) (bs[bs.length - 1]'(by omega)))
        have HC3:=hide (fun (d:Nat) (os:Array Obj)=>Calls.regrown_of (certifies_any e (.slice aS st.length cS) (.slice aQ qw.length cQ) st qr qb qw (bs[bs.length - 1]'(by omega)) vb (grow (redrawn w1 d) os) (hr1.below (below_regrown w1 d os) (Nat.le_refl _)) (hq1.below (below_regrown w1 d os) (Nat.le_refl _)) hls hlq hsq hM))
        rw [show bkV (bs[bs.length - 1]'(by omega)) vb=.agg (bkC (bs[bs.length - 1]'(by omega)) vb).toArray from rfl] at HC3
        simp only [qcV] at HC3
        have HE3:=hide (fun (d:Nat) (os:Array Obj)=>Calls.regrown_of (containsEnd_any (.slice (some ⟨b,off,none⟩) (bs.length - 1) cL) (bs.take (bs.length - 1)) (grow (redrawn w1 d) os) ((RdKs.takeC hk1 (bs.length - 1) (by omega)).below (below_regrown w1 d os) (Nat.le_refl _)) (by rw [List.length_take];omega)))
        have RB:=hide (range_regrown kb.range hbw)
        have IK:=hide (show (Tryz.prog.info? 92).map (·.size)=some (bkC (bs[bs.length - 1]'(by omega)) vb).length from Tryz.infoK14)
        have za:=ka 2 (by omega)
        have zb:=kb 2 (by omega)
        have ea:w1.cell? ⟨b,off+(bs.length - 1 - 1) * 14+2,none⟩=some (.int .i64 (bs[bs.length - 2]'(by omega)).rd):=za
        have eb:w1.cell? ⟨b,off+(bs.length - 1) * 14+2,none⟩=some (.int .i64 (bs[bs.length - 1]'(by omega)).rd):=zb
        have ga:=cell_regrown ea
        have gb:=cell_regrown eb
        have hd1:decide ((1:Int)<=(bs.length:Int) - 1)=true:=by simp;omega
        have hd2:decide ((2:Int)<=(bs.length:Int))=true:=by simp;omega
        have hd3:decide (2<=bs.length)=true:=by simp;omega
        have hi1:(0:Int)<=(bs.length:Int) - 1:=by omega
        have hi2:(1:Int)<=(bs.length:Int) - 1:=by omega
        have hi3:(bs.length:Int) - 1<=(cL:Int):=by omega
        have hi4:(2:Int)<=(bs.length:Int):=by omega
        clear HNo1 HNo2 HNo3 HEq HMo hM hr1 hk1 hq1 hf hbd hsq he hX hat ka kb ra rb za zb ea eb hcap
        generalize bkC (bs[bs.length - 1]'(by omega)) vb=db at RB IK HC3
        generalize (bs[bs.length - 2]'(by omega)).rd=ra at HU ga
        generalize (bs[bs.length - 1]'(by omega)).rd=rb at HU gb HLk
        generalize cfB st qr qb qw (bs[bs.length - 1]'(by omega))=C at HU HC3
        generalize (bs.take (bs.length - 1)).any (fun x=>x.en)=E at HU HE3
        generalize clT e st ⟨ep,bs,qr,qb,qw⟩ (bs[bs.length - 2]'(by omega)) (bs[bs.length - 1]'(by omega))=T at HQ HU
        cases hL:lkB e st bs
        · rw [hL] at HU HO3
          rw [Bool.false_and] at HU
          have hn:=hide (HQ.out.trans HU.out)
          clear hL HLk HQ HU HC3 HE3
          go_enter Tryz.func40,Tryz.ntmps40
          go_upto_region 1 with fail
          (try rw [hw1])
          clear hw1
          go_upto_region 2 with fail
          refine wp_region_quiet_below (by kernel_rfl) (by kernel_rfl) ?_
          (try dsimp only [List.append])
          (try simp only [Act.put])
          iterate 55 (go_big_quiet_step (first | (go_at_call 98;exact HS3.out _ _) | (go_at_call 99;exact HO3.out _ _) | (go_at_call 100;exact HJ3.out _ _) | (go_at_call 101;exact HC3.out _ _) | (go_at_call 102;exact HE3.out _ _)))
          refine wpQuiet_nil ?_
          intro _ hw'
          obtain ⟨⟨dq,osq⟩,hw''⟩:=hw'
          subst hw''
          go_wp2
          go_ret
          exact ⟨ret_bool hn.out.symm,B1.out.trans ((below_regrown w1 dq osq).mono B1.out.size)⟩
        · rw [hL] at HU HO3
          rw [Bool.true_and] at HU
          have hrd:=HLk.out hL
          have HJ3:=hide (fun (d:Nat) (os:Array Obj)=>sameC_regrown (implJust17_any ra rb (grow (redrawn w1 d) os) (by omega)))
          clear hL HLk hrd
          cases hJ:decide (ra=rb - 1)
          · rw [hJ] at HU HJ3
            rw [Bool.false_and] at HU
            have hn:=hide (HQ.out.trans HU.out)
            clear hJ HQ HU HC3 HE3
            go_enter Tryz.func40,Tryz.ntmps40
            go_upto_region 1 with fail
            (try rw [hw1])
            clear hw1
            go_upto_region 2 with fail
            refine wp_region_quiet_below (by kernel_rfl) (by kernel_rfl) ?_
            (try dsimp only [List.append])
            (try simp only [Act.put])
            iterate 55 (go_big_quiet_step (first | (go_at_call 98;exact HS3.out _ _) | (go_at_call 99;exact HO3.out _ _) | (go_at_call 100;exact HJ3.out _ _) | (go_at_call 101;exact HC3.out _ _) | (go_at_call 102;exact HE3.out _ _)))
            refine wpQuiet_nil ?_
            intro _ hw'
            obtain ⟨⟨dq,osq⟩,hw''⟩:=hw'
            subst hw''
            go_wp2
            go_ret
            exact ⟨ret_bool hn.out.symm,B1.out.trans ((below_regrown w1 dq osq).mono B1.out.size)⟩
          · rw [hJ] at HU HJ3
            rw [Bool.true_and] at HU
            clear hJ
            cases C
            · rw [Bool.false_and] at HU
              have hn:=hide (HQ.out.trans HU.out)
              clear HQ HU HE3
              go_enter Tryz.func40,Tryz.ntmps40
              go_upto_region 1 with fail
              (try rw [hw1])
              clear hw1
              go_upto_region 2 with fail
              refine wp_region_quiet_below (by kernel_rfl) (by kernel_rfl) ?_
              (try dsimp only [List.append])
              (try simp only [Act.put])
              iterate 44 (go_big_quiet_step (first | (go_at_call 98;exact HS3.out _ _) | (go_at_call 99;exact HO3.out _ _) | (go_at_call 100;exact HJ3.out _ _) | (go_at_call 101;exact HC3.out _ _) | (go_at_call 102;exact HE3.out _ _)))
              (first | go_big_quiet_skip | (refine quiet_load_mid 92 _ rfl b (off+(bs.length - 1) * 14) rfl db _ RB.out Tryz.underlying92 rfl IK.out (by rfl) ?_;change wpQuiet _ _ _ _ _ (Act.put _ (some 54) _);simp only [Act.put,List.setIfInBounds_toArray,List.set_cons_zero,List.set_cons_succ]))
              iterate 10 (go_big_quiet_step (first | (go_at_call 98;exact HS3.out _ _) | (go_at_call 99;exact HO3.out _ _) | (go_at_call 100;exact HJ3.out _ _) | (go_at_call 101;exact HC3.out _ _) | (go_at_call 102;exact HE3.out _ _)))
              refine wpQuiet_nil ?_
              intro _ hw'
              obtain ⟨⟨dq,osq⟩,hw''⟩:=hw'
              subst hw''
              go_wp2
              go_ret
              exact ⟨ret_bool hn.out.symm,B1.out.trans ((below_regrown w1 dq osq).mono B1.out.size)⟩
            · rw [Bool.true_and] at HU
              have hn:=hide (HQ.out.trans HU.out)
              clear HQ HU
              go_enter Tryz.func40,Tryz.ntmps40
              go_upto_region 1 with fail
              (try rw [hw1])
              clear hw1
              go_upto_region 2 with fail
              refine wp_region_quiet_below (by kernel_rfl) (by kernel_rfl) ?_
              (try dsimp only [List.append])
              (try simp only [Act.put])
              iterate 44 (go_big_quiet_step (first | (go_at_call 98;exact HS3.out _ _) | (go_at_call 99;exact HO3.out _ _) | (go_at_call 100;exact HJ3.out _ _) | (go_at_call 101;exact HC3.out _ _) | (go_at_call 102;exact HE3.out _ _)))
              (first | go_big_quiet_skip | (refine quiet_load_mid 92 _ rfl b (off+(bs.length - 1) * 14) rfl db _ RB.out Tryz.underlying92 rfl IK.out (by rfl) ?_;change wpQuiet _ _ _ _ _ (Act.put _ (some 54) _);simp only [Act.put,List.setIfInBounds_toArray,List.set_cons_zero,List.set_cons_succ]))
              iterate 10 (go_big_quiet_step (first | (go_at_call 98;exact HS3.out _ _) | (go_at_call 99;exact HO3.out _ _) | (go_at_call 100;exact HJ3.out _ _) | (go_at_call 101;exact HC3.out _ _) | (go_at_call 102;exact HE3.out _ _)))
              refine wpQuiet_nil ?_
              intro _ hw'
              obtain ⟨⟨dq,osq⟩,hw''⟩:=hw'
              subst hw''
              go_wp2
              go_ret
              exact ⟨ret_bool hn.out.symm,B1.out.trans ((below_regrown w1 dq osq).mono B1.out.size)⟩
      · have hn:=hide (HNo3.out h2)
        have heb:(ep == e)=true:=by rw [he];simp
        have hd1:decide ((1:Int)<=(bs.length:Int) - 1)=false:=by simp;omega
        have hd2:decide ((2:Int)<=(bs.length:Int))=false:=by simp;omega
        have hd3:decide (2<=bs.length)=false:=by simp;omega
        clear hX HNo1 HNo2 HNo3 HEq HU HMo hr1 hk1 hq1 hf hbd hsq he
        go_enter Tryz.func40,Tryz.ntmps40
        go_upto_region 1 with fail
        (try rw [hw1])
        clear hw1
        go_upto_region 2 with fail
        refine wp_region_quiet_below (by kernel_rfl) (by kernel_rfl) ?_
        (try dsimp only [List.append])
        (try simp only [Act.put])
        iterate 55 (go_big_quiet_step (first | (go_at_call 98;exact HS3.out _ _) | (go_at_call 99;exact HO3.out _ _) | (go_at_call 100;exact HJ3.out _ _) | (go_at_call 101;exact HC3.out _ _) | (go_at_call 102;exact HE3.out _ _)))
        refine wpQuiet_nil ?_
        intro _ hw'
        obtain ⟨⟨dq,osq⟩,hw''⟩:=hw'
        subst hw''
        go_wp2
        go_ret
        exact ⟨ret_bool hn.out.symm,B1.out.trans ((below_regrown w1 dq osq).mono B1.out.size)⟩
    · have hn:=hide (HNo2.out he)
      have heb:(ep == e)=false:=by rw [beq_eq_false_iff_ne];exact he
      clear hX HNo1 HNo2 HNo3 HEq HU HMo hr1 hk1 hq1 hf hbd hsq he
      go_enter Tryz.func40,Tryz.ntmps40
      go_upto_region 1 with fail
      (try rw [hw1])
      clear hw1
      go_upto_region 2 with fail
      refine wp_region_quiet_below (by kernel_rfl) (by kernel_rfl) ?_
      (try dsimp only [List.append])
      (try simp only [Act.put])
      iterate 55 (go_big_quiet_step (first | (go_at_call 98;exact HS3.out _ _) | (go_at_call 99;exact HO3.out _ _) | (go_at_call 100;exact HJ3.out _ _) | (go_at_call 101;exact HC3.out _ _) | (go_at_call 102;exact HE3.out _ _)))
      refine wpQuiet_nil ?_
      intro _ hw'
      obtain ⟨⟨dq,osq⟩,hw''⟩:=hw'
      subst hw''
      go_wp2
      go_ret
      exact ⟨ret_bool hn.out.symm,B1.out.trans ((below_regrown w1 dq osq).mono B1.out.size)⟩
end Go.Proofs.YtaidhenkijjcfaaGreat
namespace Go.Proofs.YtaidhenkijjcfaaGreat
open Go.RowKit
set_option linter.unusedVariables false
theorem wpList_grow_nil (w:World) {ops:Array Oper} {rest:List Oper} {o:Oper} {a:Act} {Q:Exit->Act->World->Prop} (hg:o.guard=none) (s x:Operand)
    (hop:o.op=.call { callee:=.builtin .append,args:=#[s,x],argTypes:=#[33,3] }) (n G:Nat) (W1:World) (hs:a.eval s=.slice none 0 0) (hx:a.eval x=.int .i64 (n:Int))
    (hrun:∀ ty,(Builtin.append_ #[33,3] ty #[.slice none 0 0,.int .i64 (n:Int)]).run Tryz.prog w=.ok (.slice (some ⟨w.heap.size,0,none⟩) n G) W1)
    (hK:wpList Tryz.prog ops Q rest (a.put o.dst (.slice (some ⟨w.heap.size,0,none⟩) n G)) W1):wpList Tryz.prog ops Q (o :: rest) a w:=by
  refine wpList_plain hg fun K hK'=>?_
  unfold Oper.wp
  simp [execOp,hop,resolve,invoke,builtin,hs,hx,hrun,Result.andThen]
  exact hK' _ _ hK
theorem growVal_any (n:Nat) (hn:n<=4000000) (w:World) :
    Calls Tryz.prog 103 #[.slice none 0 0,.int .i64 (n:Int)] w fun e w'=>∃ v',e=.returned v'/\OwnV w.heap.size w' v' []/\Below w.heap.size w w':=by
  by_cases h0:n=0
  · subst h0
    go_enter Tryz.func103,Tryz.ntmps103
    go_wp2
    go_ret
    exact ⟨_,rfl,World.ownsRow_nil w _ _ _,Below.refl _ _⟩
  · obtain ⟨i0,hi0,hz0,hz1,hz2⟩:=info_parts Tryz.infoVl
    obtain ⟨G,hG⟩:∃ G,G=grownCap w n 0 100:=⟨_,rfl⟩
    obtain ⟨ROW,hROW⟩:∃ ROW:Array Value,ROW=([]:List Value).toArray ++ Builtin.zeroCells (Value.cells (.agg #[.string { data:=#[] },.int .i64 0])) n ++ Builtin.zeroCells (Value.cells (.agg #[.string { data:=#[] },.int .i64 0])) (G - n):=⟨_,rfl⟩
    obtain ⟨W1,hW1⟩:∃ W1,W1=w.drew.alloc (.cells ROW 100):=⟨_,rfl⟩
    have hrz:∀ ty,(Builtin.append_ #[33,3] ty #[.slice none 0 0,.int .i64 (n:Int)]).run Tryz.prog w=.ok (.slice (some ⟨w.heap.size,0,none⟩) n G) W1:=fun ty=>by
      have h:=Lib.run_append_grow_zeros (P:=Tryz.prog) w 33 3 ty 100 i0 _ .i64 .i64 Tryz.underlying33 Tryz.underlying3 hi0 hz0 none 0 0 [] (run_firstCells_none w.drew i0.size 0 0 0) n (by omega) (by omega) (by omega) (by omega) (by rw [hz2];omega) (by rw [hz2];exact growslice_fits (by omega) (by omega))
      rw [Nat.zero_add,<- hG,<- hROW,<- hW1] at h
      exact h
    have hGn:n<=G:=by rw [hG];exact grownCap_ge w _ _ _
    have hGm:G<=maxLen:=by rw [hG];exact grownCap_le_maxLen w n 0 100 (by unfold maxLen;omega)
    have hG63:G<=9223372036854775807:=by unfold maxLen at hGm;omega
    have hRs:ROW.size=G * 2:=by
      rw [hROW]
      simp only [Array.size_append,List.size_toArray,size_zeroCells]
      simp [Value.cells]
      omega
    have Ho:=hide (show OwnV w.heap.size W1 (.slice (some ⟨w.heap.size,0,none⟩) 0 G) [] from by
      rw [hW1]
      exact ⟨by simp,.inr ⟨w.heap.size,G,ROW,rfl,Nat.le_refl _,heap_alloc_new w.drew _,Nat.zero_le _,hGm,hRs,by simp⟩⟩)
    have Hb:=hide (show Below w.heap.size w W1 from by rw [hW1];exact (Below.refl _ w).drew.alloc (Nat.le_refl _) _)
    have hn0:(0:Int) < (n:Int):=by omega
    clear hW1 hROW hRs hG hi0 hz0 hz1 hz2
    go_enter Tryz.func103,Tryz.ntmps103
    go_wp2_with (at_builtin;refine wpList_grow_nil w rfl _ _ rfl n G W1 rfl rfl hrz ?_)
    go_ret
    exact ⟨_,rfl,Ho.out,Hb.out⟩
theorem concatVal_any (v:Value) (l:List Vl) (g:Nat) (w:World) (hr:RdV w v l) (hl:l.length<=4000000) (hc:w.cell? ⟨g,0,none⟩=some v) (hg:g < w.heap.size) :
    Calls Tryz.prog 41 #[.slice (some ⟨g,0,none⟩) 1 1] w fun e w'=>∃ v',e=.returned v'/\OwnV w.heap.size w' v' l/\Below w.heap.size w w':=by
  obtain ⟨a,c,rfl⟩:=hr.shape
  have HG:=hide (growVal_any l.length hl w)
  have Hr:=hide hr
  have hnn:¬ ((l.length:Int) < 0):=by omega
  have Hc:=hide hc
  clear hr
  go_enter Tryz.func41,Tryz.ntmps41
  go_wp2
  refine wp_loop_rounds 2 ?_
  rw [rounds_succ]
  go_wp2
  rw [rounds_succ]
  go_wp2_with fail
  refine HG.out.mono ?_
  rintro e w1 ⟨v1,rfl,o1,b1⟩
  obtain ⟨a1,c1,rfl⟩:=o1.rd.shape
  simp only [List.length_nil] at o1
  have hc1:=(b1.cell (p:=⟨g,0,none⟩) hg).trans Hc.out
  have Hr1:=hide (Hr.out.below b1 (Nat.le_refl _))
  have O1:=hide o1
  have hz1:=b1.size
  have B1:=hide b1
  clear hc o1 b1 HG Hr
  go_wp2
  refine wp_loop_rounds 2 ?_
  rw [rounds_succ]
  go_wp2_with (at_builtin;refine app_ownV _ rfl _ _ rfl w.heap.size (.slice a1 0 c1) _ [] l rfl rfl O1.out Hr1.out (by simp;omega) hz1 ?_;intro v2 w2 o2 g2 b2)
  have O2:=hide (show OwnV w.heap.size w2 v2 l from o2)
  have B2:=hide (B1.out.trans b2)
  clear o2 g2 b2
  rw [rounds_succ]
  go_wp2
  go_ret
  exact ⟨_,rfl,O2.out,B2.out⟩
end Go.Proofs.YtaidhenkijjcfaaGreat
