/- believes of the landed code. -/
import Derived.Test.YtaidhenkijjcfaaGreatZqFlJust
set_option maxRecDepth 20000
set_option maxHeartbeats 8000000
namespace Go.Proofs.YtaidhenkijjcfaaGreat
open Go.RowKit
set_option linter.unusedVariables false
theorem sum_bdC (f:Vl->Int):∀ (l:List Vl) (s:Int),(∀ p ∈ l,0<=f p/\f p<=1000001)->0<=s->s+1000001 * l.length<=1000000000->0<=l.foldl (fun s p=>wrap64 (s+f p)) s/\l.foldl (fun s p=>wrap64 (s+f p)) s<=s+1000001 * l.length
  | [],s,_,h0,_=>by simp;omega
  | p :: l,s,h,h0,h1=>by
    have h2:=h p (List.mem_cons_self)
    rw [List.length_cons] at h1 ⊢
    have hw:wrap64 (s+f p)=s+f p:=by unfold wrap64;omega
    rw [List.foldl_cons,hw]
    have h3:=sum_bdC f l (s+f p) (fun q hq=>h q (List.mem_cons_of_mem _ hq)) (by omega) (by omega)
    omega
theorem set_modC {l:List Vl} (h:(decide (l.length=0) || setB l)=true):ModV l:=by
  have hl:l.length<=12/\∀ p ∈ l,0<=p.2/\p.2<=1000001:=by
    rcases Bool.or_eq_true _ _ ▸ h with h | h
    · have e:l=[]:=List.length_eq_zero_iff.1 (of_decide_eq_true h)
      subst e
      exact ⟨by simp,by simp⟩
    · unfold setB at h
      rw [Bool.and_eq_true,List.all_eq_true] at h
      have h2:=h.2
      unfold inB at h2
      rw [decide_eq_true_eq] at h2
      refine ⟨by omega,fun p hp=>?_⟩
      obtain ⟨i,hi,rfl⟩:=List.mem_iff_getElem.1 hp
      have h3:=h.1 i (List.mem_range.2 hi)
      unfold vlAt valB inB at h3
      rw [Bool.and_eq_true,Bool.and_eq_true,decide_eq_true_eq] at h3
      have h4:=h3.1.2
      rw [List.getD_eq_getElem?_getD,List.getElem?_eq_getElem hi] at h4
      simp only [Option.getD_some] at h4
      omega
  have h1:∀ f:Vl->Int,(∀ p ∈ l,0<=f p/\f p<=1000001)->0<=sumV f l/\sumV f l<=1000000000:=fun f hf=>by
    have:=sum_bdC f l 0 hf (by omega) (by omega)
    unfold sumV
    omega
  refine ⟨h1 _ (fun p hp=>hl.2 p hp),fun ns=>h1 _ (fun p hp=>?_)⟩
  have:=hl.2 p hp
  unfold wtN
  split <;> omega
theorem RdKs.takeC {w:World} {a:Option Addr} {cap:Nat} {l:List Bk} (h:RdKs w (.slice a l.length cap) l) (k:Nat) (hk:k<=l.length):RdKs w (.slice a k cap) (l.take k):=by
  rcases h with ⟨a',cap',e,rfl,hn⟩ | ⟨b,off,cap',h0,e,h1,h2,h3,h4⟩
  · simp only [Value.slice.injEq] at e
    obtain ⟨rfl,-,rfl⟩:=e
    obtain rfl:k=0:=by simpa using hk
    exact .inl ⟨_,_,rfl,rfl,hn⟩
  · simp only [Value.slice.injEq] at e
    obtain ⟨rfl,-,rfl⟩:=e
    by_cases hz:k=0
    · subst hz;exact .inl ⟨_,_,rfl,by simp,fun h=>by cases h⟩
    · have hl:(l.take k).length=k:=by simp;omega
      refine .inr ⟨b,off,cap,?_,by rw [hl],by omega,h2,h3,fun i hi=>?_⟩
      · intro e;rw [e] at hl;simp at hl;omega
      · rw [hl] at hi
        obtain ⟨bv,p,q⟩:=h4 i (by omega)
        exact ⟨bv,by simpa using p,by simpa using q⟩
end Go.Proofs.YtaidhenkijjcfaaGreat
namespace Go.Proofs.YtaidhenkijjcfaaGreat
open Go.RowKit Go.Sort
set_option linter.unusedVariables false
theorem believes_any (e:Int) (vs:Value) (st:List Vl) (p:Pf) (u:Pv) (w:World) (hr:RdV w vs st) (hp:RdPf w p u) (hls:st.length<=4000000) (hss:∀ a ∈ st,a.1.size<=maxLen) (hl:p.bs.length<=4000000) (hf:∀ b ∈ p.bs,FewK b) (hbd:∀ b ∈ p.bs,-9223372036854775808<=b.tr/\b.tr<=9223372036854775807) (hlq:p.qw.length<=4000000) (hsq:∀ s ∈ p.qw,s.size<=maxLen) :
    Calls Tryz.prog 40 #[.agg #[.int .i64 e,vs],pfV p u] w fun en w'=>en=.returned (.bool (clB e st p))/\Below w.heap.size w w':=by
  obtain ⟨aS,cS,rfl⟩:=hr.shape
  obtain ⟨aL,cL,hvL⟩:=hp.kb.shape
  obtain ⟨aQ,cQ,hvQ⟩:=hp.kw.shape
  obtain ⟨yb,yw⟩:=u
  simp only at hvL hvQ
  subst hvL hvQ
  obtain ⟨w1,hw1⟩:∃ x,(w.alloc (.cells #[.int .i64 e,.slice aS st.length cS] 35)).alloc (.cells #[.int .i64 p.ep,.slice aL p.bs.length cL,.int .i64 p.qr,.int .i64 p.qb,.slice aQ p.qw.length cQ] 42)=x:=⟨_,rfl⟩
  have s1:(w.alloc (.cells #[.int .i64 e,.slice aS st.length cS] 35)).heap.size=w.heap.size+1:=by simp
  have b1:Below w.heap.size w w1:=by rw [<- hw1];exact ((Below.refl _ w).alloc (Nat.le_refl _) _).alloc (by rw [s1];omega) _
  have kC:Blk w1 w.heap.size 35 [.int .i64 e,.slice aS st.length cS]:=by rw [<- hw1];exact (Blk.new w _ _).below ((Below.refl (w.heap.size+1) _).alloc (by rw [s1];exact Nat.le_refl _) _) (by omega)
  have kP:Blk w1 (w.heap.size+1) 42 [.int .i64 p.ep,.slice aL p.bs.length cL,.int .i64 p.qr,.int .i64 p.qb,.slice aQ p.qw.length cQ]:=by rw [<- hw1];exact Blk.newR _ _ [.int .i64 p.ep,.slice aL p.bs.length cL,.int .i64 p.qr,.int .i64 p.qb,.slice aQ p.qw.length cQ] _ s1.symm
  have x0:=kC.cell 0
  have x1:=kC.cell 1
  have y0:=kP.cell 0
  have y1:=kP.cell 1
  have y2:=kP.cell 2
  have y3:=kP.cell 3
  have y4:=kP.cell 4
  simp only [List.getElem?_cons_zero,List.getElem?_cons_succ] at x0 x1 y0 y1 y2 y3 y4
  have gc0:=cell_regrown x0
  have gc1:=cell_regrown x1
  have gp0:=cell_regrown y0
  have gp1:=cell_regrown y1
  have gp2:=cell_regrown y2
  have gp3:=cell_regrown y3
  have gp4:=cell_regrown y4
  have B1:=hide b1
  have hr1:=hr.below b1 (Nat.le_refl _)
  have hk1:=hp.kb.below b1 (Nat.le_refl _)
  have hq1:=hp.kw.below b1 (Nat.le_refl _)
  have HS3:=hide (fun (d:Nat) (os:Array Obj)=>Calls.regrown_of (implSetOk_any (.slice aS st.length cS) st (grow (redrawn w1 d) os) (hr1.below (below_regrown w1 d os) (Nat.le_refl _)) hls hss))
  have HNo1:Hid (setB st=false->clB e st p=false):=hide clB_no1
  have HNo2:Hid (¬ p.ep=e->clB e st p=false):=hide clB_no2
  have HNo3:Hid (¬ 2<=p.bs.length->clB e st p=false):=hide clB_no3
  have HEq:=hide (fun (h1:setB st=true) (h2:p.ep=e) (h3:2<=p.bs.length)=>clB_eq (e:=e) (st:=st) h1 h2 h3)
  have HU:=hide (fun (a b:Bk)=>show clT e st p a b=(lkB e st p.bs && (decide (a.rd=b.rd - 1) && (cfB st p.qr p.qb p.qw b && (p.bs.take (p.bs.length - 1)).any (fun x=>x.en)))) from rfl)
  have HMo:=hide (fun (h1:setB st=true)=>set_modC (l:=st) (by rw [h1,Bool.or_true]))
  simp only [pfV]
  clear hr hp x0 x1 y0 y2 y3 y4 kC kP s1 hss b1
  obtain ⟨ep,bs,qr,qb,qw⟩:=p
  simp only at *
  cases hX:setB st
  · have hn:=hide (HNo1.out hX)
    rw [hX] at HS3
    clear hX HNo1 HNo2 HNo3 HEq HU HMo hr1 hk1 hq1 hf hbd hsq
    go_enter Tryz.func40,Tryz.ntmps40
    go_upto_region 1 with fail
    (try rw [hw1])
    clear hw1
    go_upto_region 2 with fail
    refine wp_region_quiet_below (by kernel_rfl) (by kernel_rfl) ?_
    (try dsimp only [List.append])
    (try simp only [Act.put])
    iterate 55 (go_big_quiet_step (first | (go_at_call 98;exact HS3.out _ _) | (go_at_call 99;exact HO3.out _ _) | (go_at_call 100;exact HJ3.out _ _) | (go_at_call 101;exact HC3.out _ _) | (go_at_call 102;exact HE3.out _ _)))
    refine wpQuiet_nil ?_
    intro _ hw'
    obtain ⟨⟨dq,osq⟩,hw''⟩:=hw'
    subst hw''
    go_wp2
    go_ret
    exact ⟨ret_bool hn.out.symm,B1.out.trans ((below_regrown w1 dq osq).mono B1.out.size)⟩
  · rw [hX] at HS3
    by_cases he:ep=e
    · by_cases h2:2<=bs.length
      · have HQ:=hide (HEq.out hX he h2)
        have hM:=HMo.out hX
        have heb:(ep == e)=true:=by rw [he];simp
        obtain ⟨b,off,rfl,hbw,hcap,hat⟩:=hk1.atC (by omega)
        obtain ⟨va,ka,ra⟩:=hat (bs.length - 2) (by omega)
        obtain ⟨vb,kb,rb⟩:=hat (bs.length - 1) (by omega)
        have HO3:=hide (fun (d:Nat) (os:Array Obj)=>Calls.regrown_of (oneBehind_any e (.slice aS st.length cS) (.slice (some ⟨b,off,none⟩) bs.length cL) st bs (grow (redrawn w1 d) os) (hr1.below (below_regrown w1 d os) (Nat.le_refl _)) (hk1.below (below_regrown w1 d os) (Nat.le_refl _)) hls hl hf hbd hM))
        have HLk:=hide (fun (h:lkB e st bs=true)=>(blB_rd (lkB_at h (bs.length - 1) (by omega)).1).2)
        have HU:=hide (HU.out (bs[bs.length - 2]'(by omega)) (bs[bs.length - 1]'(by omega)))
        have HC3:=hide (fun (d:Nat) (os:Array Obj)=>Calls.regrown_of (certifies_any e (.slice aS st.length cS) (.slice aQ qw.length cQ) st qr qb qw (bs[bs.length - 1]'(by omega)) vb (grow (redrawn w1 d) os) (hr1.below (below_regrown w1 d os) (Nat.le_refl _)) (hq1.below (below_regrown w1 d os) (Nat.le_refl _)) hls hlq hsq hM))
        rw [show bkV (bs[bs.length - 1]'(by omega)) vb=.agg (bkC (bs[bs.length - 1]'(by omega)) vb).toArray from rfl] at HC3
        simp only [qcV] at HC3
        have HE3:=hide (fun (d:Nat) (os:Array Obj)=>Calls.regrown_of (containsEnd_any (.slice (some ⟨b,off,none⟩) (bs.length - 1) cL) (bs.take (bs.length - 1)) (grow (redrawn w1 d) os) ((RdKs.takeC hk1 (bs.length - 1) (by omega)).below (below_regrown w1 d os) (Nat.le_refl _)) (by rw [List.length_take];omega)))
        have RB:=hide (range_regrown kb.range hbw)
        have IK:=hide (show (Tryz.prog.info? 92).map (·.size)=some (bkC (bs[bs.length - 1]'(by omega)) vb).length from Tryz.infoK14)
        have za:=ka 2 (by omega)
        have zb:=kb 2 (by omega)
        have ea:w1.cell? ⟨b,off+(bs.length - 1 - 1) * 14+2,none⟩=some (.int .i64 (bs[bs.length - 2]'(by omega)).rd):=za
        have eb:w1.cell? ⟨b,off+(bs.length - 1) * 14+2,none⟩=some (.int .i64 (bs[bs.length - 1]'(by omega)).rd):=zb
        have ga:=cell_regrown ea
        have gb:=cell_regrown eb
        have hd1:decide ((1:Int)<=(bs.length:Int) - 1)=true:=by simp;omega
        have hd2:decide ((2:Int)<=(bs.length:Int))=true:=by simp;omega
        have hd3:decide (2<=bs.length)=true:=by simp;omega
        have hi1:(0:Int)<=(bs.length:Int) - 1:=by omega
        have hi2:(1:Int)<=(bs.length:Int) - 1:=by omega
        have hi3:(bs.length:Int) - 1<=(cL:Int):=by omega
        have hi4:(2:Int)<=(bs.length:Int):=by omega
        clear HNo1 HNo2 HNo3 HEq HMo hM hr1 hk1 hq1 hf hbd hsq he hX hat ka kb ra rb za zb ea eb hcap
        generalize bkC (bs[bs.length - 1]'(by omega)) vb=db at RB IK HC3
        generalize (bs[bs.length - 2]'(by omega)).rd=ra at HU ga
        generalize (bs[bs.length - 1]'(by omega)).rd=rb at HU gb HLk
        generalize cfB st qr qb qw (bs[bs.length - 1]'(by omega))=C at HU HC3
        generalize (bs.take (bs.length - 1)).any (fun x=>x.en)=E at HU HE3
        generalize clT e st ⟨ep,bs,qr,qb,qw⟩ (bs[bs.length - 2]'(by omega)) (bs[bs.length - 1]'(by omega))=T at HQ HU
        cases hL:lkB e st bs
        · rw [hL] at HU HO3
          rw [Bool.false_and] at HU
          have hn:=hide (HQ.out.trans HU.out)
          clear hL HLk HQ HU HC3 HE3
          go_enter Tryz.func40,Tryz.ntmps40
          go_upto_region 1 with fail
          (try rw [hw1])
          clear hw1
          go_upto_region 2 with fail
          refine wp_region_quiet_below (by kernel_rfl) (by kernel_rfl) ?_
          (try dsimp only [List.append])
          (try simp only [Act.put])
          iterate 55 (go_big_quiet_step (first | (go_at_call 98;exact HS3.out _ _) | (go_at_call 99;exact HO3.out _ _) | (go_at_call 100;exact HJ3.out _ _) | (go_at_call 101;exact HC3.out _ _) | (go_at_call 102;exact HE3.out _ _)))
          refine wpQuiet_nil ?_
          intro _ hw'
          obtain ⟨⟨dq,osq⟩,hw''⟩:=hw'
          subst hw''
          go_wp2
          go_ret
          exact ⟨ret_bool hn.out.symm,B1.out.trans ((below_regrown w1 dq osq).mono B1.out.size)⟩
        · rw [hL] at HU HO3
          rw [Bool.true_and] at HU
          have hrd:=HLk.out hL
          have HJ3:=hide (fun (d:Nat) (os:Array Obj)=>sameC_regrown (implJust17_any ra rb (grow (redrawn w1 d) os) (by omega)))
          clear hL HLk hrd
          cases hJ:decide (ra=rb - 1)
          · rw [hJ] at HU HJ3
            rw [Bool.false_and] at HU
            have hn:=hide (HQ.out.trans HU.out)
            clear hJ HQ HU HC3 HE3
            go_enter Tryz.func40,Tryz.ntmps40
            go_upto_region 1 with fail
            (try rw [hw1])
            clear hw1
            go_upto_region 2 with fail
            refine wp_region_quiet_below (by kernel_rfl) (by kernel_rfl) ?_
            (try dsimp only [List.append])
            (try simp only [Act.put])
            iterate 55 (go_big_quiet_step (first | (go_at_call 98;exact HS3.out _ _) | (go_at_call 99;exact HO3.out _ _) | (go_at_call 100;exact HJ3.out _ _) | (go_at_call 101;exact HC3.out _ _) | (go_at_call 102;exact HE3.out _ _)))
            refine wpQuiet_nil ?_
            intro _ hw'
            obtain ⟨⟨dq,osq⟩,hw''⟩:=hw'
            subst hw''
            go_wp2
            go_ret
            exact ⟨ret_bool hn.out.symm,B1.out.trans ((below_regrown w1 dq osq).mono B1.out.size)⟩
          · rw [hJ] at HU HJ3
            rw [Bool.true_and] at HU
            clear hJ
            cases C
            · rw [Bool.false_and] at HU
              have hn:=hide (HQ.out.trans HU.out)
              clear HQ HU HE3
              go_enter Tryz.func40,Tryz.ntmps40
              go_upto_region 1 with fail
              (try rw [hw1])
              clear hw1
              go_upto_region 2 with fail
              refine wp_region_quiet_below (by kernel_rfl) (by kernel_rfl) ?_
              (try dsimp only [List.append])
              (try simp only [Act.put])
              iterate 44 (go_big_quiet_step (first | (go_at_call 98;exact HS3.out _ _) | (go_at_call 99;exact HO3.out _ _) | (go_at_call 100;exact HJ3.out _ _) | (go_at_call 101;exact HC3.out _ _) | (go_at_call 102;exact HE3.out _ _)))
              (first | go_big_quiet_skip | (refine quiet_load_mid 92 _ rfl b (off+(bs.length - 1) * 14) rfl db _ RB.out Tryz.underlying92 rfl IK.out (by rfl) ?_;change wpQuiet _ _ _ _ _ (Act.put _ (some 54) _);simp only [Act.put,List.setIfInBounds_toArray,List.set_cons_zero,List.set_cons_succ]))
              iterate 10 (go_big_quiet_step (first | (go_at_call 98;exact HS3.out _ _) | (go_at_call 99;exact HO3.out _ _) | (go_at_call 100;exact HJ3.out _ _) | (go_at_call 101;exact HC3.out _ _) | (go_at_call 102;exact HE3.out _ _)))
              refine wpQuiet_nil ?_
              intro _ hw'
              obtain ⟨⟨dq,osq⟩,hw''⟩:=hw'
              subst hw''
              go_wp2
              go_ret
              exact ⟨ret_bool hn.out.symm,B1.out.trans ((below_regrown w1 dq osq).mono B1.out.size)⟩
            · rw [Bool.true_and] at HU
              have hn:=hide (HQ.out.trans HU.out)
              clear HQ HU
              go_enter Tryz.func40,Tryz.ntmps40
              go_upto_region 1 with fail
              (try rw [hw1])
              clear hw1
              go_upto_region 2 with fail
              refine wp_region_quiet_below (by kernel_rfl) (by kernel_rfl) ?_
              (try dsimp only [List.append])
              (try simp only [Act.put])
              iterate 44 (go_big_quiet_step (first | (go_at_call 98;exact HS3.out _ _) | (go_at_call 99;exact HO3.out _ _) | (go_at_call 100;exact HJ3.out _ _) | (go_at_call 101;exact HC3.out _ _) | (go_at_call 102;exact HE3.out _ _)))
              (first | go_big_quiet_skip | (refine quiet_load_mid 92 _ rfl b (off+(bs.length - 1) * 14) rfl db _ RB.out Tryz.underlying92 rfl IK.out (by rfl) ?_;change wpQuiet _ _ _ _ _ (Act.put _ (some 54) _);simp only [Act.put,List.setIfInBounds_toArray,List.set_cons_zero,List.set_cons_succ]))
              iterate 10 (go_big_quiet_step (first | (go_at_call 98;exact HS3.out _ _) | (go_at_call 99;exact HO3.out _ _) | (go_at_call 100;exact HJ3.out _ _) | (go_at_call 101;exact HC3.out _ _) | (go_at_call 102;exact HE3.out _ _)))
              refine wpQuiet_nil ?_
              intro _ hw'
              obtain ⟨⟨dq,osq⟩,hw''⟩:=hw'
              subst hw''
              go_wp2
              go_ret
              exact ⟨ret_bool hn.out.symm,B1.out.trans ((below_regrown w1 dq osq).mono B1.out.size)⟩
      · have hn:=hide (HNo3.out h2)
        have heb:(ep == e)=true:=by rw [he];simp
        have hd1:decide ((1:Int)<=(bs.length:Int) - 1)=false:=by simp;omega
        have hd2:decide ((2:Int)<=(bs.length:Int))=false:=by simp;omega
        have hd3:decide (2<=bs.length)=false:=by simp;omega
        clear hX HNo1 HNo2 HNo3 HEq HU HMo hr1 hk1 hq1 hf hbd hsq he
        go_enter Tryz.func40,Tryz.ntmps40
        go_upto_region 1 with fail
        (try rw [hw1])
        clear hw1
        go_upto_region 2 with fail
        refine wp_region_quiet_below (by kernel_rfl) (by kernel_rfl) ?_
        (try dsimp only [List.append])
        (try simp only [Act.put])
        iterate 55 (go_big_quiet_step (first | (go_at_call 98;exact HS3.out _ _) | (go_at_call 99;exact HO3.out _ _) | (go_at_call 100;exact HJ3.out _ _) | (go_at_call 101;exact HC3.out _ _) | (go_at_call 102;exact HE3.out _ _)))
        refine wpQuiet_nil ?_
        intro _ hw'
        obtain ⟨⟨dq,osq⟩,hw''⟩:=hw'
        subst hw''
        go_wp2
        go_ret
        exact ⟨ret_bool hn.out.symm,B1.out.trans ((below_regrown w1 dq osq).mono B1.out.size)⟩
    · have hn:=hide (HNo2.out he)
      have heb:(ep == e)=false:=by rw [beq_eq_false_iff_ne];exact he
      clear hX HNo1 HNo2 HNo3 HEq HU HMo hr1 hk1 hq1 hf hbd hsq he
      go_enter Tryz.func40,Tryz.ntmps40
      go_upto_region 1 with fail
      (try rw [hw1])
      clear hw1
      go_upto_region 2 with fail
      refine wp_region_quiet_below (by kernel_rfl) (by kernel_rfl) ?_
      (try dsimp only [List.append])
      (try simp only [Act.put])
      iterate 55 (go_big_quiet_step (first | (go_at_call 98;exact HS3.out _ _) | (go_at_call 99;exact HO3.out _ _) | (go_at_call 100;exact HJ3.out _ _) | (go_at_call 101;exact HC3.out _ _) | (go_at_call 102;exact HE3.out _ _)))
      refine wpQuiet_nil ?_
      intro _ hw'
      obtain ⟨⟨dq,osq⟩,hw''⟩:=hw'
      subst hw''
      go_wp2
      go_ret
      exact ⟨ret_bool hn.out.symm,B1.out.trans ((below_regrown w1 dq osq).mono B1.out.size)⟩
end Go.Proofs.YtaidhenkijjcfaaGreat
