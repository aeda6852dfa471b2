/- The landed code's MsgOk, whole. -/
import Derived.Test.YtckahjabljffjaaGreatZwMgPure
import Derived.Test.YtckahjabljffjaaGreatZwBkOkI
import Derived.Test.YtckahjabljffjaaGreatZwTrChS
import Derived.Deep.Cut
set_option maxRecDepth 20000
set_option maxHeartbeats 2000000
namespace Go.Proofs.YtckahjabljffjaaGreat
open Go.RowKit Go.Sort
set_option linter.unusedVariables false
theorem implSaidVote_any (m:Mg) (v:Mv) (w:World) (hr:RdM w m v) (hf:FewM m) :
    Calls Tryz.prog 185 #[mgV m v] w fun e w'=>e=.returned (.bool (vtB m))/\Below w.heap.size w w':=by
  have HX:Hid (vtB m=(if m.kd=2 then inB m.vr 1 10000 && (inB m.vb 0 100000 && nmB m.vw) else z3B m.vr m.vb m.vw)):=hide rfl
  generalize vtB m=X at HX ⊢
  have hgr:=hf.gr
  have HM:=hide (fun V=>implNameOk_any m.vw V hf.vs)
  clear hf
  obtain ⟨kd,tn,ep,bs,vr,vb,vw,gr,gh,gw,qr,qb,qw,tr,tw,th⟩:=m
  obtain ⟨xb,xq,xw,xh⟩:=v
  obtain ⟨hb,hq,hw,hh⟩:=hr
  simp only at *
  obtain ⟨ab,cb,rfl⟩:=hb.shape
  obtain ⟨aq,cq,rfl⟩:=hq.shape
  obtain ⟨aw,cw,rfl⟩:=hw.shape
  obtain ⟨ah,ch,rfl⟩:=hh.shape
  simp only [mgV]
  obtain ⟨w1,hw1⟩:∃ x,w.alloc (.cells #[.int .i64 kd,.string tn,.int .i64 ep,.slice ab bs.length cb,.int .i64 vr,.int .i64 vb,.string vw,.int .i64 gr,.int .i64 gh,.string gw,.int .i64 qr,.int .i64 qb,.slice aq qw.length cq,.int .i64 tr,.slice aw tw.length cw,.slice ah th.length ch] 102)=x:=⟨_,rfl⟩
  have b1:Below w.heap.size w w1:=by rw [<- hw1];exact (Below.refl _ w).alloc (Nat.le_refl _) _
  have k1:Blk w1 w.heap.size 102 [.int .i64 kd,.string tn,.int .i64 ep,.slice ab bs.length cb,.int .i64 vr,.int .i64 vb,.string vw,.int .i64 gr,.int .i64 gh,.string gw,.int .i64 qr,.int .i64 qb,.slice aq qw.length cq,.int .i64 tr,.slice aw tw.length cw,.slice ah th.length ch]:=by rw [<- hw1];exact Blk.new w _ _
  have x0:=k1.cell 0
  have x4:=k1.cell 4
  have x5:=k1.cell 5
  have x6:=k1.cell 6
  simp only [List.getElem?_cons_zero,List.getElem?_cons_succ] at x0 x4 x5 x6
  have HB1:=hide b1
  clear hb hq hw hh b1 k1
  by_cases hk:kd=2
  · rw [if_pos hk] at HX
    subst hk
    generalize nmB vw=M0 at HX HM
    cases h0:inB vr 1 10000
    · rw [h0,Bool.false_and] at HX
      go_enter Tryz.func185,Tryz.ntmps185
      go_wp2_with (first
        | (go_at_call 74;refine (implWithinC_any _ _ _ _).mono ?_;rintro e w4 ⟨rfl,rfl⟩)
        | (go_at_call 76;refine (HM.out _).mono ?_;rintro e w5 ⟨rfl,rfl⟩))
      go_ret
      exact ⟨ret_bool HX.out.symm,HB1.out⟩
    · rw [h0,Bool.true_and] at HX
      cases h1:inB vb 0 100000
      · rw [h1,Bool.false_and] at HX
        go_enter Tryz.func185,Tryz.ntmps185
        go_wp2_with (first
          | (go_at_call 74;refine (implWithinC_any _ _ _ _).mono ?_;rintro e w4 ⟨rfl,rfl⟩)
          | (go_at_call 76;refine (HM.out _).mono ?_;rintro e w5 ⟨rfl,rfl⟩))
        go_ret
        exact ⟨ret_bool HX.out.symm,HB1.out⟩
      · rw [h1,Bool.true_and] at HX
        go_enter Tryz.func185,Tryz.ntmps185
        go_wp2_with (first
          | (go_at_call 74;refine (implWithinC_any _ _ _ _).mono ?_;rintro e w4 ⟨rfl,rfl⟩)
          | (go_at_call 76;refine (HM.out _).mono ?_;rintro e w5 ⟨rfl,rfl⟩))
        go_ret
        exact ⟨ret_bool HX.out.symm,HB1.out⟩
  · rw [if_neg hk] at HX
    have hkb:(kd != 2)=true:=by rw [bne_iff_ne];exact hk
    clear hk HM
    by_cases h0:vr=0/\vb=0/\vw=⟨#[]⟩
    · have Hf:Hid (X=true):=hide (HX.out.trans (by unfold z3B;exact decide_eq_true h0))
      obtain ⟨rfl,rfl,rfl⟩:=h0
      go_enter Tryz.func185,Tryz.ntmps185
      go_wp2
      go_ret
      exact ⟨ret_bool Hf.out.symm,HB1.out⟩
    · have Hf:Hid (X=false):=hide (HX.out.trans (by unfold z3B;exact decide_eq_false h0))
      have H0:=hide h0
      clear HX h0
      go_enter Tryz.func185,Tryz.ntmps185
      go_wp2
      all_goals first
        | (go_ret;exact ⟨ret_bool Hf.out.symm,HB1.out⟩)
        | (exfalso;rename_i h1 h2 h3;exact H0.out ⟨h1,h2,toList_nil h3⟩)
theorem implSaidGone_any (m:Mg) (v:Mv) (w:World) (hr:RdM w m v) (hf:FewM m) :
    Calls Tryz.prog 186 #[mgV m v] w fun e w'=>e=.returned (.bool (gnB m))/\Below w.heap.size w w':=by
  have HX:Hid (gnB m=(if m.kd=3 then inB m.gr 1 10000 && (inB m.gh 0 (m.gr - 1) && (decide (m.gh=m.qr) && nmB m.gw)) else z3B m.gr m.gh m.gw)):=hide rfl
  generalize gnB m=X at HX ⊢
  have hgr:=hf.gr
  have HM:=hide (fun V=>implNameOk_any m.gw V hf.gs)
  clear hf
  obtain ⟨kd,tn,ep,bs,vr,vb,vw,gr,gh,gw,qr,qb,qw,tr,tw,th⟩:=m
  obtain ⟨xb,xq,xw,xh⟩:=v
  obtain ⟨hb,hq,hw,hh⟩:=hr
  simp only at *
  obtain ⟨ab,cb,rfl⟩:=hb.shape
  obtain ⟨aq,cq,rfl⟩:=hq.shape
  obtain ⟨aw,cw,rfl⟩:=hw.shape
  obtain ⟨ah,ch,rfl⟩:=hh.shape
  simp only [mgV]
  obtain ⟨w1,hw1⟩:∃ x,w.alloc (.cells #[.int .i64 kd,.string tn,.int .i64 ep,.slice ab bs.length cb,.int .i64 vr,.int .i64 vb,.string vw,.int .i64 gr,.int .i64 gh,.string gw,.int .i64 qr,.int .i64 qb,.slice aq qw.length cq,.int .i64 tr,.slice aw tw.length cw,.slice ah th.length ch] 102)=x:=⟨_,rfl⟩
  have b1:Below w.heap.size w w1:=by rw [<- hw1];exact (Below.refl _ w).alloc (Nat.le_refl _) _
  have k1:Blk w1 w.heap.size 102 [.int .i64 kd,.string tn,.int .i64 ep,.slice ab bs.length cb,.int .i64 vr,.int .i64 vb,.string vw,.int .i64 gr,.int .i64 gh,.string gw,.int .i64 qr,.int .i64 qb,.slice aq qw.length cq,.int .i64 tr,.slice aw tw.length cw,.slice ah th.length ch]:=by rw [<- hw1];exact Blk.new w _ _
  have x0:=k1.cell 0
  have x7:=k1.cell 7
  have x8:=k1.cell 8
  have x9:=k1.cell 9
  have x10:=k1.cell 10
  simp only [List.getElem?_cons_zero,List.getElem?_cons_succ] at x0 x7 x8 x9 x10
  have HB1:=hide b1
  clear hb hq hw hh b1 k1
  by_cases hk:kd=3
  · rw [if_pos hk] at HX
    subst hk
    generalize nmB gw=M0 at HX HM
    have ew:IntKind.i64.wrap (gr - 1)=wrap64 (gr - 1):=by rw [IntKind.wrap_i64];unfold wrap64;omega
    cases h0:inB gr 1 10000
    · rw [h0,Bool.false_and] at HX
      go_enter Tryz.func186,Tryz.ntmps186
      go_wp2_with (first
        | (go_at_call 74;refine (implWithinC_any _ _ _ _).mono ?_;rintro e w4 ⟨rfl,rfl⟩)
        | (go_at_call 76;refine (HM.out _).mono ?_;rintro e w5 ⟨rfl,rfl⟩))
      go_ret
      exact ⟨ret_bool HX.out.symm,HB1.out⟩
    · rw [h0,Bool.true_and] at HX
      have hwr:wrap64 (gr - 1)=gr - 1:=by unfold inB at h0;simp only [decide_eq_true_eq] at h0;unfold wrap64;omega
      rw [hwr] at ew
      clear hwr
      cases h1:inB gh 0 (gr - 1)
      · rw [h1,Bool.false_and] at HX
        go_enter Tryz.func186,Tryz.ntmps186
        go_wp2_with (first
          | (go_at_call 74;refine (implWithinC_any _ _ _ _).mono ?_;rintro e w4 ⟨rfl,rfl⟩)
          | (go_at_call 76;refine (HM.out _).mono ?_;rintro e w5 ⟨rfl,rfl⟩))
        go_ret
        exact ⟨ret_bool HX.out.symm,HB1.out⟩
      · rw [h1,Bool.true_and] at HX
        by_cases h2:gh=qr
        · rw [decide_eq_true h2,Bool.true_and] at HX
          have h2b:(gh == qr)=true:=by rw [h2];simp
          clear h2
          go_enter Tryz.func186,Tryz.ntmps186
          go_wp2_with (first
            | (go_at_call 74;refine (implWithinC_any _ _ _ _).mono ?_;rintro e w4 ⟨rfl,rfl⟩)
            | (go_at_call 76;refine (HM.out _).mono ?_;rintro e w5 ⟨rfl,rfl⟩))
          go_ret
          exact ⟨ret_bool HX.out.symm,HB1.out⟩
        · rw [decide_eq_false h2,Bool.false_and] at HX
          have h2b:(gh == qr)=false:=by rw [beq_eq_false_iff_ne];exact h2
          clear h2
          go_enter Tryz.func186,Tryz.ntmps186
          go_wp2_with (first
            | (go_at_call 74;refine (implWithinC_any _ _ _ _).mono ?_;rintro e w4 ⟨rfl,rfl⟩)
            | (go_at_call 76;refine (HM.out _).mono ?_;rintro e w5 ⟨rfl,rfl⟩))
          go_ret
          exact ⟨ret_bool HX.out.symm,HB1.out⟩
  · rw [if_neg hk] at HX
    have hkb:(kd != 3)=true:=by rw [bne_iff_ne];exact hk
    clear hk HM
    by_cases h0:gr=0/\gh=0/\gw=⟨#[]⟩
    · have Hf:Hid (X=true):=hide (HX.out.trans (by unfold z3B;exact decide_eq_true h0))
      obtain ⟨rfl,rfl,rfl⟩:=h0
      go_enter Tryz.func186,Tryz.ntmps186
      go_wp2
      go_ret
      exact ⟨ret_bool Hf.out.symm,HB1.out⟩
    · have Hf:Hid (X=false):=hide (HX.out.trans (by unfold z3B;exact decide_eq_false h0))
      have H0:=hide h0
      clear HX h0
      go_enter Tryz.func186,Tryz.ntmps186
      go_wp2
      all_goals first
        | (go_ret;exact ⟨ret_bool Hf.out.symm,HB1.out⟩)
        | (exfalso;rename_i h1 h2 h3;exact H0.out ⟨h1,h2,toList_nil h3⟩)
theorem implSaidQc_any (m:Mg) (v:Mv) (w:World) (hr:RdM w m v) (hf:FewM m) :
    Calls Tryz.prog 187 #[mgV m v] w fun e w'=>e=.returned (.bool (qM m))/\Below w.heap.size w w':=by
  have HX:Hid (qM m=(if m.kd=3\/m.kd=4 then qcW m.qr m.qb m.qw else rootB m.qr m.qb m.qw)):=hide rfl
  generalize qM m=X at HX ⊢
  have hlq:=hf.q
  have hsq:=hf.qs
  clear hf
  obtain ⟨kd,tn,ep,bs,vr,vb,vw,gr,gh,gw,qr,qb,qw,tr,tw,th⟩:=m
  obtain ⟨xb,xq,xw,xh⟩:=v
  obtain ⟨hb,hq,hw,hh⟩:=hr
  simp only at *
  obtain ⟨ab,cb,rfl⟩:=hb.shape
  obtain ⟨aq,cq,rfl⟩:=hq.shape
  obtain ⟨aw,cw,rfl⟩:=hw.shape
  obtain ⟨ah,ch,rfl⟩:=hh.shape
  simp only [mgV]
  obtain ⟨w1,hw1⟩:∃ x,w.alloc (.cells #[.int .i64 kd,.string tn,.int .i64 ep,.slice ab bs.length cb,.int .i64 vr,.int .i64 vb,.string vw,.int .i64 gr,.int .i64 gh,.string gw,.int .i64 qr,.int .i64 qb,.slice aq qw.length cq,.int .i64 tr,.slice aw tw.length cw,.slice ah th.length ch] 102)=x:=⟨_,rfl⟩
  have b1:Below w.heap.size w w1:=by rw [<- hw1];exact (Below.refl _ w).alloc (Nat.le_refl _) _
  have k1:Blk w1 w.heap.size 102 [.int .i64 kd,.string tn,.int .i64 ep,.slice ab bs.length cb,.int .i64 vr,.int .i64 vb,.string vw,.int .i64 gr,.int .i64 gh,.string gw,.int .i64 qr,.int .i64 qb,.slice aq qw.length cq,.int .i64 tr,.slice aw tw.length cw,.slice ah th.length ch]:=by rw [<- hw1];exact Blk.new w _ _
  have x0:=k1.cell 0
  have x10:=k1.cell 10
  have x11:=k1.cell 11
  have x12:=k1.cell 12
  simp only [List.getElem?_cons_zero,List.getElem?_cons_succ] at x0 x10 x11 x12
  have HR:=hide (implIsRootQc_any qr qb (.slice aq qw.length cq) qw w1 (hq.below b1 (Nat.le_refl _)) hlq)
  have HF:Hid (Calls Tryz.prog 174 #[qcV qr qb (.slice aq qw.length cq),.int .i64 10000,.int .i64 100000] w1 fun e w'=>e=.returned (.bool (qcW qr qb qw))/\Below w1.heap.size w1 w'):=hide (implQcForm_any qr qb 10000 100000 (.slice aq qw.length cq) qw w1 (hq.below b1 (Nat.le_refl _)) hlq hsq)
  have HB1:=hide b1
  simp only [qcV] at HR HF
  clear hb hq hw hh b1 k1 hsq
  by_cases hk:kd=3\/kd=4
  · rw [if_pos hk] at HX
    generalize qcW qr qb qw=Q0 at HX HF
    clear HR
    rcases hk with rfl | rfl
    · go_enter Tryz.func187,Tryz.ntmps187
      go_wp2_with fail
      refine HF.out.mono ?_
      rintro e w2 ⟨rfl,hb2⟩
      go_wp2
      go_ret
      exact ⟨ret_bool HX.out.symm,HB1.out.trans (hb2.mono HB1.out.size)⟩
    · go_enter Tryz.func187,Tryz.ntmps187
      go_wp2_with fail
      refine HF.out.mono ?_
      rintro e w2 ⟨rfl,hb2⟩
      go_wp2
      go_ret
      exact ⟨ret_bool HX.out.symm,HB1.out.trans (hb2.mono HB1.out.size)⟩
  · rw [if_neg hk] at HX
    have h3:(kd != 3)=true:=by rw [bne_iff_ne];exact fun e=>hk (.inl e)
    have h4:(kd != 4)=true:=by rw [bne_iff_ne];exact fun e=>hk (.inr e)
    generalize rootB qr qb qw=Q0 at HX HR
    clear HF hk
    go_enter Tryz.func187,Tryz.ntmps187
    go_wp2_with fail
    refine HR.out.mono ?_
    rintro e w2 ⟨rfl,hb2⟩
    go_wp2
    go_ret
    exact ⟨ret_bool HX.out.symm,HB1.out.trans (hb2.mono HB1.out.size)⟩
theorem implSaidTc_any (m:Mg) (v:Mv) (w:World) (hr:RdM w m v) (hf:FewM m) :
    Calls Tryz.prog 188 #[mgV m v] w fun e w'=>e=.returned (.bool (tM m))/\Below w.heap.size w w':=by
  have HX:Hid (tM m=(if m.kd=4 then tcW m.tr m.tw m.th else noneB m.tr m.tw m.th)):=hide rfl
  generalize tM m=X at HX ⊢
  have hlw:=hf.w
  have hlh:=hf.h
  have hsw:=hf.ws
  have htr:=hf.tr
  clear hf
  obtain ⟨kd,tn,ep,bs,vr,vb,vw,gr,gh,gw,qr,qb,qw,tr,tw,th⟩:=m
  obtain ⟨xb,xq,xw,xh⟩:=v
  obtain ⟨hb,hq,hw,hh⟩:=hr
  simp only at *
  obtain ⟨ab,cb,rfl⟩:=hb.shape
  obtain ⟨aq,cq,rfl⟩:=hq.shape
  obtain ⟨aw,cw,rfl⟩:=hw.shape
  obtain ⟨ah,ch,rfl⟩:=hh.shape
  simp only [mgV]
  obtain ⟨w1,hw1⟩:∃ x,w.alloc (.cells #[.int .i64 kd,.string tn,.int .i64 ep,.slice ab bs.length cb,.int .i64 vr,.int .i64 vb,.string vw,.int .i64 gr,.int .i64 gh,.string gw,.int .i64 qr,.int .i64 qb,.slice aq qw.length cq,.int .i64 tr,.slice aw tw.length cw,.slice ah th.length ch] 102)=x:=⟨_,rfl⟩
  have b1:Below w.heap.size w w1:=by rw [<- hw1];exact (Below.refl _ w).alloc (Nat.le_refl _) _
  have k1:Blk w1 w.heap.size 102 [.int .i64 kd,.string tn,.int .i64 ep,.slice ab bs.length cb,.int .i64 vr,.int .i64 vb,.string vw,.int .i64 gr,.int .i64 gh,.string gw,.int .i64 qr,.int .i64 qb,.slice aq qw.length cq,.int .i64 tr,.slice aw tw.length cw,.slice ah th.length ch]:=by rw [<- hw1];exact Blk.new w _ _
  have x0:=k1.cell 0
  have x13:=k1.cell 13
  have x14:=k1.cell 14
  have x15:=k1.cell 15
  simp only [List.getElem?_cons_zero,List.getElem?_cons_succ] at x0 x13 x14 x15
  have HR:=hide (implNoTc_any tr (.slice aw tw.length cw) (.slice ah th.length ch) tw th w1 (hw.below b1 (Nat.le_refl _)) (hh.below b1 (Nat.le_refl _)) hlw hlh)
  have HF:Hid (Calls Tryz.prog 175 #[tcV tr (.slice aw tw.length cw) (.slice ah th.length ch),.int .i64 10000] w1 fun e w'=>e=.returned (.bool (tcW tr tw th))/\Below w1.heap.size w1 w'):=hide (implTcForm_any tr 10000 (.slice aw tw.length cw) (.slice ah th.length ch) tw th w1 (hw.below b1 (Nat.le_refl _)) (hh.below b1 (Nat.le_refl _)) hlw hlh hsw htr.2)
  have HB1:=hide b1
  simp only [tcV] at HR HF
  clear hb hq hw hh b1 k1 hsw htr
  by_cases hk:kd=4
  · rw [if_pos hk] at HX
    generalize tcW tr tw th=Q0 at HX HF
    clear HR
    subst hk
    go_enter Tryz.func188,Tryz.ntmps188
    go_wp2_with fail
    refine HF.out.mono ?_
    rintro e w2 ⟨rfl,hb2⟩
    go_wp2
    go_ret
    exact ⟨ret_bool HX.out.symm,HB1.out.trans (hb2.mono HB1.out.size)⟩
  · rw [if_neg hk] at HX
    have h4:(kd != 4)=true:=by rw [bne_iff_ne];exact hk
    generalize noneB tr tw th=Q0 at HX HR
    clear HF hk
    go_enter Tryz.func188,Tryz.ntmps188
    go_wp2_with fail
    refine HR.out.mono ?_
    rintro e w2 ⟨rfl,hb2⟩
    go_wp2
    go_ret
    exact ⟨ret_bool HX.out.symm,HB1.out.trans (hb2.mono HB1.out.size)⟩
theorem implBlocksSaid_any (kd:Int) (w:World):Calls Tryz.prog 220 #[.int .i64 kd] w fun e w'=>∃ a b:Int,e=.returned (.tuple #[.int .i64 a,.int .i64 b])/\(∀ n:Nat,inB (n:Int) a b=manyB kd n)/\w'=w:=by
  by_cases h1:kd=1
  · have H:Hid (∀ n:Nat,inB (n:Int) 1 1=manyB kd n):=hide (fun n=>by unfold manyB inB;rw [if_pos h1,Bool.eq_iff_iff,decide_eq_true_eq,decide_eq_true_eq];omega)
    subst h1
    go_enter Tryz.func220,Tryz.ntmps220
    go_wp2
    go_ret2
    exact ⟨1,1,rfl,H.out,rfl⟩
  have h1b:(kd == 1)=false:=by rw [beq_eq_false_iff_ne];exact h1
  by_cases h4:kd=4
  · have H:Hid (∀ n:Nat,inB (n:Int) 0 400=manyB kd n):=hide (fun n=>by unfold manyB inB;rw [if_neg h1,if_pos h4,Bool.eq_iff_iff,decide_eq_true_eq,decide_eq_true_eq];omega)
    subst h4
    go_enter Tryz.func220,Tryz.ntmps220
    go_wp2
    go_ret2
    exact ⟨0,400,rfl,H.out,rfl⟩
  have h4b:(kd == 4)=false:=by rw [beq_eq_false_iff_ne];exact h4
  have H:Hid (∀ n:Nat,inB (n:Int) 0 0=manyB kd n):=hide (fun n=>by unfold manyB inB;rw [if_neg h1,if_neg h4,Bool.eq_iff_iff,decide_eq_true_eq,decide_eq_true_eq];omega)
  clear h1 h4
  go_enter Tryz.func220,Tryz.ntmps220
  go_wp2
  go_ret2
  exact ⟨0,0,rfl,H.out,rfl⟩
theorem implSaidBlocks_any (m:Mg) (v:Mv) (w:World) (hr:RdM w m v) (hf:FewM m) :
    Calls Tryz.prog 184 #[mgV m v] w fun e w'=>e=.returned (.bool (bsB m))/\Below w.heap.size w w':=by
  have HX:Hid (bsB m=(manyB m.kd m.bs.length && m.bs.all (oneB m.ep))):=hide rfl
  generalize bsB m=X at HX ⊢
  have hlb:=hf.b
  have hfb:=hf.bs
  have hbt:=hf.bt
  clear hf
  obtain ⟨kd,tn,ep,bs,vr,vb,vw,gr,gh,gw,qr,qb,qw,tr,tw,th⟩:=m
  obtain ⟨xb,xq,xw,xh⟩:=v
  obtain ⟨hb,hq,hw,hh⟩:=hr
  simp only at *
  obtain ⟨ab,cb,rfl⟩:=hb.shape
  obtain ⟨aq,cq,rfl⟩:=hq.shape
  obtain ⟨aw,cw,rfl⟩:=hw.shape
  obtain ⟨ah,ch,rfl⟩:=hh.shape
  simp only [mgV]
  obtain ⟨w1,hw1⟩:∃ x,w.alloc (.cells #[.int .i64 kd,.string tn,.int .i64 ep,.slice ab bs.length cb,.int .i64 vr,.int .i64 vb,.string vw,.int .i64 gr,.int .i64 gh,.string gw,.int .i64 qr,.int .i64 qb,.slice aq qw.length cq,.int .i64 tr,.slice aw tw.length cw,.slice ah th.length ch] 102)=x:=⟨_,rfl⟩
  have b1:Below w.heap.size w w1:=by rw [<- hw1];exact (Below.refl _ w).alloc (Nat.le_refl _) _
  have k1:Blk w1 w.heap.size 102 [.int .i64 kd,.string tn,.int .i64 ep,.slice ab bs.length cb,.int .i64 vr,.int .i64 vb,.string vw,.int .i64 gr,.int .i64 gh,.string gw,.int .i64 qr,.int .i64 qb,.slice aq qw.length cq,.int .i64 tr,.slice aw tw.length cw,.slice ah th.length ch]:=by rw [<- hw1];exact Blk.new w _ _
  have x0:=k1.cell 0
  have x3:=k1.cell 3
  simp only [List.getElem?_cons_zero,List.getElem?_cons_succ] at x0 x3
  have HB1:=hide b1
  have K1:=hide k1
  have Hr:=hide (hb.below b1 (Nat.le_refl _))
  have Hfb:=hide hfb
  have Hbt:=hide hbt
  clear hb hq hw hh b1 k1 hfb hbt
  go_enter Tryz.func184,Tryz.ntmps184
  go_wp2_with fail
  refine (implBlocksSaid_any kd w1).mono ?_
  rintro e w2 ⟨a,b,rfl,hab,rfl⟩
  have hab:=hab bs.length
  cases hm:manyB kd bs.length
  · rw [hm,Bool.false_and] at HX
    rw [hm] at hab
    have HI:=hide (implWithinC_any (bs.length:Int) a b w2)
    rw [hab] at HI
    clear hab hm
    go_wp2_with (go_at_call 74;refine HI.out.mono ?_;rintro e w4 ⟨rfl,rfl⟩)
    go_ret
    exact ⟨ret_bool HX.out.symm,HB1.out⟩
  · rw [hm, Bool.true_and] at HX
    rw [hm] at hab
    have HI:=hide (implWithinC_any (bs.length:Int) a b w2)
    rw [hab] at HI
    clear hab hm
    go_wp2_with (go_at_call 74;refine HI.out.mono ?_;rintro e w4 ⟨rfl,rfl⟩)
    clear x0 x3 HI hw1
    go_loopw [23,6] (fun iv bv wr=>∃ k:Nat,k<=bs.length/\iv=.int .i64 (k:Int)/\(∀ j (hj:j < bs.length),j < k->oneB ep bs[j]=true)/\Below w4.heap.size w4 wr) (fun iv _ _=>bs.length - (intOf iv).toNat)
    case atStart=>exact ⟨0,Nat.zero_le _,rfl,fun j _ hj=>by omega,Below.refl _ _⟩
    case round =>
      obtain ⟨k,hk,rfl,hok,hb⟩:=hrel
      have Hall:=hide hok
      have HBr:=hide (HB1.out.trans (hb.mono HB1.out.size))
      clear hok
      by_cases hlt:k < bs.length
      · obtain ⟨g,off,hag,hgl,hcell⟩:=Hr.out.parts9 (by omega)
        obtain ⟨lv,hat,hrl⟩:=hcell k hlt
        subst hag
        obtain ⟨c0,c1,c2,c3,c4,c5,c6,c7,c8,c9,c10,c11,c12,c13⟩:=(hat.below hb hgl).cells
        have hli:(k:Int) < (bs.length:Int):=by omega
        have Hno:=hide (fun h=>allO_no (ep:=ep) hlt h)
        have Hnx:Hid (oneB ep bs[k]=true->∀ j (hj:j < bs.length),j < k+1->oneB ep bs[j]=true):=hide (fun h j hj hjk=>by
          by_cases e:j=k
          · subst e;exact h
          · exact Hall.out j hj (by omega))
        have HQ:=hide (fun V (hV:Below wr.heap.size wr V)=>implBlockOk_any bs[k] lv V ((hrl.below hb (Nat.le_refl _)).below hV (Nat.le_refl _)) (Hfb.out _ (List.getElem_mem hlt)) (Hbt.out _ (List.getElem_mem hlt)))
        have Hone:Hid (oneB ep bs[k]=(decide (bs[k].ep=ep) && blB bs[k])):=hide rfl
        have Hsh:=hide hrl.shapes9
        have kr:=K1.out.below hb K1.out.lt
        have HBw:=hide hb
        clear hat hrl hcell hb
        generalize bs[k]=ak at c0 c1 c2 c3 c4 c5 c6 c7 c8 c9 c10 c11 c12 c13 HQ Hsh Hone Hno Hnx
        obtain ⟨aq2,cq2,aw2,cw2,ah2,ch2,at2,ct2,an2,cn2,rfl⟩:=Hsh.out
        clear Hsh
        obtain ⟨id,ep2,rd,md,qr2,qb2,qw2,tr2,tw2,th2,ts2,en2,nx2,rt2⟩:=ak
        simp only [bkV] at c0 c1 c2 c3 c4 c5 c6 c7 c8 c9 c10 c11 c12 c13 HQ Hone
        generalize blB _=B at HQ Hone
        generalize oneB ep _=O at Hone Hno Hnx
        obtain ⟨w5,hw5⟩:∃ x,wr.alloc (.cells #[.int .i64 id,.int .i64 ep2,.int .i64 rd,.string md,.int .i64 qr2,.int .i64 qb2,.slice aq2 qw2.length cq2,.int .i64 tr2,.slice aw2 tw2.length cw2,.slice ah2 th2.length ch2,.slice at2 ts2.length ct2,.bool en2,.slice an2 nx2.length cn2,.string rt2] 94)=x:=⟨_,rfl⟩
        have b5:Below wr.heap.size wr w5:=by rw [<- hw5];exact (Below.refl _ wr).alloc (Nat.le_refl _) _
        have k5:Blk w5 wr.heap.size 94 [.int .i64 id,.int .i64 ep2,.int .i64 rd,.string md,.int .i64 qr2,.int .i64 qb2,.slice aq2 qw2.length cq2,.int .i64 tr2,.slice aw2 tw2.length cw2,.slice ah2 th2.length ch2,.slice at2 ts2.length ct2,.bool en2,.slice an2 nx2.length cn2,.string rt2]:=by rw [<- hw5];exact Blk.new wr _ _
        have kr5:=kr.below b5 kr.lt
        have y0:=k5.cell 0
        have y1:=k5.cell 1
        have y2:=k5.cell 2
        have y3:=k5.cell 3
        have y4:=k5.cell 4
        have y5:=k5.cell 5
        have y6:=k5.cell 6
        have y7:=k5.cell 7
        have y8:=k5.cell 8
        have y9:=k5.cell 9
        have y10:=k5.cell 10
        have y11:=k5.cell 11
        have y12:=k5.cell 12
        have y13:=k5.cell 13
        have z2:=kr5.cell 2
        simp only [List.getElem?_cons_zero,List.getElem?_cons_succ] at z2 y0 y1 y2 y3 y4 y5 y6 y7 y8 y9 y10 y11 y12 y13
        have HQ5:=hide (HQ.out w5 b5)
        have HBe:=hide (HBw.out.trans (b5.mono HBw.out.size))
        have Hw5:=hide hw5
        clear k5 kr kr5 b5 HQ hw5
        go_upto_region 7 with fail
        rw [Hw5.out]
        clear Hw5 c0 c1 c2 c3 c4 c5 c6 c7 c8 c9 c10 c11 c12 c13
        by_cases he:ep2=ep
        · rw [decide_eq_true he,Bool.true_and] at Hone
          have heb:(ep2 != ep)=false:=by rw [he];simp
          clear he
          cases B
          · have Hf:=hide (HX.out.trans (Hno.out Hone.out))
            go_wp2_with (go_at_call 119;refine HQ5.out.mono ?_;rintro e w6 ⟨rfl,hb6⟩)
            go_ret
            exact ⟨ret_bool Hf.out.symm,HB1.out.trans ((HBe.out.trans (hb6.mono HBe.out.size)).mono HB1.out.size)⟩
          · have Hnx:=hide (Hnx.out Hone.out)
            go_wp2_with (go_at_call 119;refine HQ5.out.mono ?_;rintro e w6 ⟨rfl,hb6⟩)
            go_roundw
            case rel=>exact ⟨k+1,by omega,by go_num,Hnx.out,HBe.out.trans (hb6.mono HBe.out.size)⟩
            case measure=>simp [intOf];omega
        · rw [decide_eq_false he,Bool.false_and] at Hone
          have heb:(ep2 != ep)=true:=by rw [bne_iff_ne];exact he
          have Hf:=hide (HX.out.trans (Hno.out Hone.out))
          clear he
          go_wp2
          go_ret
          exact ⟨ret_bool Hf.out.symm,HB1.out.trans (HBe.out.mono HB1.out.size)⟩
      · have Hy:=hide (HX.out.trans (allO_yes (fun j hj=>Hall.out j hj (by omega))))
        clear hb
        go_wp2
        go_ret
        exact ⟨ret_bool Hy.out.symm,HBr.out⟩
end Go.Proofs.YtckahjabljffjaaGreat
namespace Go.Proofs.YtckahjabljffjaaGreat
open Go.RowKit Go.Sort
set_option linter.unusedVariables false
theorem load_mg {ops:Array Oper} {rest:List Oper} {op:Oper} {a:Act} {w:World} {Q:Exit->Act->World->Prop} (x:Operand) (ho:op.op=.load 102 x) (B:Nat) (hx:a.eval x=.pointer (some ⟨B,0,none⟩)) {c0 c1 c2 c3 c4 c5 c6 c7 c8 c9 c10 c11 c12 c13 c14 c15 M:Value} (h:Blk w B 102 [c0,c1,c2,c3,c4,c5,c6,c7,c8,c9,c10,c11,c12,c13,c14,c15]) (hM:Value.agg #[c0,c1,c2,c3,c4,c5,c6,c7,c8,c9,c10,c11,c12,c13,c14,c15]=M)
    (hw:Region.wanted op (yielded ops a.tmps)=true) (hK:wpList Tryz.prog ops Q rest (a.put op.dst M) w):wpList Tryz.prog ops Q (op :: rest) a w:=by
  subst hM
  unfold wpList
  rw [if_pos hw]
  exact .inl (wp_load_mid 102 x ho B 0 hx [c0,c1,c2,c3,c4,c5,c6,c7,c8,c9,c10,c11,c12,c13,c14,c15] _ (fun j v hv=>by rw [Nat.zero_add];exact (h.cell j).trans hv) Tryz.underlying102 rfl (by kernel_rfl) hK)
theorem implMsgOk_0 (m:Mg) (v:Mv) (w:World) (hr:RdM w m v) (hf:FewM m) (h0:inB m.kd 1 4=false) :
    Calls Tryz.prog 123 #[mgV m v] w fun e w'=>e=.returned (.bool false)/\Below w.heap.size w w':=by
  have HK:=hide (fun V=>implWithinC_any m.kd 1 4 V)
  rw [h0] at HK
  clear hf h0
  obtain ⟨kd,tn,ep,bs,vr,vb,vw,gr,gh,gw,qr,qb,qw,tr,tw,th⟩:=m
  obtain ⟨xb,xq,xw,xh⟩:=v
  obtain ⟨hb,hq,hw,hh⟩:=hr
  simp only at *
  obtain ⟨ab,cb,rfl⟩:=hb.shape
  obtain ⟨aq,cq,rfl⟩:=hq.shape
  obtain ⟨aw,cw,rfl⟩:=hw.shape
  obtain ⟨ah,ch,rfl⟩:=hh.shape
  simp only [mgV]
  obtain ⟨w1,hw1⟩:∃ x,w.alloc (.cells #[.int .i64 kd,.string tn,.int .i64 ep,.slice ab bs.length cb,.int .i64 vr,.int .i64 vb,.string vw,.int .i64 gr,.int .i64 gh,.string gw,.int .i64 qr,.int .i64 qb,.slice aq qw.length cq,.int .i64 tr,.slice aw tw.length cw,.slice ah th.length ch] 102)=x:=⟨_,rfl⟩
  have b1:Below w.heap.size w w1:=by rw [<- hw1];exact (Below.refl _ w).alloc (Nat.le_refl _) _
  have k1:Blk w1 w.heap.size 102 [.int .i64 kd,.string tn,.int .i64 ep,.slice ab bs.length cb,.int .i64 vr,.int .i64 vb,.string vw,.int .i64 gr,.int .i64 gh,.string gw,.int .i64 qr,.int .i64 qb,.slice aq qw.length cq,.int .i64 tr,.slice aw tw.length cw,.slice ah th.length ch]:=by rw [<- hw1];exact Blk.new w _ _
  have x0:=k1.cell 0
  simp only [List.getElem?_cons_zero] at x0
  have K1:=hide k1
  clear hb hq hw hh k1
  go_enter Tryz.func123,Tryz.ntmps123
  go_wp2_with (first
    | (go_at_call 74;(with_reducible refine (HK.out _).mono ?_);rintro e w1 ⟨rfl,rfl⟩)
    | fail)
  go_ret
  exact ⟨rfl,b1⟩
theorem implMsgOk_1 (m:Mg) (v:Mv) (w:World) (hr:RdM w m v) (hf:FewM m) (h0:inB m.kd 1 4=true) (h1:nmB m.tn=false) :
    Calls Tryz.prog 123 #[mgV m v] w fun e w'=>e=.returned (.bool false)/\Below w.heap.size w w':=by
  have HM:=hide (fun V=>implNameOk_any m.tn V hf.t)
  rw [h1] at HM
  have HK:=hide (fun V=>implWithinC_any m.kd 1 4 V)
  rw [h0] at HK
  clear hf h0 h1
  obtain ⟨kd,tn,ep,bs,vr,vb,vw,gr,gh,gw,qr,qb,qw,tr,tw,th⟩:=m
  obtain ⟨xb,xq,xw,xh⟩:=v
  obtain ⟨hb,hq,hw,hh⟩:=hr
  simp only at *
  obtain ⟨ab,cb,rfl⟩:=hb.shape
  obtain ⟨aq,cq,rfl⟩:=hq.shape
  obtain ⟨aw,cw,rfl⟩:=hw.shape
  obtain ⟨ah,ch,rfl⟩:=hh.shape
  simp only [mgV]
  obtain ⟨w1,hw1⟩:∃ x,w.alloc (.cells #[.int .i64 kd,.string tn,.int .i64 ep,.slice ab bs.length cb,.int .i64 vr,.int .i64 vb,.string vw,.int .i64 gr,.int .i64 gh,.string gw,.int .i64 qr,.int .i64 qb,.slice aq qw.length cq,.int .i64 tr,.slice aw tw.length cw,.slice ah th.length ch] 102)=x:=⟨_,rfl⟩
  have b1:Below w.heap.size w w1:=by rw [<- hw1];exact (Below.refl _ w).alloc (Nat.le_refl _) _
  have k1:Blk w1 w.heap.size 102 [.int .i64 kd,.string tn,.int .i64 ep,.slice ab bs.length cb,.int .i64 vr,.int .i64 vb,.string vw,.int .i64 gr,.int .i64 gh,.string gw,.int .i64 qr,.int .i64 qb,.slice aq qw.length cq,.int .i64 tr,.slice aw tw.length cw,.slice ah th.length ch]:=by rw [<- hw1];exact Blk.new w _ _
  have x0:=k1.cell 0
  have x1:=k1.cell 1
  simp only [List.getElem?_cons_zero,List.getElem?_cons_succ] at x0 x1
  have K1:=hide k1
  clear hb hq hw hh k1
  go_enter Tryz.func123,Tryz.ntmps123
  go_wp2_with (first
    | (go_at_call 74;(with_reducible refine (HK.out _).mono ?_);rintro e w1 ⟨rfl,rfl⟩)
    | (go_at_call 76;refine (HM.out _).mono ?_;rintro e w1 ⟨rfl,rfl⟩)
    | fail)
  go_ret
  exact ⟨rfl,b1⟩
theorem implMsgOk_2 (m:Mg) (v:Mv) (w:World) (hr:RdM w m v) (hf:FewM m) (h0:inB m.kd 1 4=true) (h1:nmB m.tn=true) (h2:inB m.ep 0 900=false) :
    Calls Tryz.prog 123 #[mgV m v] w fun e w'=>e=.returned (.bool false)/\Below w.heap.size w w':=by
  have HM:=hide (fun V=>implNameOk_any m.tn V hf.t)
  rw [h1] at HM
  have HK:=hide (fun V=>implWithinC_any m.kd 1 4 V)
  rw [h0] at HK
  have HP:=hide (fun V=>implWithinC_any m.ep 0 900 V)
  rw [h2] at HP
  clear hf h0 h1 h2
  obtain ⟨kd,tn,ep,bs,vr,vb,vw,gr,gh,gw,qr,qb,qw,tr,tw,th⟩:=m
  obtain ⟨xb,xq,xw,xh⟩:=v
  obtain ⟨hb,hq,hw,hh⟩:=hr
  simp only at *
  obtain ⟨ab,cb,rfl⟩:=hb.shape
  obtain ⟨aq,cq,rfl⟩:=hq.shape
  obtain ⟨aw,cw,rfl⟩:=hw.shape
  obtain ⟨ah,ch,rfl⟩:=hh.shape
  simp only [mgV]
  obtain ⟨w1,hw1⟩:∃ x,w.alloc (.cells #[.int .i64 kd,.string tn,.int .i64 ep,.slice ab bs.length cb,.int .i64 vr,.int .i64 vb,.string vw,.int .i64 gr,.int .i64 gh,.string gw,.int .i64 qr,.int .i64 qb,.slice aq qw.length cq,.int .i64 tr,.slice aw tw.length cw,.slice ah th.length ch] 102)=x:=⟨_,rfl⟩
  have b1:Below w.heap.size w w1:=by rw [<- hw1];exact (Below.refl _ w).alloc (Nat.le_refl _) _
  have k1:Blk w1 w.heap.size 102 [.int .i64 kd,.string tn,.int .i64 ep,.slice ab bs.length cb,.int .i64 vr,.int .i64 vb,.string vw,.int .i64 gr,.int .i64 gh,.string gw,.int .i64 qr,.int .i64 qb,.slice aq qw.length cq,.int .i64 tr,.slice aw tw.length cw,.slice ah th.length ch]:=by rw [<- hw1];exact Blk.new w _ _
  have x0:=k1.cell 0
  have x1:=k1.cell 1
  have x2:=k1.cell 2
  simp only [List.getElem?_cons_zero,List.getElem?_cons_succ] at x0 x1 x2
  have K1:=hide k1
  clear hb hq hw hh k1
  go_enter Tryz.func123,Tryz.ntmps123
  go_wp2_with (first
    | (go_at_call 74;(with_reducible refine (HP.out _).mono ?_);rintro e w1 ⟨rfl,rfl⟩)
    | (go_at_call 74;(with_reducible refine (HK.out _).mono ?_);rintro e w1 ⟨rfl,rfl⟩)
    | (go_at_call 76;refine (HM.out _).mono ?_;rintro e w1 ⟨rfl,rfl⟩)
    | fail)
  go_ret
  exact ⟨rfl,b1⟩
theorem implMsgOk_3 (m:Mg) (v:Mv) (w:World) (hr:RdM w m v) (hf:FewM m) (h0:inB m.kd 1 4=true) (h1:nmB m.tn=true) (h2:inB m.ep 0 900=true) (h3:bsB m=false) :
    Calls Tryz.prog 123 #[mgV m v] w fun e w'=>e=.returned (.bool false)/\Below w.heap.size w w':=by
  have HM:=hide (fun V=>implNameOk_any m.tn V hf.t)
  rw [h1] at HM
  have HK:=hide (fun V=>implWithinC_any m.kd 1 4 V)
  rw [h0] at HK
  have HP:=hide (fun V=>implWithinC_any m.ep 0 900 V)
  rw [h2] at HP
  have E1:=hide (fun V (hV:Below w.heap.size w V)=>implSaidBlocks_any m v V (hr.below hV (Nat.le_refl _)) hf)
  rw [h3] at E1
  clear hf h0 h1 h2 h3
  obtain ⟨kd,tn,ep,bs,vr,vb,vw,gr,gh,gw,qr,qb,qw,tr,tw,th⟩:=m
  obtain ⟨xb,xq,xw,xh⟩:=v
  obtain ⟨hb,hq,hw,hh⟩:=hr
  simp only at *
  obtain ⟨ab,cb,rfl⟩:=hb.shape
  obtain ⟨aq,cq,rfl⟩:=hq.shape
  obtain ⟨aw,cw,rfl⟩:=hw.shape
  obtain ⟨ah,ch,rfl⟩:=hh.shape
  simp only [mgV] at E1
  simp only [mgV]
  obtain ⟨w1,hw1⟩:∃ x,w.alloc (.cells #[.int .i64 kd,.string tn,.int .i64 ep,.slice ab bs.length cb,.int .i64 vr,.int .i64 vb,.string vw,.int .i64 gr,.int .i64 gh,.string gw,.int .i64 qr,.int .i64 qb,.slice aq qw.length cq,.int .i64 tr,.slice aw tw.length cw,.slice ah th.length ch] 102)=x:=⟨_,rfl⟩
  have b1:Below w.heap.size w w1:=by rw [<- hw1];exact (Below.refl _ w).alloc (Nat.le_refl _) _
  have k1:Blk w1 w.heap.size 102 [.int .i64 kd,.string tn,.int .i64 ep,.slice ab bs.length cb,.int .i64 vr,.int .i64 vb,.string vw,.int .i64 gr,.int .i64 gh,.string gw,.int .i64 qr,.int .i64 qb,.slice aq qw.length cq,.int .i64 tr,.slice aw tw.length cw,.slice ah th.length ch]:=by rw [<- hw1];exact Blk.new w _ _
  have x0:=k1.cell 0
  have x1:=k1.cell 1
  have x2:=k1.cell 2
  simp only [List.getElem?_cons_zero,List.getElem?_cons_succ] at x0 x1 x2
  have K1:=hide k1
  clear hb hq hw hh k1
  go_enter Tryz.func123,Tryz.ntmps123
  go_upto_region 1 with fail
  (try rw [hw1])
  clear hw1
  obtain ⟨M,hM⟩:∃ x,(Value.agg #[.int .i64 kd,.string tn,.int .i64 ep,.slice ab bs.length cb,.int .i64 vr,.int .i64 vb,.string vw,.int .i64 gr,.int .i64 gh,.string gw,.int .i64 qr,.int .i64 qb,.slice aq qw.length cq,.int .i64 tr,.slice aw tw.length cw,.slice ah th.length ch])=x:=⟨_,rfl⟩
  rw [hM] at E1 ⊢
  go_wp2_with (first
    | (go_at_call 184;refine (E1.out _ b1).mono ?_;rintro e v1 ⟨rfl,hb1⟩;have hB1:=b1.trans (hb1.mono b1.size))
    | (refine load_mg _ rfl w.heap.size rfl K1.out hM (by rfl) ?_)
    | (go_at_call 74;(with_reducible refine (HP.out _).mono ?_);rintro e w1 ⟨rfl,rfl⟩)
    | (go_at_call 74;(with_reducible refine (HK.out _).mono ?_);rintro e w1 ⟨rfl,rfl⟩)
    | (go_at_call 76;refine (HM.out _).mono ?_;rintro e w1 ⟨rfl,rfl⟩)
    | fail)
  go_ret
  exact ⟨rfl,hB1⟩
theorem implMsgOk_4 (m:Mg) (v:Mv) (w:World) (hr:RdM w m v) (hf:FewM m) (h0:inB m.kd 1 4=true) (h1:nmB m.tn=true) (h2:inB m.ep 0 900=true) (h3:bsB m=true) (h4:vtB m=false) :
    Calls Tryz.prog 123 #[mgV m v] w fun e w'=>e=.returned (.bool false)/\Below w.heap.size w w':=by
  have HM:=hide (fun V=>implNameOk_any m.tn V hf.t)
  rw [h1] at HM
  have HK:=hide (fun V=>implWithinC_any m.kd 1 4 V)
  rw [h0] at HK
  have HP:=hide (fun V=>implWithinC_any m.ep 0 900 V)
  rw [h2] at HP
  have E1:=hide (fun V (hV:Below w.heap.size w V)=>implSaidBlocks_any m v V (hr.below hV (Nat.le_refl _)) hf)
  rw [h3] at E1
  have E2:=hide (fun V (hV:Below w.heap.size w V)=>implSaidVote_any m v V (hr.below hV (Nat.le_refl _)) hf)
  rw [h4] at E2
  clear hf h0 h1 h2 h3 h4
  obtain ⟨kd,tn,ep,bs,vr,vb,vw,gr,gh,gw,qr,qb,qw,tr,tw,th⟩:=m
  obtain ⟨xb,xq,xw,xh⟩:=v
  obtain ⟨hb,hq,hw,hh⟩:=hr
  simp only at *
  obtain ⟨ab,cb,rfl⟩:=hb.shape
  obtain ⟨aq,cq,rfl⟩:=hq.shape
  obtain ⟨aw,cw,rfl⟩:=hw.shape
  obtain ⟨ah,ch,rfl⟩:=hh.shape
  simp only [mgV] at E1 E2
  simp only [mgV]
  obtain ⟨w1,hw1⟩:∃ x,w.alloc (.cells #[.int .i64 kd,.string tn,.int .i64 ep,.slice ab bs.length cb,.int .i64 vr,.int .i64 vb,.string vw,.int .i64 gr,.int .i64 gh,.string gw,.int .i64 qr,.int .i64 qb,.slice aq qw.length cq,.int .i64 tr,.slice aw tw.length cw,.slice ah th.length ch] 102)=x:=⟨_,rfl⟩
  have b1:Below w.heap.size w w1:=by rw [<- hw1];exact (Below.refl _ w).alloc (Nat.le_refl _) _
  have k1:Blk w1 w.heap.size 102 [.int .i64 kd,.string tn,.int .i64 ep,.slice ab bs.length cb,.int .i64 vr,.int .i64 vb,.string vw,.int .i64 gr,.int .i64 gh,.string gw,.int .i64 qr,.int .i64 qb,.slice aq qw.length cq,.int .i64 tr,.slice aw tw.length cw,.slice ah th.length ch]:=by rw [<- hw1];exact Blk.new w _ _
  have x0:=k1.cell 0
  have x1:=k1.cell 1
  have x2:=k1.cell 2
  simp only [List.getElem?_cons_zero,List.getElem?_cons_succ] at x0 x1 x2
  have K1:=hide k1
  clear hb hq hw hh k1
  go_enter Tryz.func123,Tryz.ntmps123
  go_upto_region 1 with fail
  (try rw [hw1])
  clear hw1
  obtain ⟨M,hM⟩:∃ x,(Value.agg #[.int .i64 kd,.string tn,.int .i64 ep,.slice ab bs.length cb,.int .i64 vr,.int .i64 vb,.string vw,.int .i64 gr,.int .i64 gh,.string gw,.int .i64 qr,.int .i64 qb,.slice aq qw.length cq,.int .i64 tr,.slice aw tw.length cw,.slice ah th.length ch])=x:=⟨_,rfl⟩
  rw [hM] at E1 E2 ⊢
  go_wp2_with (first
    | (go_at_call 185;refine (E2.out _ hB1).mono ?_;rintro e v2 ⟨rfl,hb2⟩;have hB2:=hB1.trans (hb2.mono hB1.size))
    | (refine load_mg _ rfl w.heap.size rfl kk1 hM (by rfl) ?_)
    | (go_at_call 184;refine (E1.out _ b1).mono ?_;rintro e v1 ⟨rfl,hb1⟩;have hB1:=b1.trans (hb1.mono b1.size);have kk1:=K1.out.below hb1 K1.out.lt)
    | (refine load_mg _ rfl w.heap.size rfl K1.out hM (by rfl) ?_)
    | (go_at_call 74;(with_reducible refine (HP.out _).mono ?_);rintro e w1 ⟨rfl,rfl⟩)
    | (go_at_call 74;(with_reducible refine (HK.out _).mono ?_);rintro e w1 ⟨rfl,rfl⟩)
    | (go_at_call 76;refine (HM.out _).mono ?_;rintro e w1 ⟨rfl,rfl⟩)
    | fail)
  go_ret
  exact ⟨rfl,hB2⟩
theorem implMsgOk_5 (m:Mg) (v:Mv) (w:World) (hr:RdM w m v) (hf:FewM m) (h0:inB m.kd 1 4=true) (h1:nmB m.tn=true) (h2:inB m.ep 0 900=true) (h3:bsB m=true) (h4:vtB m=true) (h5:gnB m=false) :
    Calls Tryz.prog 123 #[mgV m v] w fun e w'=>e=.returned (.bool false)/\Below w.heap.size w w':=by
  have HM:=hide (fun V=>implNameOk_any m.tn V hf.t)
  rw [h1] at HM
  have HK:=hide (fun V=>implWithinC_any m.kd 1 4 V)
  rw [h0] at HK
  have HP:=hide (fun V=>implWithinC_any m.ep 0 900 V)
  rw [h2] at HP
  have E1:=hide (fun V (hV:Below w.heap.size w V)=>implSaidBlocks_any m v V (hr.below hV (Nat.le_refl _)) hf)
  rw [h3] at E1
  have E2:=hide (fun V (hV:Below w.heap.size w V)=>implSaidVote_any m v V (hr.below hV (Nat.le_refl _)) hf)
  rw [h4] at E2
  have E3:=hide (fun V (hV:Below w.heap.size w V)=>implSaidGone_any m v V (hr.below hV (Nat.le_refl _)) hf)
  rw [h5] at E3
  clear hf h0 h1 h2 h3 h4 h5
  obtain ⟨kd,tn,ep,bs,vr,vb,vw,gr,gh,gw,qr,qb,qw,tr,tw,th⟩:=m
  obtain ⟨xb,xq,xw,xh⟩:=v
  obtain ⟨hb,hq,hw,hh⟩:=hr
  simp only at *
  obtain ⟨ab,cb,rfl⟩:=hb.shape
  obtain ⟨aq,cq,rfl⟩:=hq.shape
  obtain ⟨aw,cw,rfl⟩:=hw.shape
  obtain ⟨ah,ch,rfl⟩:=hh.shape
  simp only [mgV] at E1 E2 E3
  simp only [mgV]
  obtain ⟨w1,hw1⟩:∃ x,w.alloc (.cells #[.int .i64 kd,.string tn,.int .i64 ep,.slice ab bs.length cb,.int .i64 vr,.int .i64 vb,.string vw,.int .i64 gr,.int .i64 gh,.string gw,.int .i64 qr,.int .i64 qb,.slice aq qw.length cq,.int .i64 tr,.slice aw tw.length cw,.slice ah th.length ch] 102)=x:=⟨_,rfl⟩
  have b1:Below w.heap.size w w1:=by rw [<- hw1];exact (Below.refl _ w).alloc (Nat.le_refl _) _
  have k1:Blk w1 w.heap.size 102 [.int .i64 kd,.string tn,.int .i64 ep,.slice ab bs.length cb,.int .i64 vr,.int .i64 vb,.string vw,.int .i64 gr,.int .i64 gh,.string gw,.int .i64 qr,.int .i64 qb,.slice aq qw.length cq,.int .i64 tr,.slice aw tw.length cw,.slice ah th.length ch]:=by rw [<- hw1];exact Blk.new w _ _
  have x0:=k1.cell 0
  have x1:=k1.cell 1
  have x2:=k1.cell 2
  simp only [List.getElem?_cons_zero,List.getElem?_cons_succ] at x0 x1 x2
  have K1:=hide k1
  clear hb hq hw hh k1
  go_enter Tryz.func123,Tryz.ntmps123
  go_upto_region 1 with fail
  (try rw [hw1])
  clear hw1
  obtain ⟨M,hM⟩:∃ x,(Value.agg #[.int .i64 kd,.string tn,.int .i64 ep,.slice ab bs.length cb,.int .i64 vr,.int .i64 vb,.string vw,.int .i64 gr,.int .i64 gh,.string gw,.int .i64 qr,.int .i64 qb,.slice aq qw.length cq,.int .i64 tr,.slice aw tw.length cw,.slice ah th.length ch])=x:=⟨_,rfl⟩
  rw [hM] at E1 E2 E3 ⊢
  go_wp2_with (first
    | (go_at_call 186;refine (E3.out _ hB2).mono ?_;rintro e v3 ⟨rfl,hb3⟩;have hB3:=hB2.trans (hb3.mono hB2.size))
    | (refine load_mg _ rfl w.heap.size rfl kk2 hM (by rfl) ?_)
    | (go_at_call 185;refine (E2.out _ hB1).mono ?_;rintro e v2 ⟨rfl,hb2⟩;have hB2:=hB1.trans (hb2.mono hB1.size);have kk2:=kk1.below hb2 kk1.lt)
    | (refine load_mg _ rfl w.heap.size rfl kk1 hM (by rfl) ?_)
    | (go_at_call 184;refine (E1.out _ b1).mono ?_;rintro e v1 ⟨rfl,hb1⟩;have hB1:=b1.trans (hb1.mono b1.size);have kk1:=K1.out.below hb1 K1.out.lt)
    | (refine load_mg _ rfl w.heap.size rfl K1.out hM (by rfl) ?_)
    | (go_at_call 74;(with_reducible refine (HP.out _).mono ?_);rintro e w1 ⟨rfl,rfl⟩)
    | (go_at_call 74;(with_reducible refine (HK.out _).mono ?_);rintro e w1 ⟨rfl,rfl⟩)
    | (go_at_call 76;refine (HM.out _).mono ?_;rintro e w1 ⟨rfl,rfl⟩)
    | fail)
  go_ret
  exact ⟨rfl,hB3⟩
theorem implMsgOk_6 (m:Mg) (v:Mv) (w:World) (hr:RdM w m v) (hf:FewM m) (h0:inB m.kd 1 4=true) (h1:nmB m.tn=true) (h2:inB m.ep 0 900=true) (h3:bsB m=true) (h4:vtB m=true) (h5:gnB m=true) (h6:qM m=false) :
    Calls Tryz.prog 123 #[mgV m v] w fun e w'=>e=.returned (.bool false)/\Below w.heap.size w w':=by
  have HM:=hide (fun V=>implNameOk_any m.tn V hf.t)
  rw [h1] at HM
  have HK:=hide (fun V=>implWithinC_any m.kd 1 4 V)
  rw [h0] at HK
  have HP:=hide (fun V=>implWithinC_any m.ep 0 900 V)
  rw [h2] at HP
  have E1:=hide (fun V (hV:Below w.heap.size w V)=>implSaidBlocks_any m v V (hr.below hV (Nat.le_refl _)) hf)
  rw [h3] at E1
  have E2:=hide (fun V (hV:Below w.heap.size w V)=>implSaidVote_any m v V (hr.below hV (Nat.le_refl _)) hf)
  rw [h4] at E2
  have E3:=hide (fun V (hV:Below w.heap.size w V)=>implSaidGone_any m v V (hr.below hV (Nat.le_refl _)) hf)
  rw [h5] at E3
  have E4:=hide (fun V (hV:Below w.heap.size w V)=>implSaidQc_any m v V (hr.below hV (Nat.le_refl _)) hf)
  rw [h6] at E4
  clear hf h0 h1 h2 h3 h4 h5 h6
  obtain ⟨kd,tn,ep,bs,vr,vb,vw,gr,gh,gw,qr,qb,qw,tr,tw,th⟩:=m
  obtain ⟨xb,xq,xw,xh⟩:=v
  obtain ⟨hb,hq,hw,hh⟩:=hr
  simp only at *
  obtain ⟨ab,cb,rfl⟩:=hb.shape
  obtain ⟨aq,cq,rfl⟩:=hq.shape
  obtain ⟨aw,cw,rfl⟩:=hw.shape
  obtain ⟨ah,ch,rfl⟩:=hh.shape
  simp only [mgV] at E1 E2 E3 E4
  simp only [mgV]
  obtain ⟨w1,hw1⟩:∃ x,w.alloc (.cells #[.int .i64 kd,.string tn,.int .i64 ep,.slice ab bs.length cb,.int .i64 vr,.int .i64 vb,.string vw,.int .i64 gr,.int .i64 gh,.string gw,.int .i64 qr,.int .i64 qb,.slice aq qw.length cq,.int .i64 tr,.slice aw tw.length cw,.slice ah th.length ch] 102)=x:=⟨_,rfl⟩
  have b1:Below w.heap.size w w1:=by rw [<- hw1];exact (Below.refl _ w).alloc (Nat.le_refl _) _
  have k1:Blk w1 w.heap.size 102 [.int .i64 kd,.string tn,.int .i64 ep,.slice ab bs.length cb,.int .i64 vr,.int .i64 vb,.string vw,.int .i64 gr,.int .i64 gh,.string gw,.int .i64 qr,.int .i64 qb,.slice aq qw.length cq,.int .i64 tr,.slice aw tw.length cw,.slice ah th.length ch]:=by rw [<- hw1];exact Blk.new w _ _
  have x0:=k1.cell 0
  have x1:=k1.cell 1
  have x2:=k1.cell 2
  simp only [List.getElem?_cons_zero,List.getElem?_cons_succ] at x0 x1 x2
  have K1:=hide k1
  clear hb hq hw hh k1
  go_enter Tryz.func123,Tryz.ntmps123
  go_upto_region 1 with fail
  (try rw [hw1])
  clear hw1
  obtain ⟨M,hM⟩:∃ x,(Value.agg #[.int .i64 kd,.string tn,.int .i64 ep,.slice ab bs.length cb,.int .i64 vr,.int .i64 vb,.string vw,.int .i64 gr,.int .i64 gh,.string gw,.int .i64 qr,.int .i64 qb,.slice aq qw.length cq,.int .i64 tr,.slice aw tw.length cw,.slice ah th.length ch])=x:=⟨_,rfl⟩
  rw [hM] at E1 E2 E3 E4 ⊢
  go_wp2_with (first
    | (go_at_call 187;refine (E4.out _ hB3).mono ?_;rintro e v4 ⟨rfl,hb4⟩;have hB4:=hB3.trans (hb4.mono hB3.size))
    | (refine load_mg _ rfl w.heap.size rfl kk3 hM (by rfl) ?_)
    | (go_at_call 186;refine (E3.out _ hB2).mono ?_;rintro e v3 ⟨rfl,hb3⟩;have hB3:=hB2.trans (hb3.mono hB2.size);have kk3:=kk2.below hb3 kk2.lt)
    | (refine load_mg _ rfl w.heap.size rfl kk2 hM (by rfl) ?_)
    | (go_at_call 185;refine (E2.out _ hB1).mono ?_;rintro e v2 ⟨rfl,hb2⟩;have hB2:=hB1.trans (hb2.mono hB1.size);have kk2:=kk1.below hb2 kk1.lt)
    | (refine load_mg _ rfl w.heap.size rfl kk1 hM (by rfl) ?_)
    | (go_at_call 184;refine (E1.out _ b1).mono ?_;rintro e v1 ⟨rfl,hb1⟩;have hB1:=b1.trans (hb1.mono b1.size);have kk1:=K1.out.below hb1 K1.out.lt)
    | (refine load_mg _ rfl w.heap.size rfl K1.out hM (by rfl) ?_)
    | (go_at_call 74;(with_reducible refine (HP.out _).mono ?_);rintro e w1 ⟨rfl,rfl⟩)
    | (go_at_call 74;(with_reducible refine (HK.out _).mono ?_);rintro e w1 ⟨rfl,rfl⟩)
    | (go_at_call 76;refine (HM.out _).mono ?_;rintro e w1 ⟨rfl,rfl⟩)
    | fail)
  go_ret
  exact ⟨rfl,hB4⟩
theorem implMsgOk_7 (m:Mg) (v:Mv) (w:World) (hr:RdM w m v) (hf:FewM m) (h0:inB m.kd 1 4=true) (h1:nmB m.tn=true) (h2:inB m.ep 0 900=true) (h3:bsB m=true) (h4:vtB m=true) (h5:gnB m=true) (h6:qM m=true) :
    Calls Tryz.prog 123 #[mgV m v] w fun e w'=>e=.returned (.bool (tM m))/\Below w.heap.size w w':=by
  have HM:=hide (fun V=>implNameOk_any m.tn V hf.t)
  rw [h1] at HM
  have HK:=hide (fun V=>implWithinC_any m.kd 1 4 V)
  rw [h0] at HK
  have HP:=hide (fun V=>implWithinC_any m.ep 0 900 V)
  rw [h2] at HP
  have E1:=hide (fun V (hV:Below w.heap.size w V)=>implSaidBlocks_any m v V (hr.below hV (Nat.le_refl _)) hf)
  rw [h3] at E1
  have E2:=hide (fun V (hV:Below w.heap.size w V)=>implSaidVote_any m v V (hr.below hV (Nat.le_refl _)) hf)
  rw [h4] at E2
  have E3:=hide (fun V (hV:Below w.heap.size w V)=>implSaidGone_any m v V (hr.below hV (Nat.le_refl _)) hf)
  rw [h5] at E3
  have E4:=hide (fun V (hV:Below w.heap.size w V)=>implSaidQc_any m v V (hr.below hV (Nat.le_refl _)) hf)
  rw [h6] at E4
  have E5:=hide (fun V (hV:Below w.heap.size w V)=>implSaidTc_any m v V (hr.below hV (Nat.le_refl _)) hf)
  generalize tM m=X at E5 ⊢
  clear hf h0 h1 h2 h3 h4 h5 h6
  obtain ⟨kd,tn,ep,bs,vr,vb,vw,gr,gh,gw,qr,qb,qw,tr,tw,th⟩:=m
  obtain ⟨xb,xq,xw,xh⟩:=v
  obtain ⟨hb,hq,hw,hh⟩:=hr
  simp only at *
  obtain ⟨ab,cb,rfl⟩:=hb.shape
  obtain ⟨aq,cq,rfl⟩:=hq.shape
  obtain ⟨aw,cw,rfl⟩:=hw.shape
  obtain ⟨ah,ch,rfl⟩:=hh.shape
  simp only [mgV] at E1 E2 E3 E4 E5
  simp only [mgV]
  obtain ⟨w1,hw1⟩:∃ x,w.alloc (.cells #[.int .i64 kd,.string tn,.int .i64 ep,.slice ab bs.length cb,.int .i64 vr,.int .i64 vb,.string vw,.int .i64 gr,.int .i64 gh,.string gw,.int .i64 qr,.int .i64 qb,.slice aq qw.length cq,.int .i64 tr,.slice aw tw.length cw,.slice ah th.length ch] 102)=x:=⟨_,rfl⟩
  have b1:Below w.heap.size w w1:=by rw [<- hw1];exact (Below.refl _ w).alloc (Nat.le_refl _) _
  have k1:Blk w1 w.heap.size 102 [.int .i64 kd,.string tn,.int .i64 ep,.slice ab bs.length cb,.int .i64 vr,.int .i64 vb,.string vw,.int .i64 gr,.int .i64 gh,.string gw,.int .i64 qr,.int .i64 qb,.slice aq qw.length cq,.int .i64 tr,.slice aw tw.length cw,.slice ah th.length ch]:=by rw [<- hw1];exact Blk.new w _ _
  have x0:=k1.cell 0
  have x1:=k1.cell 1
  have x2:=k1.cell 2
  simp only [List.getElem?_cons_zero,List.getElem?_cons_succ] at x0 x1 x2
  have K1:=hide k1
  clear hb hq hw hh k1
  go_enter Tryz.func123,Tryz.ntmps123
  go_upto_region 1 with fail
  (try rw [hw1])
  clear hw1
  obtain ⟨M,hM⟩:∃ x,(Value.agg #[.int .i64 kd,.string tn,.int .i64 ep,.slice ab bs.length cb,.int .i64 vr,.int .i64 vb,.string vw,.int .i64 gr,.int .i64 gh,.string gw,.int .i64 qr,.int .i64 qb,.slice aq qw.length cq,.int .i64 tr,.slice aw tw.length cw,.slice ah th.length ch])=x:=⟨_,rfl⟩
  rw [hM] at E1 E2 E3 E4 E5 ⊢
  go_wp2_with (first
    | (go_at_call 188;refine (E5.out _ hB4).mono ?_;rintro e v5 ⟨rfl,hb5⟩;have hB5:=hB4.trans (hb5.mono hB4.size))
    | (refine load_mg _ rfl w.heap.size rfl kk4 hM (by rfl) ?_)
    | (go_at_call 187;refine (E4.out _ hB3).mono ?_;rintro e v4 ⟨rfl,hb4⟩;have hB4:=hB3.trans (hb4.mono hB3.size);have kk4:=kk3.below hb4 kk3.lt)
    | (refine load_mg _ rfl w.heap.size rfl kk3 hM (by rfl) ?_)
    | (go_at_call 186;refine (E3.out _ hB2).mono ?_;rintro e v3 ⟨rfl,hb3⟩;have hB3:=hB2.trans (hb3.mono hB2.size);have kk3:=kk2.below hb3 kk2.lt)
    | (refine load_mg _ rfl w.heap.size rfl kk2 hM (by rfl) ?_)
    | (go_at_call 185;refine (E2.out _ hB1).mono ?_;rintro e v2 ⟨rfl,hb2⟩;have hB2:=hB1.trans (hb2.mono hB1.size);have kk2:=kk1.below hb2 kk1.lt)
    | (refine load_mg _ rfl w.heap.size rfl kk1 hM (by rfl) ?_)
    | (go_at_call 184;refine (E1.out _ b1).mono ?_;rintro e v1 ⟨rfl,hb1⟩;have hB1:=b1.trans (hb1.mono b1.size);have kk1:=K1.out.below hb1 K1.out.lt)
    | (refine load_mg _ rfl w.heap.size rfl K1.out hM (by rfl) ?_)
    | (go_at_call 74;(with_reducible refine (HP.out _).mono ?_);rintro e w1 ⟨rfl,rfl⟩)
    | (go_at_call 74;(with_reducible refine (HK.out _).mono ?_);rintro e w1 ⟨rfl,rfl⟩)
    | (go_at_call 76;refine (HM.out _).mono ?_;rintro e w1 ⟨rfl,rfl⟩)
    | fail)
  go_ret
  exact ⟨rfl,hB5⟩
theorem implMsgOk_any (m:Mg) (v:Mv) (w:World) (hr:RdM w m v) (hf:FewM m) :
    Calls Tryz.prog 123 #[mgV m v] w fun e w'=>e=.returned (.bool (msgB m))/\Below w.heap.size w w':=by
  unfold msgB
  cases h0:inB m.kd 1 4
  · exact implMsgOk_0 m v w hr hf h0
  rw [Bool.true_and]
  cases h1:nmB m.tn
  · exact implMsgOk_1 m v w hr hf h0 h1
  rw [Bool.true_and]
  cases h2:inB m.ep 0 900
  · exact implMsgOk_2 m v w hr hf h0 h1 h2
  rw [Bool.true_and]
  cases h3:bsB m
  · exact implMsgOk_3 m v w hr hf h0 h1 h2 h3
  rw [Bool.true_and]
  cases h4:vtB m
  · exact implMsgOk_4 m v w hr hf h0 h1 h2 h3 h4
  rw [Bool.true_and]
  cases h5:gnB m
  · exact implMsgOk_5 m v w hr hf h0 h1 h2 h3 h4 h5
  rw [Bool.true_and]
  cases h6:qM m
  · exact implMsgOk_6 m v w hr hf h0 h1 h2 h3 h4 h5 h6
  rw [Bool.true_and]
  exact implMsgOk_7 m v w hr hf h0 h1 h2 h3 h4 h5 h6
end Go.Proofs.YtckahjabljffjaaGreat
