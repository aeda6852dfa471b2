/- The model's WorldOk, of any world. -/
import Derived.Deep.CutBlock
import Derived.Test.YtckahjabljffjaaGreatZwWdNodesS
import Derived.Test.YtckahjabljffjaaGreatZwVtOpen
set_option maxRecDepth 20000
set_option maxHeartbeats 16000000
namespace Go.Proofs.YtckahjabljffjaaGreat
open Go.RowKit Go.Sort
set_option linter.unusedVariables false
theorem specL13Cert_any (qr qb:Int) (vq:Value) (qw:List ByteArray) (w:World) (hq:RdS w vq qw) (hlq:qw.length<=4000000) (hsq:∀ s ∈ qw,s.size<=maxLen) :
    Calls Tryz.prog 110 #[qcV qr qb vq] w fun e w'=>e=.returned (.bool (qcW qr qb qw))/\Below w.heap.size w w':=by
  have HX:Hid (qcW qr qb qw=(rootB qr qb qw || (inB qr 1 10000 && (inB qb 0 100000 && nmsB qw)))):=hide rfl
  generalize qcW qr qb qw=X at HX ⊢
  obtain ⟨aq,cq,rfl⟩:=hq.shape
  simp only [qcV]
  obtain ⟨w1,hw1⟩:∃ x,w.alloc (.cells #[.int .i64 qr,.int .i64 qb,.slice aq qw.length cq] 66)=x:=⟨_,rfl⟩
  have b1:Below w.heap.size w w1:=by rw [<- hw1];exact (Below.refl _ w).alloc (Nat.le_refl _) _
  have k1:Blk w1 w.heap.size 66 [.int .i64 qr,.int .i64 qb,.slice aq qw.length cq]:=by rw [<- hw1];exact Blk.new w _ _
  have K1:=hide k1
  have HB1:=hide b1
  have HR:=hide (specL8Root_any qr qb (.slice aq qw.length cq) qw w1 (hq.below b1 (Nat.le_refl _)) hlq)
  have HN:=hide (fun V (hV:Below w.heap.size w V)=>specNamesOk_any (.slice aq qw.length cq) qw V (hq.below hV (Nat.le_refl _)) hlq hsq)
  generalize rootB qr qb qw=R0 at HX HR
  generalize nmsB qw=N0 at HX HN
  simp only [qcV] at HR
  have x0:=k1.cell 0
  have x1:=k1.cell 1
  have x2:=k1.cell 2
  simp only [List.getElem?_cons_zero,List.getElem?_cons_succ] at x0 x1 x2
  clear hq k1 b1 hsq
  cases R0
  · rw [Bool.false_or] at HX
    cases h1:inB qr 1 10000
    · rw [h1,Bool.false_and] at HX
      go_enter Tryz.func110,Tryz.ntmps110
      go_wp2_with (first
        | (go_at_call 68;refine (l1In_any _ _ _ _).mono ?_;rintro e w4 ⟨rfl,rfl⟩)
        | (go_at_call 109;refine HR.out.mono ?_;rintro e w3 ⟨rfl,hb3⟩;have hB3:=HB1.out.trans (hb3.mono HB1.out.size);have k3:=K1.out.below hb3 K1.out.lt;have HN3:=hide (HN.out w3 hB3);have y0:=k3.cell 0;have y1:=k3.cell 1;have y2:=k3.cell 2;simp only [List.getElem?_cons_zero,List.getElem?_cons_succ] at y0 y1 y2)
        | fail)
      go_ret
      exact ⟨ret_bool HX.out.symm,hB3⟩
    · rw [h1,Bool.true_and] at HX
      cases h2:inB qb 0 100000
      · rw [h2,Bool.false_and] at HX
        go_enter Tryz.func110,Tryz.ntmps110
        go_wp2_with (first
          | (go_at_call 68;refine (l1In_any _ _ _ _).mono ?_;rintro e w4 ⟨rfl,rfl⟩)
          | (go_at_call 109;refine HR.out.mono ?_;rintro e w3 ⟨rfl,hb3⟩;have hB3:=HB1.out.trans (hb3.mono HB1.out.size);have k3:=K1.out.below hb3 K1.out.lt;have HN3:=hide (HN.out w3 hB3);have y0:=k3.cell 0;have y1:=k3.cell 1;have y2:=k3.cell 2;simp only [List.getElem?_cons_zero,List.getElem?_cons_succ] at y0 y1 y2)
          | fail)
        go_ret
        exact ⟨ret_bool HX.out.symm,hB3⟩
      · rw [h2,Bool.true_and] at HX
        go_enter Tryz.func110,Tryz.ntmps110
        go_wp2_with (first
          | (go_at_call 24;refine HN3.out.mono ?_;rintro e w5 ⟨rfl,hb5⟩)
          | (go_at_call 68;refine (l1In_any _ _ _ _).mono ?_;rintro e w4 ⟨rfl,rfl⟩)
          | (go_at_call 109;refine HR.out.mono ?_;rintro e w3 ⟨rfl,hb3⟩;have hB3:=HB1.out.trans (hb3.mono HB1.out.size);have k3:=K1.out.below hb3 K1.out.lt;have HN3:=hide (HN.out w3 hB3);have y0:=k3.cell 0;have y1:=k3.cell 1;have y2:=k3.cell 2;simp only [List.getElem?_cons_zero,List.getElem?_cons_succ] at y0 y1 y2)
          | fail)
        go_ret
        exact ⟨ret_bool HX.out.symm,hB3.trans (hb5 _)⟩
  · rw [Bool.true_or] at HX
    go_enter Tryz.func110,Tryz.ntmps110
    go_wp2_with (first
      | (go_at_call 68;refine (l1In_any _ _ _ _).mono ?_;rintro e w4 ⟨rfl,rfl⟩)
      | (go_at_call 109;refine HR.out.mono ?_;rintro e w3 ⟨rfl,hb3⟩;have hB3:=HB1.out.trans (hb3.mono HB1.out.size);have k3:=K1.out.below hb3 K1.out.lt;have HN3:=hide (HN.out w3 hB3);have y0:=k3.cell 0;have y1:=k3.cell 1;have y2:=k3.cell 2;simp only [List.getElem?_cons_zero,List.getElem?_cons_succ] at y0 y1 y2)
      | fail)
    go_ret
    exact ⟨ret_bool HX.out.symm,hB3⟩
theorem specL13Tc_any (tr:Int) (vw vh:Value) (tw:List ByteArray) (th:List Int) (w:World) (hw:RdS w vw tw) (hh:RdI w vh th) (hlw:tw.length<=4000000) (hlh:th.length<=4000000) (hsw:∀ s ∈ tw,s.size<=maxLen) (hbd:-9223372036854775808<=tr/\tr<=9223372036854775807) :
    Calls Tryz.prog 112 #[tcV tr vw vh] w fun e w'=>e=.returned (.bool (tcW tr tw th))/\Below w.heap.size w w':=by
  have HX:Hid (tcW tr tw th=(noneB tr tw th || (inB tr 1 10000 && (nmsB tw && (decide (th.length=tw.length) && hisB tr th))))):=hide rfl
  generalize tcW tr tw th=X at HX ⊢
  obtain ⟨aw,cw,rfl⟩:=hw.shape
  obtain ⟨ah,ch,rfl⟩:=hh.shape
  simp only [tcV]
  obtain ⟨w2,hw2⟩:∃ x,w.alloc (.cells #[.int .i64 tr,.slice aw tw.length cw,.slice ah th.length ch] 69)=x:=⟨_,rfl⟩
  have hb2:Below w.heap.size w w2:=by rw [<- hw2];exact (Below.refl _ w).alloc (Nat.le_refl _) _
  have k2:Blk w2 w.heap.size 69 [.int .i64 tr,.slice aw tw.length cw,.slice ah th.length ch]:=by rw [<- hw2];exact Blk.new w _ _
  have HR:=hide (specL8None_any tr (.slice aw tw.length cw) (.slice ah th.length ch) tw th w2 (hw.below hb2 (Nat.le_refl _)) (hh.below hb2 (Nat.le_refl _)) hlw hlh)
  have HN:=hide (fun V (hV:Below w.heap.size w V)=>specNamesOk_any (.slice aw tw.length cw) tw V (hw.below hV (Nat.le_refl _)) hlw hsw)
  generalize noneB tr tw th=R0 at HX HR
  generalize nmsB tw=N0 at HX HN
  simp only [tcV] at HR
  have y0:=k2.cell 0
  have y1:=k2.cell 1
  have y2:=k2.cell 2
  simp only [List.getElem?_cons_zero,List.getElem?_cons_succ] at y0 y1 y2
  have K2:=hide k2
  have HB2:=hide hb2
  have Hh:=hide hh
  clear hw hh hsw k2 hb2
  go_enter Tryz.func112,Tryz.ntmps112
  go_wp2_with fail
  refine HR.out.mono ?_
  rintro e w3 ⟨rfl,hb3⟩
  have hB3:=HB2.out.trans (hb3.mono HB2.out.size)
  have k23:=K2.out.below hb3 K2.out.lt
  have HN3:=hide (HN.out w3 hB3)
  clear y0 y1 y2 hw2 HN hb3
  have y0:=k23.cell 0
  have y1:=k23.cell 1
  have y2:=k23.cell 2
  simp only [List.getElem?_cons_zero,List.getElem?_cons_succ] at y0 y1 y2
  have K23:=hide k23
  clear k23 K2
  cases R0
  · rw [Bool.false_or] at HX
    cases h1:inB tr 1 10000
    · rw [h1,Bool.false_and] at HX
      go_wp2_with (go_at_call 68;refine (l1In_any _ _ _ _).mono ?_;rintro e w4 ⟨rfl,rfl⟩)
      go_ret
      exact ⟨ret_bool HX.out.symm,hB3⟩
    · rw [h1, Bool.true_and] at HX
      have Hr1:Hid (1<=tr):=hide (by unfold inB at h1;simp at h1;exact h1.1)
      cases N0
      · rw [Bool.false_and] at HX
        go_wp2_with (first
          | (go_at_call 68;refine (l1In_any _ _ _ _).mono ?_;rintro e w4 ⟨rfl,rfl⟩)
          | (go_at_call 24;refine HN3.out.mono ?_;rintro e w5 ⟨rfl,hb5⟩))
        go_ret
        exact ⟨ret_bool HX.out.symm,hB3.trans (hb5 _)⟩
      · rw [Bool.true_and] at HX
        by_cases hlen:th.length=tw.length
        · rw [decide_eq_true hlen,Bool.true_and] at HX
          have hli:((th.length:Int) != (tw.length:Int))=false:=by rw [hlen];simp
          clear hlen
          go_wp2_with (first
            | (go_at_call 68;refine (l1In_any _ _ _ _).mono ?_;rintro e w4 ⟨rfl,rfl⟩)
            | (go_at_call 24;refine HN3.out.mono ?_;rintro e w5 ⟨rfl,hb5⟩;have hB5:=hB3.trans (hb5 _);have k5:=K23.out.below (hb5 _) K23.out.lt;have t1:=k5.cell 1;have t2:=k5.cell 2;simp only [List.getElem?_cons_zero,List.getElem?_cons_succ] at t1 t2))
          have K5:=hide k5
          have HB5:=hide hB5
          clear k5 y0 y1 y2 t1 t2 hb5 hB5 hB3 hli h1
          go_loopw [3] (fun iv wr=>∃ i:Nat,i<=th.length/\iv=.int .i64 (i:Int)/\(∀ j (hj:j < th.length),j < i->inB th[j] 0 (tr - 1)=true)/\Below w5.heap.size w5 wr) (fun iv _=>th.length - (intOf iv).toNat)
          case atStart=>exact ⟨0,Nat.zero_le _,rfl,fun j _ hj=>by omega,Below.refl _ _⟩
          case round =>
            obtain ⟨i,hi,rfl,hok,hb⟩:=hrel
            have kr:=K5.out.below hb K5.out.lt
            have t0:=kr.cell 0
            have t2:=kr.cell 2
            simp only [List.getElem?_cons_zero,List.getElem?_cons_succ] at t0 t2
            have Hok:=hide hok
            have HBr:=hide (HB5.out.trans (hb.mono HB5.out.size))
            clear hok kr
            by_cases hlt:i < th.length
            · obtain ⟨bh,oh,rfl,hc1,hc2,hbh,hch⟩:=Hh.out.at hlt
              have c0:=(HBr.out.cell (p:=⟨bh,oh+i,none⟩) hbh).trans hch
              have hli:(i:Int) < (th.length:Int):=by omega
              have Hno:=hide (his_no tr th i hlt)
              have Hnx:Hid (inB th[i] 0 (tr - 1)=true->∀ j (hj:j < th.length),j < i+1->inB th[j] 0 (tr - 1)=true):=hide (fun h j hj hji=>by
                by_cases e:j=i
                · subst e;exact h
                · exact Hok.out j hj (by omega))
              generalize th[i]=x at c0 hch Hno Hnx
              have hr1:=Hr1.out
              have hwr:IntKind.i64.wrap (tr - 1)=tr - 1:=by rw [IntKind.wrap_i64];omega
              have Hb:=hide hb
              have g0:=cell_regrown c0
              have g1:=cell_regrown t0
              have g2:=cell_regrown t2
              clear hb hch hr1 c0
              cases hx:inB x 0 (tr - 1)
              · have Hf:=hide (HX.out.trans (Hno.out hx))
                have HI:=hide (fun (d:Nat) (os:Array Obj)=>sameC_regrown (l1In_any x 0 (tr - 1) (grow (redrawn wr d) os)))
                rw [hx] at HI
                clear hx Hnx
                go_wp2
                refine wp_region_quiet_below (by kernel_rfl) (by kernel_rfl) ?_
                repeat (go_big_quiet_step ((go_at_call 68;exact HI.out _ _)))
                refine wpQuiet_nil ?_
                intro _ hw'
                obtain ⟨⟨dq,osq⟩,hw''⟩:=hw'
                subst hw''
                go_wp2
                go_ret
                exact ⟨ret_bool Hf.out.symm,HBr.out.trans ((below_regrown wr dq osq).mono HBr.out.size)⟩
              · have Hnx:=hide (Hnx.out hx)
                have HI:=hide (fun (d:Nat) (os:Array Obj)=>sameC_regrown (l1In_any x 0 (tr - 1) (grow (redrawn wr d) os)))
                rw [hx] at HI
                clear hx Hno
                go_wp2
                refine wp_region_quiet_below (by kernel_rfl) (by kernel_rfl) ?_
                repeat (go_big_quiet_step ((go_at_call 68;exact HI.out _ _)))
                refine wpQuiet_nil ?_
                intro _ hw'
                obtain ⟨⟨dq,osq⟩,hw''⟩:=hw'
                subst hw''
                go_wp2
                go_roundw
                case rel=>exact ⟨i+1,by omega,by go_num,Hnx.out,Hb.out.trans ((below_regrown wr dq osq).mono Hb.out.size)⟩
                case measure=>simp [intOf];omega
            · have Hf:=hide (HX.out.trans (his_yes tr th (fun j hj=>Hok.out j hj (by omega))))
              clear hb
              go_wp2
              go_ret
              exact ⟨ret_bool Hf.out.symm,HBr.out⟩
        · rw [decide_eq_false hlen,Bool.false_and] at HX
          have hli:((th.length:Int) != (tw.length:Int))=true:=by rw [bne_iff_ne];omega
          clear hlen
          go_wp2_with (first
            | (go_at_call 68;refine (l1In_any _ _ _ _).mono ?_;rintro e w4 ⟨rfl,rfl⟩)
            | (go_at_call 24;refine HN3.out.mono ?_;rintro e w5 ⟨rfl,hb5⟩;have hB5:=hB3.trans (hb5 _);have k5:=K23.out.below (hb5 _) K23.out.lt;have t1:=k5.cell 1;have t2:=k5.cell 2;simp only [List.getElem?_cons_zero,List.getElem?_cons_succ] at t1 t2))
          go_ret
          exact ⟨ret_bool HX.out.symm,hB5⟩
  · rw [Bool.true_or] at HX
    go_wp2
    go_ret
    exact ⟨ret_bool HX.out.symm,hB3⟩
def mostI (kd:Int):Int:=if kd=1 then 1 else if kd=4 then 400 else 0
theorem many_eq (kd:Int) (n:Nat):manyB kd n=(decide ((n:Int)<=mostI kd) && (decide (kd ≠ 1) || decide (n=1))):=by
  unfold manyB mostI
  by_cases h1:kd=1
  · rw [if_pos h1,if_pos h1,Bool.eq_iff_iff]
    simp only [decide_eq_true_eq,Bool.and_eq_true,Bool.or_eq_true]
    omega
  · rw [if_neg h1,if_neg h1]
    by_cases h4:kd=4
    · rw [if_pos h4,if_pos h4,Bool.eq_iff_iff]
      simp only [decide_eq_true_eq,Bool.and_eq_true,Bool.or_eq_true]
      omega
    · rw [if_neg h4,if_neg h4,Bool.eq_iff_iff]
      simp only [decide_eq_true_eq,Bool.and_eq_true,Bool.or_eq_true]
      omega
theorem specL13Blocks_any (m:Mg) (v:Mv) (w:World) (hr:RdM w m v) (hf:FewM m) :
    Calls Tryz.prog 108 #[mgV m v] w fun e w'=>e=.returned (.bool (bsB m))/\Below w.heap.size w w':=by
  have HX:Hid (bsB m=(manyB m.kd m.bs.length && m.bs.all (oneB m.ep))):=hide rfl
  generalize bsB m=X at HX ⊢
  have hlb:=hf.b
  have hfb:=hf.bs
  have hbt:=hf.bt
  clear hf
  obtain ⟨kd,tn,ep,bs,vr,vb,vw,gr,gh,gw,qr,qb,qw,tr,tw,th⟩:=m
  obtain ⟨xb,xq,xw,xh⟩:=v
  obtain ⟨hb,hq,hw,hh⟩:=hr
  simp only at *
  obtain ⟨ab,cb,rfl⟩:=hb.shape
  obtain ⟨aq,cq,rfl⟩:=hq.shape
  obtain ⟨aw,cw,rfl⟩:=hw.shape
  obtain ⟨ah,ch,rfl⟩:=hh.shape
  simp only [mgV]
  obtain ⟨w1,hw1⟩:∃ x,w.alloc (.cells #[.int .i64 kd,.string tn,.int .i64 ep,.slice ab bs.length cb,.int .i64 vr,.int .i64 vb,.string vw,.int .i64 gr,.int .i64 gh,.string gw,.int .i64 qr,.int .i64 qb,.slice aq qw.length cq,.int .i64 tr,.slice aw tw.length cw,.slice ah th.length ch] 102)=x:=⟨_,rfl⟩
  have b1:Below w.heap.size w w1:=by rw [<- hw1];exact (Below.refl _ w).alloc (Nat.le_refl _) _
  have k1:Blk w1 w.heap.size 102 [.int .i64 kd,.string tn,.int .i64 ep,.slice ab bs.length cb,.int .i64 vr,.int .i64 vb,.string vw,.int .i64 gr,.int .i64 gh,.string gw,.int .i64 qr,.int .i64 qb,.slice aq qw.length cq,.int .i64 tr,.slice aw tw.length cw,.slice ah th.length ch]:=by rw [<- hw1];exact Blk.new w _ _
  have x0:=k1.cell 0
  have x3:=k1.cell 3
  simp only [List.getElem?_cons_zero,List.getElem?_cons_succ] at x0 x3
  have HB1:=hide b1
  have K1:=hide k1
  have Hr:=hide (hb.below b1 (Nat.le_refl _))
  have Hfb:=hide hfb
  have Hbt:=hide hbt
  clear hb hq hw hh b1 k1 hfb hbt
  go_enter Tryz.func108,Tryz.ntmps108
  go_upto_block 0 with fail
  go_cut [3] from 5 (fun mo wc=>mo=.int .i64 (mostI kd)/\wc=w1)
  case first =>
    by_cases h1:kd=1
    · have HM:Hid (mostI kd=1):=hide (by unfold mostI;rw [if_pos h1])
      subst h1
      go_wp2
      go_meet
      case rel=>exact ⟨by rw [HM.out],rfl⟩
    · have h1b:(kd == 1)=false:=by rw [beq_eq_false_iff_ne];exact h1
      by_cases h4:kd=4
      · have HM:Hid (mostI kd=400):=hide (by unfold mostI;rw [if_neg h1,if_pos h4])
        subst h4
        go_wp2
        go_meet
        case rel=>exact ⟨by rw [HM.out],rfl⟩
      · have h4b:(kd == 4)=false:=by rw [beq_eq_false_iff_ne];exact h4
        have HM:Hid (mostI kd=0):=hide (by unfold mostI;rw [if_neg h1,if_neg h4])
        clear h1 h4
        go_wp2
        go_meet
        case rel=>exact ⟨by rw [HM.out],rfl⟩
  case rest =>
    obtain ⟨rfl,rfl⟩:=hcut
    clear x0 x3 hw1
    have Hmo:Hid (manyB kd bs.length=(decide ((bs.length:Int)<=mostI kd) && (decide (kd ≠ 1) || decide (bs.length=1)))):=hide (many_eq kd bs.length)
    generalize mostI kd=mo at Hmo ⊢
    go_wp2
    go_loopw [4] (fun iv wr=>∃ k:Nat,k<=bs.length/\iv=.int .i64 (k:Int)/\(∀ j (hj:j < bs.length),j < k->oneB ep bs[j]=true)/\Below wc.heap.size wc wr) (fun iv _=>bs.length - (intOf iv).toNat)
    case atStart=>exact ⟨0,Nat.zero_le _,rfl,fun j _ hj=>by omega,Below.refl _ _⟩
    case round =>
      obtain ⟨k,hk,rfl,hok,hb⟩:=hrel
      have Hall:=hide hok
      have HBr:=hide (HB1.out.trans (hb.mono HB1.out.size))
      have kr:=K1.out.below hb K1.out.lt
      have x0:=kr.cell 0
      have x2:=kr.cell 2
      have x3:=kr.cell 3
      simp only [List.getElem?_cons_zero,List.getElem?_cons_succ] at x0 x2 x3
      clear hok kr
      by_cases hlt:k < bs.length
      · obtain ⟨g,off,hag,hgl,hcell⟩:=Hr.out.parts9 (by omega)
        obtain ⟨lv,hat,hrl⟩:=hcell k hlt
        subst hag
        obtain ⟨c0,c1,c2,c3,c4,c5,c6,c7,c8,c9,c10,c11,c12,c13⟩:=(hat.below hb hgl).cells
        have hli:(k:Int) < (bs.length:Int):=by omega
        have Hno:=hide (fun h=>allO_no (ep:=ep) hlt h)
        have Hnx:Hid (oneB ep bs[k]=true->∀ j (hj:j < bs.length),j < k+1->oneB ep bs[j]=true):=hide (fun h j hj hjk=>by
          by_cases e:j=k
          · subst e;exact h
          · exact Hall.out j hj (by omega))
        have HQ:=hide (fun V (hV:Below wr.heap.size wr V)=>specBlockOk_any bs[k] lv V ((hrl.below hb (Nat.le_refl _)).below hV (Nat.le_refl _)) (Hfb.out _ (List.getElem_mem hlt)) (Hbt.out _ (List.getElem_mem hlt)))
        have Hone:Hid (oneB ep bs[k]=(decide (bs[k].ep=ep) && blB bs[k])):=hide rfl
        have Hsh:=hide hrl.shapes9
        have HBw:=hide hb
        clear hat hrl hcell hb x0
        generalize bs[k]=ak at c0 c1 c2 c3 c4 c5 c6 c7 c8 c9 c10 c11 c12 c13 HQ Hsh Hone Hno Hnx
        obtain ⟨aq2,cq2,aw2,cw2,ah2,ch2,at2,ct2,an2,cn2,rfl⟩:=Hsh.out
        clear Hsh
        obtain ⟨id,ep2,rd,md,qr2,qb2,qw2,tr2,tw2,th2,ts2,en2,nx2,rt2⟩:=ak
        simp only [bkV] at c0 c1 c2 c3 c4 c5 c6 c7 c8 c9 c10 c11 c12 c13 HQ Hone
        generalize blB _=B at HQ Hone
        generalize oneB ep _=O at Hone Hno Hnx
        have HQ1:=hide (fun (d:Nat) (os:Array Obj)=>Calls.regrown_of (HQ.out (grow (redrawn wr d) os) (below_regrown wr d os)))
        go_wp2
        have g0:=cell_regrown c0
        have g1:=cell_regrown c1
        have g2:=cell_regrown c2
        have g3:=cell_regrown c3
        have g4:=cell_regrown c4
        have g5:=cell_regrown c5
        have g6:=cell_regrown c6
        have g7:=cell_regrown c7
        have g8:=cell_regrown c8
        have g9:=cell_regrown c9
        have g10:=cell_regrown c10
        have g11:=cell_regrown c11
        have g12:=cell_regrown c12
        have g13:=cell_regrown c13
        have gx2:=cell_regrown x2
        have gx3:=cell_regrown x3
        clear HQ
        cases B
        · rw [Bool.and_false] at Hone
          have Hf:=hide (HX.out.trans (by rw [Hno.out Hone.out,Bool.and_false]))
          refine wp_region_quiet_below (by kernel_rfl) (by kernel_rfl) ?_
          repeat (go_big_quiet_step ((go_at_call 55;exact HQ1.out _ _)))
          refine wpQuiet_nil ?_
          intro _ hw'
          obtain ⟨⟨dq,osq⟩,hw''⟩:=hw'
          subst hw''
          go_wp2
          go_ret
          exact ⟨ret_bool Hf.out.symm,HBr.out.trans ((below_regrown wr dq osq).mono HBr.out.size)⟩
        · rw [Bool.and_true] at Hone
          by_cases he:ep2=ep
          · rw [decide_eq_true he] at Hone
            have heb:(ep2 != ep)=false:=by rw [he];simp
            have Hnx:=hide (Hnx.out Hone.out)
            clear he
            refine wp_region_quiet_below (by kernel_rfl) (by kernel_rfl) ?_
            repeat (go_big_quiet_step ((go_at_call 55;exact HQ1.out _ _)))
            refine wpQuiet_nil ?_
            intro _ hw'
            obtain ⟨⟨dq,osq⟩,hw''⟩:=hw'
            subst hw''
            go_wp2
            go_roundw
            case rel=>exact ⟨k+1,by omega,by go_num,Hnx.out,HBw.out.trans ((below_regrown wr dq osq).mono HBw.out.size)⟩
            case measure=>simp [intOf];omega
          · rw [decide_eq_false he] at Hone
            have heb:(ep2 != ep)=true:=by rw [bne_iff_ne];exact he
            have Hf:=hide (HX.out.trans (by rw [Hno.out Hone.out,Bool.and_false]))
            clear he
            refine wp_region_quiet_below (by kernel_rfl) (by kernel_rfl) ?_
            repeat (go_big_quiet_step ((go_at_call 55;exact HQ1.out _ _)))
            refine wpQuiet_nil ?_
            intro _ hw'
            obtain ⟨⟨dq,osq⟩,hw''⟩:=hw'
            subst hw''
            go_wp2
            go_ret
            exact ⟨ret_bool Hf.out.symm,HBr.out.trans ((below_regrown wr dq osq).mono HBr.out.size)⟩
      · have Hy:=hide (HX.out.trans (by rw [allO_yes (fun j hj=>Hall.out j hj (by omega)),Bool.and_true,Hmo.out]))
        clear hb HX Hmo
        by_cases hm:(bs.length:Int)<=mo
        · rw [decide_eq_true hm,Bool.true_and] at Hy
          by_cases h1:kd=1
          · rw [show decide (kd ≠ 1)=false from decide_eq_false (by simpa using h1),Bool.false_or] at Hy
            subst h1
            by_cases hn:bs.length=1
            · rw [decide_eq_true hn] at Hy
              have hnb:((bs.length:Int) == 1)=true:=by rw [hn];rfl
              clear hn
              go_wp2
              go_ret
              exact ⟨ret_bool Hy.out.symm,HBr.out⟩
            · rw [decide_eq_false hn] at Hy
              have hnb:((bs.length:Int) == 1)=false:=by rw [beq_eq_false_iff_ne];omega
              clear hn
              go_wp2
              go_ret
              exact ⟨ret_bool Hy.out.symm,HBr.out⟩
          · rw [show decide (kd ≠ 1)=true from decide_eq_true h1,Bool.true_or] at Hy
            have h1b:(kd != 1)=true:=by rw [bne_iff_ne];exact h1
            clear h1
            go_wp2
            go_ret
            exact ⟨ret_bool Hy.out.symm,HBr.out⟩
        · rw [decide_eq_false hm,Bool.false_and] at Hy
          go_wp2
          go_ret
          exact ⟨ret_bool Hy.out.symm,HBr.out⟩
theorem msg_eq (m:Mg):msgB m=(nmB m.tn && (inB m.ep 0 900 && (inB m.kd 1 4 && (bsB m && (vtB m && (gnB m && ((rootB m.qr m.qb m.qw || ((decide (m.kd=4) || decide (m.kd=3)) && qcW m.qr m.qb m.qw)) && (noneB m.tr m.tw m.th || (decide (m.kd=4) && tcW m.tr m.tw m.th))))))))):=by
  have hq:qM m=(rootB m.qr m.qb m.qw || ((decide (m.kd=4) || decide (m.kd=3)) && qcW m.qr m.qb m.qw)):=by
    unfold qM
    by_cases h:m.kd=3\/m.kd=4
    · rw [if_pos h,show (decide (m.kd=4) || decide (m.kd=3))=true from by rcases h with h | h <;> simp [h],Bool.true_and]
      unfold qcW
      cases rootB m.qr m.qb m.qw <;> simp
    · rw [if_neg h,show (decide (m.kd=4) || decide (m.kd=3))=false from by simp only [not_or] at h;simp [h.1,h.2],Bool.false_and,Bool.or_false]
  have ht:tM m=(noneB m.tr m.tw m.th || (decide (m.kd=4) && tcW m.tr m.tw m.th)):=by
    unfold tM
    by_cases h:m.kd=4
    · rw [if_pos h,decide_eq_true h,Bool.true_and]
      unfold tcW
      cases noneB m.tr m.tw m.th <;> simp
    · rw [if_neg h,decide_eq_false h,Bool.false_and,Bool.or_false]
  unfold msgB
  rw [hq,ht]
  cases nmB m.tn <;> cases inB m.ep 0 900 <;> cases inB m.kd 1 4 <;> simp
theorem specMsgOk_any (m:Mg) (v:Mv) (w:World) (hr:RdM w m v) (hf:FewM m) :
    Calls Tryz.prog 56 #[mgV m v] w fun e w'=>e=.returned (.bool (msgB m))/\Below w.heap.size w w':=by
  have HX:=hide (msg_eq m)
  generalize msgB m=X at HX ⊢
  have HM:=hide (fun V=>specNameOk_any m.tn V hf.t)
  have HMv:=hide (fun V=>specNameOk_any m.vw V hf.vs)
  have HMg:=hide (fun V=>specNameOk_any m.gw V hf.gs)
  have hgr:=hf.gr
  have E1:=hide (fun V (hV:Below w.heap.size w V)=>specL13Blocks_any m v V (hr.below hV (Nat.le_refl _)) hf)
  have HV:Hid (vtB m=(if m.kd=2 then inB m.vr 1 10000 && (inB m.vb 0 100000 && nmB m.vw) else z3B m.vr m.vb m.vw)):=hide rfl
  have HG:Hid (gnB m=(if m.kd=3 then inB m.gr 1 10000 && (inB m.gh 0 (m.gr - 1) && (decide (m.gh=m.qr) && nmB m.gw)) else z3B m.gr m.gh m.gw)):=hide rfl
  have hlq:=hf.q
  have hsq:=hf.qs
  have hlw:=hf.w
  have hlh:=hf.h
  have hsw:=hf.ws
  have htr:=hf.tr
  clear hf
  generalize bsB m=F1 at HX E1
  generalize vtB m=F2 at HX HV
  generalize gnB m=F3 at HX HG
  obtain ⟨kd,tn,ep,bs,vr,vb,vw,gr,gh,gw,qr,qb,qw,tr,tw,th⟩:=m
  obtain ⟨xb,xq,xw,xh⟩:=v
  obtain ⟨hb,hq,hw,hh⟩:=hr
  simp only at *
  obtain ⟨ab,cb,rfl⟩:=hb.shape
  obtain ⟨aq,cq,rfl⟩:=hq.shape
  obtain ⟨aw,cw,rfl⟩:=hw.shape
  obtain ⟨ah,ch,rfl⟩:=hh.shape
  have ER:=hide (fun V (hV:Below w.heap.size w V)=>specL8Root_any qr qb (.slice aq qw.length cq) qw V (hq.below hV (Nat.le_refl _)) hlq)
  have EC:=hide (fun V (hV:Below w.heap.size w V)=>specL13Cert_any qr qb (.slice aq qw.length cq) qw V (hq.below hV (Nat.le_refl _)) hlq hsq)
  have EN:=hide (fun V (hV:Below w.heap.size w V)=>specL8None_any tr (.slice aw tw.length cw) (.slice ah th.length ch) tw th V (hw.below hV (Nat.le_refl _)) (hh.below hV (Nat.le_refl _)) hlw hlh)
  have ET:=hide (fun V (hV:Below w.heap.size w V)=>specL13Tc_any tr (.slice aw tw.length cw) (.slice ah th.length ch) tw th V (hw.below hV (Nat.le_refl _)) (hh.below hV (Nat.le_refl _)) hlw hlh hsw htr)
  generalize rootB qr qb qw=R0 at HX ER
  generalize qcW qr qb qw=C0 at HX EC
  generalize noneB tr tw th=N0 at HX EN
  generalize tcW tr tw th=T0 at HX ET
  simp only [mgV,qcV,tcV] at E1 ER EC EN ET
  simp only [mgV]
  obtain ⟨w1,hw1⟩:∃ x,w.alloc (.cells #[.int .i64 kd,.string tn,.int .i64 ep,.slice ab bs.length cb,.int .i64 vr,.int .i64 vb,.string vw,.int .i64 gr,.int .i64 gh,.string gw,.int .i64 qr,.int .i64 qb,.slice aq qw.length cq,.int .i64 tr,.slice aw tw.length cw,.slice ah th.length ch] 102)=x:=⟨_,rfl⟩
  have b1:Below w.heap.size w w1:=by rw [<- hw1];exact (Below.refl _ w).alloc (Nat.le_refl _) _
  have k1:Blk w1 w.heap.size 102 [.int .i64 kd,.string tn,.int .i64 ep,.slice ab bs.length cb,.int .i64 vr,.int .i64 vb,.string vw,.int .i64 gr,.int .i64 gh,.string gw,.int .i64 qr,.int .i64 qb,.slice aq qw.length cq,.int .i64 tr,.slice aw tw.length cw,.slice ah th.length ch]:=by rw [<- hw1];exact Blk.new w _ _
  have x0:=k1.cell 0
  have x1:=k1.cell 1
  have x2:=k1.cell 2
  have x3:=k1.cell 3
  have x4:=k1.cell 4
  have x5:=k1.cell 5
  have x6:=k1.cell 6
  have x7:=k1.cell 7
  have x8:=k1.cell 8
  have x9:=k1.cell 9
  have x10:=k1.cell 10
  have x11:=k1.cell 11
  have x12:=k1.cell 12
  have x13:=k1.cell 13
  have x14:=k1.cell 14
  have x15:=k1.cell 15
  simp only [List.getElem?_cons_zero,List.getElem?_cons_succ] at x0 x1 x2 x3 x4 x5 x6 x7 x8 x9 x10 x11 x12 x13 x14 x15
  have HB1:=hide b1
  have K1:=hide k1
  clear hb hq hw hh k1 hsq hsw htr
  generalize nmB tn=M0 at HX HM
  cases M0
  · rw [Bool.false_and] at HX
    go_enter Tryz.func56,Tryz.ntmps56
    go_wp2_with (first
      | (go_at_call 68;refine (l1In_any _ _ _ _).mono ?_;rintro e w4 ⟨rfl,rfl⟩)
      | (go_at_call 70;refine (HM.out _).mono ?_;rintro e w5 ⟨rfl,rfl⟩)
      | fail)
    go_ret
    exact ⟨ret_bool HX.out.symm,HB1.out⟩
  rw [Bool.true_and] at HX
  cases h1:inB ep 0 900
  · rw [h1,Bool.false_and] at HX
    go_enter Tryz.func56,Tryz.ntmps56
    go_wp2_with (first
      | (go_at_call 68;refine (l1In_any _ _ _ _).mono ?_;rintro e w4 ⟨rfl,rfl⟩)
      | (go_at_call 70;refine (HM.out _).mono ?_;rintro e w5 ⟨rfl,rfl⟩)
      | fail)
    go_ret
    exact ⟨ret_bool HX.out.symm,HB1.out⟩
  rw [h1,Bool.true_and] at HX
  cases h2:inB kd 1 4
  · rw [h2,Bool.false_and] at HX
    go_enter Tryz.func56,Tryz.ntmps56
    go_wp2_with (first
      | (go_at_call 68;refine (l1In_any _ _ _ _).mono ?_;rintro e w4 ⟨rfl,rfl⟩)
      | (go_at_call 70;refine (HM.out _).mono ?_;rintro e w5 ⟨rfl,rfl⟩)
      | fail)
    go_ret
    exact ⟨ret_bool HX.out.symm,HB1.out⟩
  rw [h2,Bool.true_and] at HX
  cases F1
  · rw [Bool.false_and] at HX
    go_enter Tryz.func56,Tryz.ntmps56
    go_wp2_with (first
      | (go_at_call 108;refine (E1.out _ HB1.out).mono ?_;rintro e w6 ⟨rfl,hb6⟩;have hB6:=HB1.out.trans (hb6.mono HB1.out.size))
      | (go_at_call 68;refine (l1In_any _ _ _ _).mono ?_;rintro e w4 ⟨rfl,rfl⟩)
      | (go_at_call 70;refine (HM.out _).mono ?_;rintro e w5 ⟨rfl,rfl⟩)
      | fail)
    go_ret
    exact ⟨ret_bool HX.out.symm,hB6⟩
  rw [Bool.true_and] at HX
  go_enter Tryz.func56,Tryz.ntmps56
  go_upto_region 3 with (first
    | (go_at_call 108;refine (E1.out _ HB1.out).mono ?_;rintro e w6 ⟨rfl,hb6⟩;have hB6:=HB1.out.trans (hb6.mono HB1.out.size))
    | (go_at_call 68;refine (l1In_any _ _ _ _).mono ?_;rintro e w4 ⟨rfl,rfl⟩)
    | (go_at_call 70;refine (HM.out _).mono ?_;rintro e w5 ⟨rfl,rfl⟩)
    | fail)
  have k6:=K1.out.below hb6 K1.out.lt
  have HB6:=hide hB6
  have K6:=hide k6
  clear x0 x1 x2 x3 x4 x5 x6 x7 x8 x9 x10 x11 x12 x13 x14 x15 hw1 hB6 hb6 h1 h2 E1 HM
  have x0:=k6.cell 0
  have x1:=k6.cell 1
  have x2:=k6.cell 2
  have x3:=k6.cell 3
  have x4:=k6.cell 4
  have x5:=k6.cell 5
  have x6:=k6.cell 6
  have x7:=k6.cell 7
  have x8:=k6.cell 8
  have x9:=k6.cell 9
  have x10:=k6.cell 10
  have x11:=k6.cell 11
  have x12:=k6.cell 12
  have x13:=k6.cell 13
  have x14:=k6.cell 14
  have x15:=k6.cell 15
  simp only [List.getElem?_cons_zero,List.getElem?_cons_succ] at x0 x1 x2 x3 x4 x5 x6 x7 x8 x9 x10 x11 x12 x13 x14 x15
  clear k6
  go_cut [3] from 27 (fun fv wc=>fv=.bool (z3B vr vb vw)/\w6=wc)
  case first =>
    by_cases h1:vr=0
    · subst h1
      by_cases h2:vb=0
      · subst h2
        by_cases h3:vw=⟨#[]⟩
        · have Hf:Hid (z3B 0 0 vw=true):=hide (by unfold z3B;exact decide_eq_true ⟨rfl,rfl,h3⟩)
          subst h3
          go_wp2
          go_meet
          case rel=>exact ⟨by rw [Hf.out],rfl⟩
        · have Hf:Hid (z3B 0 0 vw=false):=hide (by unfold z3B;exact decide_eq_false (fun h=>h3 h.2.2))
          have h3t:¬ vw.toList=[]:=fun h=>h3 (toList_nil h)
          clear h3
          go_wp2
          go_meet
          case rel=>exact ⟨by rw [Hf.out],rfl⟩
      · have Hf:Hid (z3B 0 vb vw=false):=hide (by unfold z3B;exact decide_eq_false (fun h=>h2 h.2.1))
        go_wp2
        go_meet
        case rel=>exact ⟨by rw [Hf.out],rfl⟩
    · have Hf:Hid (z3B vr vb vw=false):=hide (by unfold z3B;exact decide_eq_false (fun h=>h1 h.1))
      go_wp2
      go_meet
      case rel=>exact ⟨by rw [Hf.out],rfl⟩
  obtain ⟨rfl,rfl⟩:=hcut
  go_upto_region 4 with fail
  go_cut [4] from 31 (fun fv wc=>fv=.bool (z3B gr gh gw)/\w6=wc)
  case first =>
    by_cases h1:gr=0
    · subst h1
      by_cases h2:gh=0
      · subst h2
        by_cases h3:gw=⟨#[]⟩
        · have Hf:Hid (z3B 0 0 gw=true):=hide (by unfold z3B;exact decide_eq_true ⟨rfl,rfl,h3⟩)
          subst h3
          go_wp2
          go_meet
          case rel=>exact ⟨by rw [Hf.out],rfl⟩
        · have Hf:Hid (z3B 0 0 gw=false):=hide (by unfold z3B;exact decide_eq_false (fun h=>h3 h.2.2))
          have h3t:¬ gw.toList=[]:=fun h=>h3 (toList_nil h)
          clear h3
          go_wp2
          go_meet
          case rel=>exact ⟨by rw [Hf.out],rfl⟩
      · have Hf:Hid (z3B 0 gh gw=false):=hide (by unfold z3B;exact decide_eq_false (fun h=>h2 h.2.1))
        go_wp2
        go_meet
        case rel=>exact ⟨by rw [Hf.out],rfl⟩
    · have Hf:Hid (z3B gr gh gw=false):=hide (by unfold z3B;exact decide_eq_false (fun h=>h1 h.1))
      go_wp2
      go_meet
      case rel=>exact ⟨by rw [Hf.out],rfl⟩
  obtain ⟨rfl,rfl⟩:=hcut
  go_upto_block 0 with fail
  go_cut [3,4] from 37 (fun fv gv wc=>fv=.bool F2/\gv=.bool F3/\w6=wc)
  case first =>
    by_cases h2:kd=2
    · have Hg:Hid (F3=z3B gr gh gw):=hide (HG.out.trans (by rw [if_neg (by omega)]))
      have HV2:Hid (F2=(inB vr 1 10000 && (inB vb 0 100000 && nmB vw))):=hide (HV.out.trans (by rw [if_pos h2]))
      subst h2
      generalize z3B vr vb vw=Zv at HV ⊢
      generalize z3B gr gh gw=Zg at Hg HG ⊢
      generalize nmB vw=M1 at HV2 HMv
      clear HV HG
      cases h3:inB vr 1 10000
      · rw [h3,Bool.false_and] at HV2
        go_wp2_with (first
          | (go_at_call 68;refine (l1In_any _ _ _ _).mono ?_;rintro e w4 ⟨rfl,rfl⟩)
          | (go_at_call 70;refine (HMv.out _).mono ?_;rintro e w5 ⟨rfl,rfl⟩)
          | fail)
        go_meet
        case rel=>exact ⟨by rw [HV2.out],by rw [Hg.out],rfl⟩
      · rw [h3,Bool.true_and] at HV2
        cases h4:inB vb 0 100000
        · rw [h4,Bool.false_and] at HV2
          go_wp2_with (first
            | (go_at_call 68;refine (l1In_any _ _ _ _).mono ?_;rintro e w4 ⟨rfl,rfl⟩)
            | (go_at_call 70;refine (HMv.out _).mono ?_;rintro e w5 ⟨rfl,rfl⟩)
            | fail)
          go_meet
          case rel=>exact ⟨by rw [HV2.out],by rw [Hg.out],rfl⟩
        · rw [h4,Bool.true_and] at HV2
          go_wp2_with (first
            | (go_at_call 68;refine (l1In_any _ _ _ _).mono ?_;rintro e w4 ⟨rfl,rfl⟩)
            | (go_at_call 70;refine (HMv.out _).mono ?_;rintro e w5 ⟨rfl,rfl⟩)
            | fail)
          go_meet
          case rel=>exact ⟨by rw [HV2.out],by rw [Hg.out],rfl⟩
    · have h2b:(kd == 2)=false:=by rw [beq_eq_false_iff_ne];exact h2
      have Hv:Hid (F2=z3B vr vb vw):=hide (HV.out.trans (by rw [if_neg h2]))
      by_cases h3:kd=3
      · have HG2:Hid (F3=(inB gr 1 10000 && (inB gh 0 (gr - 1) && (decide (gh=qr) && nmB gw)))):=hide (HG.out.trans (by rw [if_pos h3]))
        subst h3
        generalize z3B vr vb vw=Zv at Hv HV ⊢
        generalize z3B gr gh gw=Zg at HG ⊢
        generalize nmB gw=M1 at HG2 HMg
        clear HV HG h2
        have ew:IntKind.i64.wrap (gr - 1)=wrap64 (gr - 1):=by rw [IntKind.wrap_i64];unfold wrap64;omega
        cases h4:inB gr 1 10000
        · rw [h4,Bool.false_and] at HG2
          go_wp2_with (first
            | (go_at_call 68;refine (l1In_any _ _ _ _).mono ?_;rintro e w4 ⟨rfl,rfl⟩)
            | (go_at_call 70;refine (HMg.out _).mono ?_;rintro e w5 ⟨rfl,rfl⟩)
            | fail)
          go_meet
          case rel=>exact ⟨by rw [Hv.out],by rw [HG2.out],rfl⟩
        · rw [h4,Bool.true_and] at HG2
          have hwr:wrap64 (gr - 1)=gr - 1:=by unfold inB at h4;simp only [decide_eq_true_eq] at h4;unfold wrap64;omega
          rw [hwr] at ew
          clear hwr
          cases h5:inB gh 0 (gr - 1)
          · rw [h5,Bool.false_and] at HG2
            go_wp2_with (first
              | (go_at_call 68;refine (l1In_any _ _ _ _).mono ?_;rintro e w4 ⟨rfl,rfl⟩)
              | (go_at_call 70;refine (HMg.out _).mono ?_;rintro e w5 ⟨rfl,rfl⟩)
              | fail)
            go_meet
            case rel=>exact ⟨by rw [Hv.out],by rw [HG2.out],rfl⟩
          · rw [h5,Bool.true_and] at HG2
            by_cases h6:gh=qr
            · rw [decide_eq_true h6,Bool.true_and] at HG2
              have h6b:(gh == qr)=true:=by rw [h6];simp
              clear h6
              go_wp2_with (first
                | (go_at_call 68;refine (l1In_any _ _ _ _).mono ?_;rintro e w4 ⟨rfl,rfl⟩)
                | (go_at_call 70;refine (HMg.out _).mono ?_;rintro e w5 ⟨rfl,rfl⟩)
                | fail)
              go_meet
              case rel=>exact ⟨by rw [Hv.out],by rw [HG2.out],rfl⟩
            · rw [decide_eq_false h6,Bool.false_and] at HG2
              have h6b:(gh == qr)=false:=by rw [beq_eq_false_iff_ne];exact h6
              clear h6
              go_wp2_with (first
                | (go_at_call 68;refine (l1In_any _ _ _ _).mono ?_;rintro e w4 ⟨rfl,rfl⟩)
                | (go_at_call 70;refine (HMg.out _).mono ?_;rintro e w5 ⟨rfl,rfl⟩)
                | fail)
              go_meet
              case rel=>exact ⟨by rw [Hv.out],by rw [HG2.out],rfl⟩
      · have h3b:(kd == 3)=false:=by rw [beq_eq_false_iff_ne];exact h3
        have Hg:Hid (F3=z3B gr gh gw):=hide (HG.out.trans (by rw [if_neg h3]))
        generalize z3B vr vb vw=Zv at Hv HV ⊢
        generalize z3B gr gh gw=Zg at Hg HG ⊢
        clear HV HG h2 h3
        go_wp2
        go_meet
        case rel=>exact ⟨by rw [Hv.out],by rw [Hg.out],rfl⟩
  obtain ⟨rfl,rfl,rfl⟩:=hcut
  clear HV HG HMv HMg
  cases F2
  · rw [Bool.false_and] at HX
    go_wp2_with (first
      | fail)
    go_ret
    exact ⟨ret_bool HX.out.symm,HB6.out⟩
  rw [Bool.true_and] at HX
  cases F3
  · rw [Bool.false_and] at HX
    go_wp2_with (first
      | fail)
    go_ret
    exact ⟨ret_bool HX.out.symm,HB6.out⟩
  rw [Bool.true_and] at HX
  by_cases h4:kd=4
  · rw [decide_eq_true h4,Bool.true_or,Bool.true_and,Bool.true_and] at HX
    have h4b:(kd == 4)=true:=by rw [h4];rfl
    clear h4
    cases R0
    · rw [Bool.false_or] at HX
      cases C0
      · rw [Bool.false_and] at HX
        go_wp2_with (first
          | (go_at_call 110;refine (EC.out _ hB7).mono ?_;rintro e v2 ⟨rfl,hb8⟩;have hB8:=hB7.trans (hb8.mono hB7.size);have k8:=k7.below hb8 k7.lt;have z0:=k8.cell 0;have z10:=k8.cell 10;have z11:=k8.cell 11;have z12:=k8.cell 12;have z13:=k8.cell 13;have z14:=k8.cell 14;have z15:=k8.cell 15;simp only [List.getElem?_cons_zero,List.getElem?_cons_succ] at z0 z10 z11 z12 z13 z14 z15)
          | (go_at_call 109;refine (ER.out _ HB6.out).mono ?_;rintro e v1 ⟨rfl,hb7⟩;have hB7:=HB6.out.trans (hb7.mono HB6.out.size);have k7:=K6.out.below hb7 K6.out.lt;have y0:=k7.cell 0;have y10:=k7.cell 10;have y11:=k7.cell 11;have y12:=k7.cell 12;have y13:=k7.cell 13;have y14:=k7.cell 14;have y15:=k7.cell 15;simp only [List.getElem?_cons_zero,List.getElem?_cons_succ] at y0 y10 y11 y12 y13 y14 y15)
          | fail)
        go_ret
        exact ⟨ret_bool HX.out.symm,hB8⟩
      · rw [Bool.true_and] at HX
        cases N0
        · rw [Bool.false_or] at HX
          go_wp2_with (first
            | (go_at_call 112;refine (ET.out _ hB9).mono ?_;rintro e v4 ⟨rfl,hb10⟩;have hB10:=hB9.trans (hb10.mono hB9.size))
            | (go_at_call 111;refine (EN.out _ hB8).mono ?_;rintro e v3 ⟨rfl,hb9⟩;have hB9:=hB8.trans (hb9.mono hB8.size);have k9:=k8.below hb9 k8.lt;have u0:=k9.cell 0;have u10:=k9.cell 10;have u11:=k9.cell 11;have u12:=k9.cell 12;have u13:=k9.cell 13;have u14:=k9.cell 14;have u15:=k9.cell 15;simp only [List.getElem?_cons_zero,List.getElem?_cons_succ] at u0 u10 u11 u12 u13 u14 u15)
            | (go_at_call 110;refine (EC.out _ hB7).mono ?_;rintro e v2 ⟨rfl,hb8⟩;have hB8:=hB7.trans (hb8.mono hB7.size);have k8:=k7.below hb8 k7.lt;have z0:=k8.cell 0;have z10:=k8.cell 10;have z11:=k8.cell 11;have z12:=k8.cell 12;have z13:=k8.cell 13;have z14:=k8.cell 14;have z15:=k8.cell 15;simp only [List.getElem?_cons_zero,List.getElem?_cons_succ] at z0 z10 z11 z12 z13 z14 z15)
            | (go_at_call 109;refine (ER.out _ HB6.out).mono ?_;rintro e v1 ⟨rfl,hb7⟩;have hB7:=HB6.out.trans (hb7.mono HB6.out.size);have k7:=K6.out.below hb7 K6.out.lt;have y0:=k7.cell 0;have y10:=k7.cell 10;have y11:=k7.cell 11;have y12:=k7.cell 12;have y13:=k7.cell 13;have y14:=k7.cell 14;have y15:=k7.cell 15;simp only [List.getElem?_cons_zero,List.getElem?_cons_succ] at y0 y10 y11 y12 y13 y14 y15)
            | fail)
          go_ret
          exact ⟨ret_bool HX.out.symm,hB10⟩
        · rw [Bool.true_or] at HX
          go_wp2_with (first
            | (go_at_call 111;refine (EN.out _ hB8).mono ?_;rintro e v3 ⟨rfl,hb9⟩;have hB9:=hB8.trans (hb9.mono hB8.size);have k9:=k8.below hb9 k8.lt;have u0:=k9.cell 0;have u10:=k9.cell 10;have u11:=k9.cell 11;have u12:=k9.cell 12;have u13:=k9.cell 13;have u14:=k9.cell 14;have u15:=k9.cell 15;simp only [List.getElem?_cons_zero,List.getElem?_cons_succ] at u0 u10 u11 u12 u13 u14 u15)
            | (go_at_call 110;refine (EC.out _ hB7).mono ?_;rintro e v2 ⟨rfl,hb8⟩;have hB8:=hB7.trans (hb8.mono hB7.size);have k8:=k7.below hb8 k7.lt;have z0:=k8.cell 0;have z10:=k8.cell 10;have z11:=k8.cell 11;have z12:=k8.cell 12;have z13:=k8.cell 13;have z14:=k8.cell 14;have z15:=k8.cell 15;simp only [List.getElem?_cons_zero,List.getElem?_cons_succ] at z0 z10 z11 z12 z13 z14 z15)
            | (go_at_call 109;refine (ER.out _ HB6.out).mono ?_;rintro e v1 ⟨rfl,hb7⟩;have hB7:=HB6.out.trans (hb7.mono HB6.out.size);have k7:=K6.out.below hb7 K6.out.lt;have y0:=k7.cell 0;have y10:=k7.cell 10;have y11:=k7.cell 11;have y12:=k7.cell 12;have y13:=k7.cell 13;have y14:=k7.cell 14;have y15:=k7.cell 15;simp only [List.getElem?_cons_zero,List.getElem?_cons_succ] at y0 y10 y11 y12 y13 y14 y15)
            | fail)
          go_ret
          exact ⟨ret_bool HX.out.symm,hB9⟩
    · rw [Bool.true_or,Bool.true_and] at HX
      cases N0
      · rw [Bool.false_or] at HX
        go_wp2_with (first
          | (go_at_call 112;refine (ET.out _ hB9).mono ?_;rintro e v4 ⟨rfl,hb10⟩;have hB10:=hB9.trans (hb10.mono hB9.size))
          | (go_at_call 111;refine (EN.out _ hB7).mono ?_;rintro e v3 ⟨rfl,hb9⟩;have hB9:=hB7.trans (hb9.mono hB7.size);have k9:=k7.below hb9 k7.lt;have u0:=k9.cell 0;have u10:=k9.cell 10;have u11:=k9.cell 11;have u12:=k9.cell 12;have u13:=k9.cell 13;have u14:=k9.cell 14;have u15:=k9.cell 15;simp only [List.getElem?_cons_zero,List.getElem?_cons_succ] at u0 u10 u11 u12 u13 u14 u15)
          | (go_at_call 109;refine (ER.out _ HB6.out).mono ?_;rintro e v1 ⟨rfl,hb7⟩;have hB7:=HB6.out.trans (hb7.mono HB6.out.size);have k7:=K6.out.below hb7 K6.out.lt;have y0:=k7.cell 0;have y10:=k7.cell 10;have y11:=k7.cell 11;have y12:=k7.cell 12;have y13:=k7.cell 13;have y14:=k7.cell 14;have y15:=k7.cell 15;simp only [List.getElem?_cons_zero,List.getElem?_cons_succ] at y0 y10 y11 y12 y13 y14 y15)
          | fail)
        go_ret
        exact ⟨ret_bool HX.out.symm,hB10⟩
      · rw [Bool.true_or] at HX
        go_wp2_with (first
          | (go_at_call 111;refine (EN.out _ hB7).mono ?_;rintro e v3 ⟨rfl,hb9⟩;have hB9:=hB7.trans (hb9.mono hB7.size);have k9:=k7.below hb9 k7.lt;have u0:=k9.cell 0;have u10:=k9.cell 10;have u11:=k9.cell 11;have u12:=k9.cell 12;have u13:=k9.cell 13;have u14:=k9.cell 14;have u15:=k9.cell 15;simp only [List.getElem?_cons_zero,List.getElem?_cons_succ] at u0 u10 u11 u12 u13 u14 u15)
          | (go_at_call 109;refine (ER.out _ HB6.out).mono ?_;rintro e v1 ⟨rfl,hb7⟩;have hB7:=HB6.out.trans (hb7.mono HB6.out.size);have k7:=K6.out.below hb7 K6.out.lt;have y0:=k7.cell 0;have y10:=k7.cell 10;have y11:=k7.cell 11;have y12:=k7.cell 12;have y13:=k7.cell 13;have y14:=k7.cell 14;have y15:=k7.cell 15;simp only [List.getElem?_cons_zero,List.getElem?_cons_succ] at y0 y10 y11 y12 y13 y14 y15)
          | fail)
        go_ret
        exact ⟨ret_bool HX.out.symm,hB9⟩
  · rw [decide_eq_false h4,Bool.false_or,Bool.false_and,Bool.or_false] at HX
    have h4b:(kd == 4)=false:=by rw [beq_eq_false_iff_ne];exact h4
    clear h4
    by_cases h3:kd=3
    · rw [decide_eq_true h3,Bool.true_and] at HX
      have h3b:(kd == 3)=true:=by rw [h3];rfl
      clear h3
      cases R0
      · rw [Bool.false_or] at HX
        cases C0
        · rw [Bool.false_and] at HX
          go_wp2_with (first
            | (go_at_call 110;refine (EC.out _ hB7).mono ?_;rintro e v2 ⟨rfl,hb8⟩;have hB8:=hB7.trans (hb8.mono hB7.size);have k8:=k7.below hb8 k7.lt;have z0:=k8.cell 0;have z10:=k8.cell 10;have z11:=k8.cell 11;have z12:=k8.cell 12;have z13:=k8.cell 13;have z14:=k8.cell 14;have z15:=k8.cell 15;simp only [List.getElem?_cons_zero,List.getElem?_cons_succ] at z0 z10 z11 z12 z13 z14 z15)
            | (go_at_call 109;refine (ER.out _ HB6.out).mono ?_;rintro e v1 ⟨rfl,hb7⟩;have hB7:=HB6.out.trans (hb7.mono HB6.out.size);have k7:=K6.out.below hb7 K6.out.lt;have y0:=k7.cell 0;have y10:=k7.cell 10;have y11:=k7.cell 11;have y12:=k7.cell 12;have y13:=k7.cell 13;have y14:=k7.cell 14;have y15:=k7.cell 15;simp only [List.getElem?_cons_zero,List.getElem?_cons_succ] at y0 y10 y11 y12 y13 y14 y15)
            | fail)
          go_ret
          exact ⟨ret_bool HX.out.symm,hB8⟩
        · rw [Bool.true_and] at HX
          cases N0
          · go_wp2_with (first
              | (go_at_call 111;refine (EN.out _ hB8).mono ?_;rintro e v3 ⟨rfl,hb9⟩;have hB9:=hB8.trans (hb9.mono hB8.size);have k9:=k8.below hb9 k8.lt;have u0:=k9.cell 0;have u10:=k9.cell 10;have u11:=k9.cell 11;have u12:=k9.cell 12;have u13:=k9.cell 13;have u14:=k9.cell 14;have u15:=k9.cell 15;simp only [List.getElem?_cons_zero,List.getElem?_cons_succ] at u0 u10 u11 u12 u13 u14 u15)
              | (go_at_call 110;refine (EC.out _ hB7).mono ?_;rintro e v2 ⟨rfl,hb8⟩;have hB8:=hB7.trans (hb8.mono hB7.size);have k8:=k7.below hb8 k7.lt;have z0:=k8.cell 0;have z10:=k8.cell 10;have z11:=k8.cell 11;have z12:=k8.cell 12;have z13:=k8.cell 13;have z14:=k8.cell 14;have z15:=k8.cell 15;simp only [List.getElem?_cons_zero,List.getElem?_cons_succ] at z0 z10 z11 z12 z13 z14 z15)
              | (go_at_call 109;refine (ER.out _ HB6.out).mono ?_;rintro e v1 ⟨rfl,hb7⟩;have hB7:=HB6.out.trans (hb7.mono HB6.out.size);have k7:=K6.out.below hb7 K6.out.lt;have y0:=k7.cell 0;have y10:=k7.cell 10;have y11:=k7.cell 11;have y12:=k7.cell 12;have y13:=k7.cell 13;have y14:=k7.cell 14;have y15:=k7.cell 15;simp only [List.getElem?_cons_zero,List.getElem?_cons_succ] at y0 y10 y11 y12 y13 y14 y15)
              | fail)
            go_ret
            exact ⟨ret_bool HX.out.symm,hB9⟩
          · go_wp2_with (first
              | (go_at_call 111;refine (EN.out _ hB8).mono ?_;rintro e v3 ⟨rfl,hb9⟩;have hB9:=hB8.trans (hb9.mono hB8.size);have k9:=k8.below hb9 k8.lt;have u0:=k9.cell 0;have u10:=k9.cell 10;have u11:=k9.cell 11;have u12:=k9.cell 12;have u13:=k9.cell 13;have u14:=k9.cell 14;have u15:=k9.cell 15;simp only [List.getElem?_cons_zero,List.getElem?_cons_succ] at u0 u10 u11 u12 u13 u14 u15)
              | (go_at_call 110;refine (EC.out _ hB7).mono ?_;rintro e v2 ⟨rfl,hb8⟩;have hB8:=hB7.trans (hb8.mono hB7.size);have k8:=k7.below hb8 k7.lt;have z0:=k8.cell 0;have z10:=k8.cell 10;have z11:=k8.cell 11;have z12:=k8.cell 12;have z13:=k8.cell 13;have z14:=k8.cell 14;have z15:=k8.cell 15;simp only [List.getElem?_cons_zero,List.getElem?_cons_succ] at z0 z10 z11 z12 z13 z14 z15)
              | (go_at_call 109;refine (ER.out _ HB6.out).mono ?_;rintro e v1 ⟨rfl,hb7⟩;have hB7:=HB6.out.trans (hb7.mono HB6.out.size);have k7:=K6.out.below hb7 K6.out.lt;have y0:=k7.cell 0;have y10:=k7.cell 10;have y11:=k7.cell 11;have y12:=k7.cell 12;have y13:=k7.cell 13;have y14:=k7.cell 14;have y15:=k7.cell 15;simp only [List.getElem?_cons_zero,List.getElem?_cons_succ] at y0 y10 y11 y12 y13 y14 y15)
              | fail)
            go_ret
            exact ⟨ret_bool HX.out.symm,hB9⟩
      · rw [Bool.true_or,Bool.true_and] at HX
        cases N0
        · go_wp2_with (first
            | (go_at_call 111;refine (EN.out _ hB7).mono ?_;rintro e v3 ⟨rfl,hb9⟩;have hB9:=hB7.trans (hb9.mono hB7.size);have k9:=k7.below hb9 k7.lt;have u0:=k9.cell 0;have u10:=k9.cell 10;have u11:=k9.cell 11;have u12:=k9.cell 12;have u13:=k9.cell 13;have u14:=k9.cell 14;have u15:=k9.cell 15;simp only [List.getElem?_cons_zero,List.getElem?_cons_succ] at u0 u10 u11 u12 u13 u14 u15)
            | (go_at_call 109;refine (ER.out _ HB6.out).mono ?_;rintro e v1 ⟨rfl,hb7⟩;have hB7:=HB6.out.trans (hb7.mono HB6.out.size);have k7:=K6.out.below hb7 K6.out.lt;have y0:=k7.cell 0;have y10:=k7.cell 10;have y11:=k7.cell 11;have y12:=k7.cell 12;have y13:=k7.cell 13;have y14:=k7.cell 14;have y15:=k7.cell 15;simp only [List.getElem?_cons_zero,List.getElem?_cons_succ] at y0 y10 y11 y12 y13 y14 y15)
            | fail)
          go_ret
          exact ⟨ret_bool HX.out.symm,hB9⟩
        · go_wp2_with (first
            | (go_at_call 111;refine (EN.out _ hB7).mono ?_;rintro e v3 ⟨rfl,hb9⟩;have hB9:=hB7.trans (hb9.mono hB7.size);have k9:=k7.below hb9 k7.lt;have u0:=k9.cell 0;have u10:=k9.cell 10;have u11:=k9.cell 11;have u12:=k9.cell 12;have u13:=k9.cell 13;have u14:=k9.cell 14;have u15:=k9.cell 15;simp only [List.getElem?_cons_zero,List.getElem?_cons_succ] at u0 u10 u11 u12 u13 u14 u15)
            | (go_at_call 109;refine (ER.out _ HB6.out).mono ?_;rintro e v1 ⟨rfl,hb7⟩;have hB7:=HB6.out.trans (hb7.mono HB6.out.size);have k7:=K6.out.below hb7 K6.out.lt;have y0:=k7.cell 0;have y10:=k7.cell 10;have y11:=k7.cell 11;have y12:=k7.cell 12;have y13:=k7.cell 13;have y14:=k7.cell 14;have y15:=k7.cell 15;simp only [List.getElem?_cons_zero,List.getElem?_cons_succ] at y0 y10 y11 y12 y13 y14 y15)
            | fail)
          go_ret
          exact ⟨ret_bool HX.out.symm,hB9⟩
    · rw [decide_eq_false h3,Bool.false_and,Bool.or_false] at HX
      have h3b:(kd == 3)=false:=by rw [beq_eq_false_iff_ne];exact h3
      clear h3
      cases R0
      · rw [Bool.false_and] at HX
        go_wp2_with (first
          | (go_at_call 109;refine (ER.out _ HB6.out).mono ?_;rintro e v1 ⟨rfl,hb7⟩;have hB7:=HB6.out.trans (hb7.mono HB6.out.size);have k7:=K6.out.below hb7 K6.out.lt;have y0:=k7.cell 0;have y10:=k7.cell 10;have y11:=k7.cell 11;have y12:=k7.cell 12;have y13:=k7.cell 13;have y14:=k7.cell 14;have y15:=k7.cell 15;simp only [List.getElem?_cons_zero,List.getElem?_cons_succ] at y0 y10 y11 y12 y13 y14 y15)
          | fail)
        go_ret
        exact ⟨ret_bool HX.out.symm,hB7⟩
      · rw [Bool.true_and] at HX
        cases N0
        · go_wp2_with (first
            | (go_at_call 111;refine (EN.out _ hB7).mono ?_;rintro e v3 ⟨rfl,hb9⟩;have hB9:=hB7.trans (hb9.mono hB7.size);have k9:=k7.below hb9 k7.lt;have u0:=k9.cell 0;have u10:=k9.cell 10;have u11:=k9.cell 11;have u12:=k9.cell 12;have u13:=k9.cell 13;have u14:=k9.cell 14;have u15:=k9.cell 15;simp only [List.getElem?_cons_zero,List.getElem?_cons_succ] at u0 u10 u11 u12 u13 u14 u15)
            | (go_at_call 109;refine (ER.out _ HB6.out).mono ?_;rintro e v1 ⟨rfl,hb7⟩;have hB7:=HB6.out.trans (hb7.mono HB6.out.size);have k7:=K6.out.below hb7 K6.out.lt;have y0:=k7.cell 0;have y10:=k7.cell 10;have y11:=k7.cell 11;have y12:=k7.cell 12;have y13:=k7.cell 13;have y14:=k7.cell 14;have y15:=k7.cell 15;simp only [List.getElem?_cons_zero,List.getElem?_cons_succ] at y0 y10 y11 y12 y13 y14 y15)
            | fail)
          go_ret
          exact ⟨ret_bool HX.out.symm,hB9⟩
        · go_wp2_with (first
            | (go_at_call 111;refine (EN.out _ hB7).mono ?_;rintro e v3 ⟨rfl,hb9⟩;have hB9:=hB7.trans (hb9.mono hB7.size);have k9:=k7.below hb9 k7.lt;have u0:=k9.cell 0;have u10:=k9.cell 10;have u11:=k9.cell 11;have u12:=k9.cell 12;have u13:=k9.cell 13;have u14:=k9.cell 14;have u15:=k9.cell 15;simp only [List.getElem?_cons_zero,List.getElem?_cons_succ] at u0 u10 u11 u12 u13 u14 u15)
            | (go_at_call 109;refine (ER.out _ HB6.out).mono ?_;rintro e v1 ⟨rfl,hb7⟩;have hB7:=HB6.out.trans (hb7.mono HB6.out.size);have k7:=K6.out.below hb7 K6.out.lt;have y0:=k7.cell 0;have y10:=k7.cell 10;have y11:=k7.cell 11;have y12:=k7.cell 12;have y13:=k7.cell 13;have y14:=k7.cell 14;have y15:=k7.cell 15;simp only [List.getElem?_cons_zero,List.getElem?_cons_succ] at y0 y10 y11 y12 y13 y14 y15)
            | fail)
          go_ret
          exact ⟨ret_bool HX.out.symm,hB9⟩
end Go.Proofs.YtckahjabljffjaaGreat
namespace Go.Proofs.YtckahjabljffjaaGreat
open Go.RowKit Go.Sort
set_option linter.unusedVariables false
theorem wd_two (p:Wd):wdB p=(lgB p.ep p.la && (nmsB p.fo && (decide (p.bs.length<=1000) && (decide (p.ms.length<=400) && ((List.range p.bs.length).all (bkAt p.bs) && (p.ms.all (mgAt p.bs p.ns) && nodesB p.fo p.bs p.ns)))))):=by
  unfold wdB blocksB netB
  generalize lgB p.ep p.la=a1
  generalize nmsB p.fo=a2
  generalize decide (p.bs.length<=1000)=a3
  generalize decide (p.ms.length<=400)=a4
  generalize (List.range p.bs.length).all (bkAt p.bs)=a5
  generalize p.ms.all (mgAt p.bs p.ns)=a6
  generalize nodesB p.fo p.bs p.ns=a7
  cases a1 <;> cases a2 <;> cases a3 <;> cases a4 <;> cases a5 <;> cases a6 <;> cases a7 <;> rfl
theorem specWorldOk_any (p:Wd) (u:Wv) (w:World) (hr:RdWd w p u) (hf:FewWd p) (hg:FitWd p) :
    Calls Tryz.prog 19 #[wdV p u] w fun en w'=>en=.returned (.bool (wdB p))/\Below w.heap.size w w':=by
  have HX:=hide (wd_two p)
  generalize wdB p=X at HX ⊢
  obtain ⟨ep,la,fo,ns,bs,sg,ms⟩:=p
  obtain ⟨ya,yf,yn,yb,ys,ym⟩:=u
  obtain ⟨hya,hyf,hyn,hyb,hys,hym⟩:=hr
  simp only at *
  obtain ⟨ada,cpa,rfl⟩:=hya.shape
  obtain ⟨adf,cpf,rfl⟩:=hyf.shape
  obtain ⟨adn,cpn,rfl⟩:=hyn.shape
  obtain ⟨adb,cpb,rfl⟩:=hyb.shape
  obtain ⟨ads,cps,rfl⟩:=hys.shape
  obtain ⟨adm,cpm,rfl⟩:=hym.shape
  simp only [wdV]
  have Q:Wq w adf adn adb adm cpf cpn cpb cpm fo ns bs ms:=⟨hyf,hyn,hyb,hym,hf.nf,hf.nn,hf.nb,hf.nm,hg.gf,hf.fn,hg.gn,hf.fb,hg.gb,hf.fm,hg.gm⟩
  obtain ⟨w1,hw1⟩:∃ x,w.alloc (.cells #[.int .i64 ep,.slice ada la.length cpa,.slice adf fo.length cpf,.slice adn ns.length cpn,.slice adb bs.length cpb,.slice ads sg.length cps,.slice adm ms.length cpm] 36)=x:=⟨_,rfl⟩
  have b1:Below w.heap.size w w1:=by rw [<- hw1];exact (Below.refl _ w).alloc (Nat.le_refl _) _
  have K1:=hide (show Blk w1 w.heap.size 36 [.int .i64 ep,.slice ada la.length cpa,.slice adf fo.length cpf,.slice adn ns.length cpn,.slice adb bs.length cpb,.slice ads sg.length cps,.slice adm ms.length cpm] from by rw [<- hw1];exact Blk.new w _ _)
  have IW:=hide (show (Tryz.prog.info? 36).map (·.size)=some ([.int .i64 ep,.slice ada la.length cpa,.slice adf fo.length cpf,.slice adn ns.length cpn,.slice adb bs.length cpb,.slice ads sg.length cps,.slice adm ms.length cpm]:List Value).length from infoWd7)
  have HL:=hide (fun V (hV:Below w.heap.size w V)=>specLedgerOk_any ep (.slice ada la.length cpa) la V (hya.below hV (Nat.le_refl _)) hf.na (fun a ha=>⟨(hg.ga a ha).1,hf.fa a ha⟩))
  have HM:=hide (fun V (hV:Below w.heap.size w V)=>specNamesOk_any (.slice adf fo.length cpf) fo V (Q.f.below hV (Nat.le_refl _)) Q.lf Q.zf)
  have HB:=hide (fun (b:Bk) (v:Bv) (V:World) (hr:RdK V b v) (hf:FewK b) (hg:FitK b)=>specBlockOk_any b v V hr hf (wf_int hg.wf.2.2.2.2.2))
  have HO:=hide (fun (m:Mg) (v:Mv) (V:World) (hr:RdMg V m v) (hf:FewMg m) (hg:FitMg m)=>specMsgOk_any m v V hr.m (fewM_of hf hg))
  have HA:=hide (fun (s:ByteArray) (V:World) (hV:Below w.heap.size w V)=>specL15AtZ_any ep (.slice ada la.length cpa) (.slice adf fo.length cpf) (.slice adb bs.length cpb) (.slice ads sg.length cps) (.slice adm ms.length cpm) adn cpn ns s V (Q.n.below hV (Nat.le_refl _)) Q.ln)
  have HR:=hide (fun (al:Option Addr) (cl:Nat) (l:List Bk) (V:World) (hV:Below w.heap.size w V) (hL:RdKs V (.slice al l.length cl) l) (hll:l.length<=4000000) (hfl:∀ x ∈ l,FewK x)=>specL15Real_any ep (.slice ada la.length cpa) (.slice adf fo.length cpf) (.slice adn ns.length cpn) (.slice ads sg.length cps) (.slice adm ms.length cpm) adb cpb bs al cl l V (Q.b.below hV (Nat.le_refl _)) Q.lb Q.fb hL hll hfl)
  have HN:=hide (fun V (hV:Below w.heap.size w V)=>specNodesOk_any ep (.slice ada la.length cpa) (.slice ads sg.length cps) adf adn adb adm cpf cpn cpb cpm fo ns bs ms V (Q.below hV (Nat.le_refl _)))
  have HQ:=hide Q
  have k1:=K1.out
  have x0:=k1.cell 0
  have x1:=k1.cell 1
  simp only [List.getElem?_cons_zero,List.getElem?_cons_succ] at x0 x1
  have hx2:([.int .i64 ep,.slice ada la.length cpa,.slice adf fo.length cpf,.slice adn ns.length cpn,.slice adb bs.length cpb,.slice ads sg.length cps,.slice adm ms.length cpm]:List Value)[2]?=some (.slice adf fo.length cpf):=rfl
  have hx4:([.int .i64 ep,.slice ada la.length cpa,.slice adf fo.length cpf,.slice adn ns.length cpn,.slice adb bs.length cpb,.slice ads sg.length cps,.slice adm ms.length cpm]:List Value)[4]?=some (.slice adb bs.length cpb):=rfl
  have hx6:([.int .i64 ep,.slice ada la.length cpa,.slice adf fo.length cpf,.slice adn ns.length cpn,.slice adb bs.length cpb,.slice ads sg.length cps,.slice adm ms.length cpm]:List Value)[6]?=some (.slice adm ms.length cpm):=rfl
  simp only [lgV] at HL
  clear Q hya hyf hyn hyb hys hym hf hg k1
  generalize lgB ep la=L0 at HX HL
  generalize nmsB fo=M0 at HX HM
  generalize nodesB fo bs ns=N0 at HX HN
  obtain ⟨cw,hcw⟩:∃ x,([.int .i64 ep,.slice ada la.length cpa,.slice adf fo.length cpf,.slice adn ns.length cpn,.slice adb bs.length cpb,.slice ads sg.length cps,.slice adm ms.length cpm]:List Value)=x:=⟨_,rfl⟩
  have hcw2:(.agg #[.int .i64 ep,.slice ada la.length cpa,.slice adf fo.length cpf,.slice adn ns.length cpn,.slice adb bs.length cpb,.slice ads sg.length cps,.slice adm ms.length cpm]:Value)=.agg cw.toArray:=by rw [<- hcw]
  rw [hcw] at K1 IW hx2 hx4 hx6
  rw [hcw2] at HA HR HN ⊢
  rw [show (w.alloc (.cells #[.int .i64 ep,.slice ada la.length cpa,.slice adf fo.length cpf,.slice adn ns.length cpn,.slice adb bs.length cpb,.slice ads sg.length cps,.slice adm ms.length cpm] 36))=w.alloc (.cells cw.toArray 36) from by rw [<- hcw]] at hw1
  clear hcw hcw2
  have RW:=hide (fun V (hV:Below w1.heap.size w1 V)=>range_below (blk_range K1.out) hV K1.out.lt)
  have Y2:=hide (fun V (hV:Below w1.heap.size w1 V)=>(show V.cell? ⟨w.heap.size,2,none⟩=some (.slice adf fo.length cpf) from by
    have a:=RW.out V hV 2 _ hx2
    rwa [Nat.zero_add] at a))
  have Y3:=hide (fun V (hV:Below w1.heap.size w1 V)=>(show V.cell? ⟨w.heap.size,4,none⟩=some (.slice adb bs.length cpb) from by
    have a:=RW.out V hV 4 _ hx4
    rwa [Nat.zero_add] at a))
  have Y5:=hide (fun V (hV:Below w1.heap.size w1 V)=>(show V.cell? ⟨w.heap.size,6,none⟩=some (.slice adm ms.length cpm) from by
    have a:=RW.out V hV 6 _ hx6
    rwa [Nat.zero_add] at a))
  have z1:=hide K1.out.lt
  clear K1 hx2 hx4 hx6
  have B1:=b1
  go_enter Tryz.func19,Tryz.ntmps19
  go_upto_region 1 with fail
  (try rw [hw1])
  clear hw1
  cases L0
  · rw [Bool.false_and] at HX
    clear HB HO HA HR HN HQ
    go_wp2_with (first
      | (go_at_call 23;(with_reducible refine (HL.out _ B1).mono ?_);rintro e w2 ⟨rfl,hb2⟩;have B2:=B1.trans (hb2.mono B1.size);have D2:=hb2;have y2:=Y2.out w2 D2)
      | fail)
    go_ret
    exact ⟨ret_bool HX.out.symm,B2⟩
  · rw [Bool.true_and] at HX
    cases M0
    · rw [Bool.false_and] at HX
      clear HB HO HA HR HN HQ
      go_wp2_with (first
        | (go_at_call 24;(with_reducible refine (HM.out w2 B2).mono ?_);rintro e w3 ⟨rfl,hs3⟩;have hb3:=hs3 w2.heap.size;have B3:=B2.trans (hb3.mono B2.size);have D3:=D2.trans (hb3.mono D2.size);have z3:=Y3.out w3 D3;have z5:=Y5.out w3 D3)
        | (go_at_call 23;(with_reducible refine (HL.out _ B1).mono ?_);rintro e w2 ⟨rfl,hb2⟩;have B2:=B1.trans (hb2.mono B1.size);have D2:=hb2;have y2:=Y2.out w2 D2)
        | fail)
      go_ret
      exact ⟨ret_bool HX.out.symm,B3⟩
    · rw [Bool.true_and] at HX
      by_cases h3:bs.length<=1000
      · rw [decide_eq_true h3,Bool.true_and] at HX
        have h3i:¬ (1000:Int) < (bs.length:Int):=by omega
        by_cases h4:ms.length<=400
        · rw [decide_eq_true h4,Bool.true_and] at HX
          have h4i:¬ (400:Int) < (ms.length:Int):=by omega
          go_wp2_with (first
            | (go_at_call 24;(with_reducible refine (HM.out w2 B2).mono ?_);rintro e w3 ⟨rfl,hs3⟩;have hb3:=hs3 w2.heap.size;have B3:=B2.trans (hb3.mono B2.size);have D3:=D2.trans (hb3.mono D2.size);have z3:=Y3.out w3 D3;have z5:=Y5.out w3 D3)
            | (go_at_call 23;(with_reducible refine (HL.out _ B1).mono ?_);rintro e w2 ⟨rfl,hb2⟩;have B2:=B1.trans (hb2.mono B1.size);have D2:=hb2;have y2:=Y2.out w2 D2)
            | fail)
          have D3h:=hide D3
          have B1:=hide b1
          clear b1 D2 B2 B3 D3 hb2 hb3 hs3 y2 z3 z5 HL HM x0 x1 h3 h4
          go_loopw [3] (fun iv wr=>∃ k:Nat,k<=bs.length/\iv=.int .i64 (k:Int)/\(∀ j,j < k->bkAt bs j=true)/\Below w1.heap.size w1 wr) (fun iv _=>bs.length - (intOf iv).toNat)
          case atStart=>exact ⟨0,Nat.zero_le _,rfl,(fun j h=>by omega),D3h.out⟩
          case round =>
            obtain ⟨k,hk,rfl,hlo,hb⟩:=hrel
            have Hlo:=hide hlo
            clear hlo
            have hln:=HQ.out.lb
            by_cases hlt:k < bs.length
            · obtain ⟨b0,off,rfl,h3,hcell⟩:=HQ.out.b.parts14 (by omega)
              obtain ⟨u,hat,hrl⟩:=hcell k hlt
              have hBr:=B1.out.trans (hb.mono B1.out.size)
              have Hrg:=hide (show wr.rangeAt b0 (off+k * 14) (bkC bs[k] u) from fun j x hx=>by
                have hj:j < 14:=(List.getElem?_eq_some_iff.1 hx).1
                exact ((hat.below hBr h3) j hj).trans hx)
              have hrw:=hrl.below hBr (Nat.le_refl _)
              have Hno:Hid (bkAt bs k=false->X=false):=hide (fun h=>by rw [HX.out,rangeW_no hlt h,Bool.false_and])
              have Hyes:Hid (bkAt bs k=true->∀ j,j < k+1->bkAt bs j=true):=hide (fun h j hjk=>by
                by_cases e:j=k
                · subst e;exact h
                · exact Hlo.out j (by omega))
              have Hq:Hid (bkAt bs k=(decide (bs[k].id=(k:Int)) && blB bs[k])):=hide (bkAt_eq hlt)
              have hki:(k:Int) < (bs.length:Int):=by omega
              have hk0:(0:Int)<=(k:Int):=by omega
              have HT:=hide (HB.out bs[k] u wr hrw (HQ.out.fb _ (List.getElem_mem hlt)) (HQ.out.gb _ (List.getElem_mem hlt)))
              have IE:=hide (show (Tryz.prog.info? 94).map (·.size)=some (bkC bs[k] u).length from infoBk14)
              have y3:=Y3.out wr hb
              have y0:wr.cell? ⟨b0,off+k * 14,none⟩=some (.int .i64 bs[k].id):=by
                have a:=Hrg.out 0 _ rfl
                rwa [Nat.add_zero] at a
              have B3:=hide hb
              rw [show bkV bs[k] u=.agg (bkC bs[k] u).toArray from rfl] at HT
              clear hat hrl hcell hb hrw hBr Hlo h3 HO HA HR HN Y2 Y5 RW z1
              generalize bkAt bs k=Y at Hno Hyes Hq
              generalize blB bs[k]=G at HT Hq
              generalize bs[k].id=id at Hq y0
              generalize bkC bs[k] u=cs at Hrg IE HT
              by_cases hid:id=(k:Int)
              · have hidi:(id != (k:Int))=false:=by rw [bne_eq_false_iff_eq];exact hid
                rw [decide_eq_true hid,Bool.true_and] at Hq
                clear hid
                cases G
                · have hn:=hide (Hno.out Hq.out)
                  clear Hno Hyes Hq
                  go_wp2_with (first
                    | (refine load_mid 94 _ rfl b0 (off+k * 14) rfl cs _ Hrg.out Tryz.underlying94 rfl IE.out (by rfl) ?_)
                    | (go_at_call 55;(with_reducible refine HT.out.mono ?_);rintro e w4 ⟨rfl,hb4⟩;have B4:=B3.out.trans (hb4.mono B3.out.size))
                    | fail)
                  go_ret
                  exact ⟨ret_bool hn.out.symm,B1.out.trans (B4.mono B1.out.size)⟩
                · have Hy:=hide (Hyes.out Hq.out)
                  clear Hno Hyes Hq
                  go_wp2_with (first
                    | (refine load_mid 94 _ rfl b0 (off+k * 14) rfl cs _ Hrg.out Tryz.underlying94 rfl IE.out (by rfl) ?_)
                    | (go_at_call 55;(with_reducible refine HT.out.mono ?_);rintro e w4 ⟨rfl,hb4⟩;have B4:=B3.out.trans (hb4.mono B3.out.size))
                    | fail)
                  go_roundw
                  case rel=>exact ⟨k+1,by omega,by go_num,Hy.out,B4⟩
                  case measure=>simp [intOf];omega
              · have hidi:(id != (k:Int))=true:=by rw [bne_iff_ne];exact hid
                rw [decide_eq_false hid,Bool.false_and] at Hq
                have hn:=hide (Hno.out Hq.out)
                clear Hno Hyes Hq hid HT
                go_wp2
                go_ret
                exact ⟨ret_bool hn.out.symm,B1.out.trans (B3.out.mono B1.out.size)⟩
            · rw [rangeW_yes (fun j hj=>Hlo.out j (by omega)),Bool.true_and] at HX
              have hki:¬ (k:Int) < (bs.length:Int):=by omega
              obtain ⟨wa,rfl⟩:∃ x,x=wr:=⟨_,rfl⟩
              have y3:=Y3.out wa hb
              have DA:=hide hb
              clear Hlo HB Y3 hb hk hln
              go_wp2
              clear y3 hki hlt
              go_loopw [4] (fun iv wr=>∃ k:Nat,k<=ms.length/\iv=.int .i64 (k:Int)/\(∀ j (h:j < ms.length),j < k->mgAt bs ns ms[j]=true)/\Below w1.heap.size w1 wr) (fun iv _=>ms.length - (intOf iv).toNat)
              case atStart=>exact ⟨0,Nat.zero_le _,rfl,(fun j _ h=>by omega),DA.out⟩
              case round =>
                obtain ⟨k,hk,rfl,hlo,hb⟩:=hrel
                have Hlo:=hide hlo
                clear hlo
                have hln:=HQ.out.lm
                by_cases hlt:k < ms.length
                · obtain ⟨b0,off,rfl,h3,hcell⟩:=HQ.out.m.at16 (by omega)
                  obtain ⟨u,hat,hrl⟩:=hcell k hlt
                  have hBr:=B1.out.trans (hb.mono B1.out.size)
                  have Hrg:=hide (range_below hat hBr h3)
                  have hz3:b0 < wr.heap.size:=Nat.lt_of_lt_of_le h3 hBr.size
                  have hrw:=hrl.below hBr (Nat.le_refl _)
                  have hfw:=HQ.out.fm _ (List.getElem_mem hlt)
                  have hgw:=HQ.out.gm _ (List.getElem_mem hlt)
                  have Hno:Hid (mgAt bs ns ms[k]=false->X=false):=hide (fun h=>by rw [HX.out,allW_no hlt h,Bool.false_and])
                  have Hyes:Hid (mgAt bs ns ms[k]=true->∀ j (h:j < ms.length),j < k+1->mgAt bs ns ms[j]=true):=hide (fun h j hj hjk=>by
                    by_cases e:j=k
                    · subst e;exact h
                    · exact Hlo.out j hj (by omega))
                  have Hq:Hid (mgAt bs ns ms[k]=(msgB ms[k] && (decide (0<=atZ ns ms[k].tn) && realB bs ms[k].bs))):=hide (by rw [<- atZ_at];rfl)
                  obtain ⟨am,cm,eb⟩:=hrw.kb.shape
                  have hki:(k:Int) < (ms.length:Int):=by omega
                  have hk0:(0:Int)<=(k:Int):=by omega
                  have qq:=fun (d:Nat) (os:Array Obj)=>below_regrown wr d os
                  have HO3:=hide (fun (d:Nat) (os:Array Obj)=>Calls.regrown_of (HO.out ms[k] u (grow (redrawn wr d) os) (hrw.below (qq d os) (Nat.le_refl _)) hfw hgw))
                  have HA3:=hide (fun (d:Nat) (os:Array Obj)=>Calls.regrown_of (HA.out ms[k].tn (grow (redrawn wr d) os) (hBr.trans ((qq d os).mono hBr.size))))
                  have HR3:=hide (fun (d:Nat) (os:Array Obj)=>Calls.regrown_of (HR.out am cm ms[k].bs (grow (redrawn wr d) os) (hBr.trans ((qq d os).mono hBr.size)) (by rw [<- eb];exact (hrw.below (qq d os) (Nat.le_refl _)).kb) hfw.nb hfw.fb))
                  have IE:=hide (show (Tryz.prog.info? 102).map (·.size)=some (mgC ms[k] u).length from infoMg16)
                  have y5:=Y5.out wr hb
                  have g5:=cell_regrown y5
                  have gt:=cell_regrown (show wr.cell? ⟨b0,off+k * 16+1,none⟩=some (.string ms[k].tn) from Hrg.out 1 _ rfl)
                  have gb:=cell_regrown (show wr.cell? ⟨b0,off+k * 16+3,none⟩=some (.slice am ms[k].bs.length cm) from by rw [<- eb];exact Hrg.out 3 _ rfl)
                  have RJ:=hide (range_regrown Hrg.out hz3)
                  have RW:=hide (range_regrown (RW.out wr hb) (by have:=z1.out;have:=hb.size;omega))
                  have B3:=hide hb
                  rw [show mgV ms[k] u=.agg (mgC ms[k] u).toArray from rfl] at HO3
                  clear hat hrl hcell hb hrw hBr Hlo hfw hgw eb qq h3 hz3 HO HA HR HN Hrg Y2 Y5 z1
                  generalize mgAt bs ns ms[k]=Y at Hno Hyes Hq
                  generalize msgB ms[k]=G at HO3 Hq
                  generalize realB bs ms[k].bs=H at HR3 Hq
                  generalize atZ ns ms[k].tn=Z at HA3 Hq
                  generalize ms[k].tn=tn at gt HA3
                  generalize ms[k].bs.length=bn at gb HR3
                  generalize mgC ms[k] u=cs at IE HO3 RJ
                  cases G
                  · rw [Bool.false_and] at Hq
                    have hn:=hide (Hno.out Hq.out)
                    clear Hno Hyes Hq
                    go_wp2
                    refine wp_region_quiet_below (by kernel_rfl) (by kernel_rfl) ?_
                    (try dsimp only [List.append])
                    (try simp only [Act.put])
                    iterate 4 (go_big_quiet_step (first | (go_at_call 56;exact HO3.out _ _) | (go_at_call 57;exact HA3.out _ _) | (go_at_call 58;exact HR3.out _ _)))
                    (first | go_big_quiet_skip | (refine quiet_load_mid 102 _ rfl b0 (off+k * 16) rfl cs _ RJ.out Tryz.underlying102 rfl IE.out (by rfl) ?_;change wpQuiet _ _ _ _ _ (Act.put _ (some 62) _);simp only [Act.put,List.setIfInBounds_toArray,List.set_cons_zero,List.set_cons_succ]))
                    iterate 3 (go_big_quiet_step (first | (go_at_call 56;exact HO3.out _ _) | (go_at_call 57;exact HA3.out _ _) | (go_at_call 58;exact HR3.out _ _)))
                    (first | go_big_quiet_skip | (refine quiet_load_mid 36 _ rfl w.heap.size (0) rfl cw _ RW.out Tryz.underlying36 rfl IW.out (by rfl) ?_;change wpQuiet _ _ _ _ _ (Act.put _ (some 66) _);simp only [Act.put,List.setIfInBounds_toArray,List.set_cons_zero,List.set_cons_succ]))
                    iterate 10 (go_big_quiet_step (first | (go_at_call 56;exact HO3.out _ _) | (go_at_call 57;exact HA3.out _ _) | (go_at_call 58;exact HR3.out _ _)))
                    (first | go_big_quiet_skip | (refine quiet_load_mid 36 _ rfl w.heap.size (0) rfl cw _ RW.out Tryz.underlying36 rfl IW.out (by rfl) ?_;change wpQuiet _ _ _ _ _ (Act.put _ (some 77) _);simp only [Act.put,List.setIfInBounds_toArray,List.set_cons_zero,List.set_cons_succ]))
                    iterate 9 (go_big_quiet_step (first | (go_at_call 56;exact HO3.out _ _) | (go_at_call 57;exact HA3.out _ _) | (go_at_call 58;exact HR3.out _ _)))
                    refine wpQuiet_nil ?_
                    intro _ hw'
                    obtain ⟨⟨dq,osq⟩,hw''⟩:=hw'
                    subst hw''
                    go_wp2
                    go_ret
                    exact ⟨ret_bool hn.out.symm,B1.out.trans ((B3.out.trans ((below_regrown wr dq osq).mono B3.out.size)).mono B1.out.size)⟩
                  · rw [Bool.true_and] at Hq
                    by_cases hi:0<=Z
                    · rw [decide_eq_true hi,Bool.true_and] at Hq
                      have hii:decide (Z < 0)=false:=decide_eq_false (by omega)
                      clear hi
                      cases H
                      · skip
                        have hn:=hide (Hno.out Hq.out)
                        clear Hno Hyes Hq
                        go_wp2
                        refine wp_region_quiet_below (by kernel_rfl) (by kernel_rfl) ?_
                        (try dsimp only [List.append])
                        (try simp only [Act.put])
                        iterate 4 (go_big_quiet_step (first | (go_at_call 56;exact HO3.out _ _) | (go_at_call 57;exact HA3.out _ _) | (go_at_call 58;exact HR3.out _ _)))
                        (first | go_big_quiet_skip | (refine quiet_load_mid 102 _ rfl b0 (off+k * 16) rfl cs _ RJ.out Tryz.underlying102 rfl IE.out (by rfl) ?_;change wpQuiet _ _ _ _ _ (Act.put _ (some 62) _);simp only [Act.put,List.setIfInBounds_toArray,List.set_cons_zero,List.set_cons_succ]))
                        iterate 3 (go_big_quiet_step (first | (go_at_call 56;exact HO3.out _ _) | (go_at_call 57;exact HA3.out _ _) | (go_at_call 58;exact HR3.out _ _)))
                        (first | go_big_quiet_skip | (refine quiet_load_mid 36 _ rfl w.heap.size (0) rfl cw _ RW.out Tryz.underlying36 rfl IW.out (by rfl) ?_;change wpQuiet _ _ _ _ _ (Act.put _ (some 66) _);simp only [Act.put,List.setIfInBounds_toArray,List.set_cons_zero,List.set_cons_succ]))
                        iterate 10 (go_big_quiet_step (first | (go_at_call 56;exact HO3.out _ _) | (go_at_call 57;exact HA3.out _ _) | (go_at_call 58;exact HR3.out _ _)))
                        (first | go_big_quiet_skip | (refine quiet_load_mid 36 _ rfl w.heap.size (0) rfl cw _ RW.out Tryz.underlying36 rfl IW.out (by rfl) ?_;change wpQuiet _ _ _ _ _ (Act.put _ (some 77) _);simp only [Act.put,List.setIfInBounds_toArray,List.set_cons_zero,List.set_cons_succ]))
                        iterate 9 (go_big_quiet_step (first | (go_at_call 56;exact HO3.out _ _) | (go_at_call 57;exact HA3.out _ _) | (go_at_call 58;exact HR3.out _ _)))
                        refine wpQuiet_nil ?_
                        intro _ hw'
                        obtain ⟨⟨dq,osq⟩,hw''⟩:=hw'
                        subst hw''
                        go_wp2
                        go_ret
                        exact ⟨ret_bool hn.out.symm,B1.out.trans ((B3.out.trans ((below_regrown wr dq osq).mono B3.out.size)).mono B1.out.size)⟩
                      · skip
                        have Hy:=hide (Hyes.out Hq.out)
                        clear Hno Hyes Hq
                        go_wp2
                        refine wp_region_quiet_below (by kernel_rfl) (by kernel_rfl) ?_
                        (try dsimp only [List.append])
                        (try simp only [Act.put])
                        iterate 4 (go_big_quiet_step (first | (go_at_call 56;exact HO3.out _ _) | (go_at_call 57;exact HA3.out _ _) | (go_at_call 58;exact HR3.out _ _)))
                        (first | go_big_quiet_skip | (refine quiet_load_mid 102 _ rfl b0 (off+k * 16) rfl cs _ RJ.out Tryz.underlying102 rfl IE.out (by rfl) ?_;change wpQuiet _ _ _ _ _ (Act.put _ (some 62) _);simp only [Act.put,List.setIfInBounds_toArray,List.set_cons_zero,List.set_cons_succ]))
                        iterate 3 (go_big_quiet_step (first | (go_at_call 56;exact HO3.out _ _) | (go_at_call 57;exact HA3.out _ _) | (go_at_call 58;exact HR3.out _ _)))
                        (first | go_big_quiet_skip | (refine quiet_load_mid 36 _ rfl w.heap.size (0) rfl cw _ RW.out Tryz.underlying36 rfl IW.out (by rfl) ?_;change wpQuiet _ _ _ _ _ (Act.put _ (some 66) _);simp only [Act.put,List.setIfInBounds_toArray,List.set_cons_zero,List.set_cons_succ]))
                        iterate 10 (go_big_quiet_step (first | (go_at_call 56;exact HO3.out _ _) | (go_at_call 57;exact HA3.out _ _) | (go_at_call 58;exact HR3.out _ _)))
                        (first | go_big_quiet_skip | (refine quiet_load_mid 36 _ rfl w.heap.size (0) rfl cw _ RW.out Tryz.underlying36 rfl IW.out (by rfl) ?_;change wpQuiet _ _ _ _ _ (Act.put _ (some 77) _);simp only [Act.put,List.setIfInBounds_toArray,List.set_cons_zero,List.set_cons_succ]))
                        iterate 9 (go_big_quiet_step (first | (go_at_call 56;exact HO3.out _ _) | (go_at_call 57;exact HA3.out _ _) | (go_at_call 58;exact HR3.out _ _)))
                        refine wpQuiet_nil ?_
                        intro _ hw'
                        obtain ⟨⟨dq,osq⟩,hw''⟩:=hw'
                        subst hw''
                        go_wp2
                        go_roundw
                        case rel=>exact ⟨k+1,by omega,by go_num,Hy.out,B3.out.trans ((below_regrown wr dq osq).mono B3.out.size)⟩
                        case measure=>simp [intOf];omega
                    · rw [decide_eq_false hi,Bool.false_and] at Hq
                      have hii:decide (Z < 0)=true:=decide_eq_true (by omega)
                      clear hi
                      have hn:=hide (Hno.out Hq.out)
                      clear Hno Hyes Hq
                      go_wp2
                      refine wp_region_quiet_below (by kernel_rfl) (by kernel_rfl) ?_
                      (try dsimp only [List.append])
                      (try simp only [Act.put])
                      iterate 4 (go_big_quiet_step (first | (go_at_call 56;exact HO3.out _ _) | (go_at_call 57;exact HA3.out _ _) | (go_at_call 58;exact HR3.out _ _)))
                      (first | go_big_quiet_skip | (refine quiet_load_mid 102 _ rfl b0 (off+k * 16) rfl cs _ RJ.out Tryz.underlying102 rfl IE.out (by rfl) ?_;change wpQuiet _ _ _ _ _ (Act.put _ (some 62) _);simp only [Act.put,List.setIfInBounds_toArray,List.set_cons_zero,List.set_cons_succ]))
                      iterate 3 (go_big_quiet_step (first | (go_at_call 56;exact HO3.out _ _) | (go_at_call 57;exact HA3.out _ _) | (go_at_call 58;exact HR3.out _ _)))
                      (first | go_big_quiet_skip | (refine quiet_load_mid 36 _ rfl w.heap.size (0) rfl cw _ RW.out Tryz.underlying36 rfl IW.out (by rfl) ?_;change wpQuiet _ _ _ _ _ (Act.put _ (some 66) _);simp only [Act.put,List.setIfInBounds_toArray,List.set_cons_zero,List.set_cons_succ]))
                      iterate 10 (go_big_quiet_step (first | (go_at_call 56;exact HO3.out _ _) | (go_at_call 57;exact HA3.out _ _) | (go_at_call 58;exact HR3.out _ _)))
                      (first | go_big_quiet_skip | (refine quiet_load_mid 36 _ rfl w.heap.size (0) rfl cw _ RW.out Tryz.underlying36 rfl IW.out (by rfl) ?_;change wpQuiet _ _ _ _ _ (Act.put _ (some 77) _);simp only [Act.put,List.setIfInBounds_toArray,List.set_cons_zero,List.set_cons_succ]))
                      iterate 9 (go_big_quiet_step (first | (go_at_call 56;exact HO3.out _ _) | (go_at_call 57;exact HA3.out _ _) | (go_at_call 58;exact HR3.out _ _)))
                      refine wpQuiet_nil ?_
                      intro _ hw'
                      obtain ⟨⟨dq,osq⟩,hw''⟩:=hw'
                      subst hw''
                      go_wp2
                      go_ret
                      exact ⟨ret_bool hn.out.symm,B1.out.trans ((B3.out.trans ((below_regrown wr dq osq).mono B3.out.size)).mono B1.out.size)⟩
                · rw [allW_yes (fun j hj=>Hlo.out j hj (by omega)),Bool.true_and] at HX
                  have hki:¬ (k:Int) < (ms.length:Int):=by omega
                  have y5:=Y5.out wr hb
                  have r1:=hide (RW.out wr hb)
                  have hBr:=B1.out.trans (hb.mono B1.out.size)
                  clear Hlo HO HA HR Y5 Y2
                  go_wp2_with (first
                    | (refine load_mid 36 _ rfl w.heap.size (0) rfl cw _ r1.out Tryz.underlying36 rfl IW.out (by rfl) ?_)
                    | (go_at_call 59;(with_reducible refine (HN.out wr hBr).mono ?_);rintro e w4 ⟨rfl,hb4⟩)
                    | fail)
                  go_ret
                  exact ⟨ret_bool HX.out.symm,hBr.trans (hb4.mono hBr.size)⟩
        · rw [decide_eq_false h4,Bool.false_and] at HX
          have h4i:(400:Int) < (ms.length:Int):=by omega
          clear HB HO HA HR HN HQ
          go_wp2_with (first
            | (go_at_call 24;(with_reducible refine (HM.out w2 B2).mono ?_);rintro e w3 ⟨rfl,hs3⟩;have hb3:=hs3 w2.heap.size;have B3:=B2.trans (hb3.mono B2.size);have D3:=D2.trans (hb3.mono D2.size);have z3:=Y3.out w3 D3;have z5:=Y5.out w3 D3)
            | (go_at_call 23;(with_reducible refine (HL.out _ B1).mono ?_);rintro e w2 ⟨rfl,hb2⟩;have B2:=B1.trans (hb2.mono B1.size);have D2:=hb2;have y2:=Y2.out w2 D2)
            | fail)
          go_ret
          exact ⟨ret_bool HX.out.symm,B3⟩
      · rw [decide_eq_false h3,Bool.false_and] at HX
        have h3i:(1000:Int) < (bs.length:Int):=by omega
        clear HB HO HA HR HN HQ
        go_wp2_with (first
        | (go_at_call 24;(with_reducible refine (HM.out w2 B2).mono ?_);rintro e w3 ⟨rfl,hs3⟩;have hb3:=hs3 w2.heap.size;have B3:=B2.trans (hb3.mono B2.size);have D3:=D2.trans (hb3.mono D2.size);have z3:=Y3.out w3 D3;have z5:=Y5.out w3 D3)
        | (go_at_call 23;(with_reducible refine (HL.out _ B1).mono ?_);rintro e w2 ⟨rfl,hb2⟩;have B2:=B1.trans (hb2.mono B1.size);have D2:=hb2;have y2:=Y2.out w2 D2)
        | fail)
        go_ret
        exact ⟨ret_bool HX.out.symm,B3⟩
end Go.Proofs.YtckahjabljffjaaGreat
