/- oneBehindOther of the landed code. -/
import Derived.Test.YtaidhenkijjcfaaGreatZrBkOk
import Derived.Test.YtaidhenkijjcfaaGreatZrCaEnd
import Derived.Test.YtaidhenkijjcfaaGreatZrVsOkI
set_option maxRecDepth 20000
set_option maxHeartbeats 8000000
namespace Go.Proofs.YtaidhenkijjcfaaGreat
open Go.RowKit Go.Sort
set_option linter.unusedVariables false
theorem implNoTc_any (r:Int) (vw vh:Value) (ws:List ByteArray) (hs:List Int) (w:World) (hrw:RdS w vw ws) (hrh:RdI w vh hs) (hlw:ws.length<=4000000) (hlh:hs.length<=4000000) :
    Calls Tryz.prog 171 #[tcV r vw vh] w fun e w'=>e=.returned (.bool (noneB r ws hs))/\Below w.heap.size w w':=by
  obtain ⟨a,c,rfl⟩:=hrw.shape
  obtain ⟨a2,c2,rfl⟩:=hrh.shape
  clear hrw hrh
  simp only [tcV]
  have HB:=hide ((Below.refl _ w).alloc (Nat.le_refl _) (.cells #[.int .i64 r,.slice a ws.length c,.slice a2 hs.length c2] 67))
  by_cases h1:r=0
  · by_cases h2:ws.length=0
    · by_cases h3:hs.length=0
      · have Hf:Hid (noneB r ws hs=true):=hide (by unfold noneB;rw [decide_eq_true h1,decide_eq_true h2,decide_eq_true h3];rfl)
        have h2i:((ws.length:Int) == 0)=true:=by rw [beq_iff_eq];omega
        have h3i:((hs.length:Int) == 0)=true:=by rw [beq_iff_eq];omega
        subst h1
        generalize noneB 0 ws hs=X at Hf ⊢
        clear h2 h3
        go_enter Tryz.func171,Tryz.ntmps171
        go_wp2
        go_ret
        exact ⟨ret_bool Hf.out.symm,HB.out⟩
      · have Hf:Hid (noneB r ws hs=false):=hide (by unfold noneB;rw [decide_eq_false h3,Bool.and_false,Bool.and_false])
        have h2i:((ws.length:Int) == 0)=true:=by rw [beq_iff_eq];omega
        have h3i:((hs.length:Int) == 0)=false:=by rw [beq_eq_false_iff_ne];omega
        subst h1
        generalize noneB 0 ws hs=X at Hf ⊢
        clear h2 h3
        go_enter Tryz.func171,Tryz.ntmps171
        go_wp2
        go_ret
        exact ⟨ret_bool Hf.out.symm,HB.out⟩
    · have Hf:Hid (noneB r ws hs=false):=hide (by unfold noneB;rw [decide_eq_false h2,Bool.false_and,Bool.and_false])
      have h2i:((ws.length:Int) == 0)=false:=by rw [beq_eq_false_iff_ne];omega
      subst h1
      generalize noneB 0 ws hs=X at Hf ⊢
      clear h2
      go_enter Tryz.func171,Tryz.ntmps171
      go_wp2
      go_ret
      exact ⟨ret_bool Hf.out.symm,HB.out⟩
  · have Hf:Hid (noneB r ws hs=false):=hide (by unfold noneB;rw [decide_eq_false h1,Bool.false_and])
    have h1i:(r == 0)=false:=by rw [beq_eq_false_iff_ne];exact h1
    generalize noneB r ws hs=X at Hf ⊢
    clear h1
    go_enter Tryz.func171,Tryz.ntmps171
    go_wp2
    go_ret
    exact ⟨ret_bool Hf.out.symm,HB.out⟩
theorem implHighs_any (tr:Int) (vw vh:Value) (tw:List ByteArray) (th:List Int) (w:World) (hw:RdS w vw tw) (hh:RdI w vh th) (hlw:tw.length<=4000000) (hlh:th.length<=4000000) (h1:1<=tr) (h2:tr<=9223372036854775807) :
    Calls Tryz.prog 172 #[tcV tr vw vh] w fun e w'=>e=.returned (.bool (decide (th.length=tw.length) && hisB tr th))/\Below w.heap.size w w':=by
  obtain ⟨aw,cw,rfl⟩:=hw.shape
  obtain ⟨ah,ch,rfl⟩:=hh.shape
  have HX:Hid ((decide (th.length=tw.length) && hisB tr th)=(hisB tr th && decide (th.length=tw.length))):=hide (Bool.and_comm _ _)
  generalize (decide (th.length=tw.length) && hisB tr th)=X at HX ⊢
  simp only [tcV]
  obtain ⟨w1,hw1⟩:∃ x,w.alloc (.cells #[.int .i64 tr,.slice aw tw.length cw,.slice ah th.length ch] 67)=x:=⟨_,rfl⟩
  have b1:Below w.heap.size w w1:=by rw [<- hw1];exact (Below.refl _ w).alloc (Nat.le_refl _) _
  have k1:Blk w1 w.heap.size 67 [.int .i64 tr,.slice aw tw.length cw,.slice ah th.length ch]:=by rw [<- hw1];exact Blk.new w _ _
  have Hh:=hide hh
  have K1:=hide k1
  have HB1:=hide b1
  have x2:=k1.cell 2
  simp only [List.getElem?_cons_zero,List.getElem?_cons_succ] at x2
  have hwr:IntKind.i64.wrap (tr - 1)=tr - 1:=by rw [IntKind.wrap_i64];omega
  clear hw hh k1 b1 h1 h2
  go_enter Tryz.func172,Tryz.ntmps172
  go_wp2
  clear x2 hw1
  go_loopw [8] (fun iv wr=>∃ i:Nat,i<=th.length/\iv=.int .i64 (i:Int)/\(∀ j (hj:j < th.length),j < i->inB th[j] 0 (tr - 1)=true)/\Below w1.heap.size w1 wr) (fun iv _=>th.length - (intOf iv).toNat)
  case atStart=>exact ⟨0,Nat.zero_le _,rfl,fun j _ hj=>by omega,Below.refl _ _⟩
  case round =>
    obtain ⟨i,hi,rfl,hok,hb⟩:=hrel
    have kr:=K1.out.below hb K1.out.lt
    have t0:=kr.cell 0
    have t1:=kr.cell 1
    have t2:=kr.cell 2
    simp only [List.getElem?_cons_zero,List.getElem?_cons_succ] at t0 t1 t2
    have Hok:=hide hok
    have HBr:=hide (HB1.out.trans (hb.mono HB1.out.size))
    clear hok kr
    by_cases hlt:i < th.length
    · obtain ⟨bh,oh,rfl,hc1,hc2,hbh,hch⟩:=Hh.out.at hlt
      have c0:=(HBr.out.cell (p:=⟨bh,oh+i,none⟩) hbh).trans hch
      have hli:(i:Int) < (th.length:Int):=by omega
      have Hno:=hide (his_no tr th i hlt)
      have Hnx:Hid (inB th[i] 0 (tr - 1)=true->∀ j (hj:j < th.length),j < i+1->inB th[j] 0 (tr - 1)=true):=hide (fun h j hj hji=>by
        by_cases e:j=i
        · subst e;exact h
        · exact Hok.out j hj (by omega))
      generalize th[i]=x at c0 hch Hno Hnx
      have Hb:=hide hb
      clear hb hch
      cases hx:inB x 0 (tr - 1)
      · have Hf:=hide (HX.out.trans (by rw [Hno.out hx,Bool.false_and]))
        have HI:=hide (fun W=>implWithinC_any x 0 (tr - 1) W)
        rw [hx] at HI
        clear hx Hnx
        go_wp2_with (go_at_call 140;refine (HI.out _).mono ?_;rintro e w4 ⟨rfl,rfl⟩)
        go_ret
        exact ⟨ret_bool Hf.out.symm,HBr.out⟩
      · have Hnx:=hide (Hnx.out hx)
        have HI:=hide (fun W=>implWithinC_any x 0 (tr - 1) W)
        rw [hx] at HI
        clear hx Hno
        go_wp2_with (go_at_call 140;refine (HI.out _).mono ?_;rintro e w4 ⟨rfl,rfl⟩)
        go_roundw
        case rel=>exact ⟨i+1,by omega,by go_num,Hnx.out,Hb.out⟩
        case measure=>simp [intOf];omega
    · have Hy:=his_yes tr th (fun j hj=>Hok.out j hj (by omega))
      clear hb
      by_cases hlen:th.length=tw.length
      · have Hf:=hide (HX.out.trans (by rw [Hy,Bool.true_and,decide_eq_true hlen]))
        have hli:((th.length:Int) == (tw.length:Int))=true:=by rw [hlen];simp
        clear hlen Hy
        go_wp2
        go_ret
        exact ⟨ret_bool Hf.out.symm,HBr.out⟩
      · have Hf:=hide (HX.out.trans (by rw [Hy,Bool.true_and,decide_eq_false hlen]))
        have hli:((th.length:Int) == (tw.length:Int))=false:=by rw [beq_eq_false_iff_ne];omega
        clear hlen Hy
        go_wp2
        go_ret
        exact ⟨ret_bool Hf.out.symm,HBr.out⟩
def h9B (b:Bk):Bool:=inB b.id 0 100000 && (inB b.ep 0 900 && (inB b.rd 1 10000 && nmB b.md))
theorem implHead_any (b:Bk) (v:Bv) (w:World) (hr:RdK w b v) (hf:FewK b) :
    Calls Tryz.prog 154 #[bkV b v] w fun e w'=>e=.returned (.bool (h9B b))/\Below w.heap.size w w':=by
  have HM:=hide (fun V=>implNameOk_any b.md V hf.ms)
  have HX:Hid (h9B b=(inB b.id 0 100000 && (inB b.ep 0 900 && (inB b.rd 1 10000 && nmB b.md)))):=hide rfl
  generalize h9B b=X at HX ⊢
  clear hf
  obtain ⟨id,ep,rd,mk,qr,qb,qw,tr,tw,th,ts,en,nx,rt⟩:=b
  obtain ⟨vq,vw,vh,vt,vn⟩:=v
  obtain ⟨hq,hw,hh,ht,hn⟩:=hr
  simp only [bkV] at *
  obtain ⟨aq,cq,rfl⟩:=hq.shape
  obtain ⟨aw,cw,rfl⟩:=hw.shape
  obtain ⟨ah,ch,rfl⟩:=hh.shape
  obtain ⟨at_,ct,rfl⟩:=ht.shape
  obtain ⟨an,cn,rfl⟩:=hn.shape
  obtain ⟨w1,hw1⟩:∃ x,w.alloc (.cells #[.int .i64 id,.int .i64 ep,.int .i64 rd,.string mk,.int .i64 qr,.int .i64 qb,.slice aq qw.length cq,.int .i64 tr,.slice aw tw.length cw,.slice ah th.length ch,.slice at_ ts.length ct,.bool en,.slice an nx.length cn,.string rt] 92)=x:=⟨_,rfl⟩
  have b1:Below w.heap.size w w1:=by rw [<- hw1];exact (Below.refl _ w).alloc (Nat.le_refl _) _
  have k1:Blk w1 w.heap.size 92 [.int .i64 id,.int .i64 ep,.int .i64 rd,.string mk,.int .i64 qr,.int .i64 qb,.slice aq qw.length cq,.int .i64 tr,.slice aw tw.length cw,.slice ah th.length ch,.slice at_ ts.length ct,.bool en,.slice an nx.length cn,.string rt]:=by rw [<- hw1];exact Blk.new w _ _
  have K1:=hide k1
  have HB1:=hide b1
  have x0:=k1.cell 0
  have x1:=k1.cell 1
  have x2:=k1.cell 2
  have x3:=k1.cell 3
  simp only [List.getElem?_cons_zero,List.getElem?_cons_succ] at x0 x1 x2 x3
  clear hq hw hh ht hn k1 b1
  generalize nmB mk=M0 at HX HM
  cases h1:inB id 0 100000
  · rw [h1,Bool.false_and] at HX
    go_enter Tryz.func154,Tryz.ntmps154
    go_wp2_with (go_at_call 140;refine (implWithinC_any _ _ _ _).mono ?_;rintro e w4 ⟨rfl,rfl⟩)
    go_ret
    exact ⟨ret_bool HX.out.symm,HB1.out⟩
  · rw [h1,Bool.true_and] at HX
    cases h2:inB ep 0 900
    · rw [h2,Bool.false_and] at HX
      go_enter Tryz.func154,Tryz.ntmps154
      go_wp2_with (go_at_call 140;refine (implWithinC_any _ _ _ _).mono ?_;rintro e w4 ⟨rfl,rfl⟩)
      go_ret
      exact ⟨ret_bool HX.out.symm,HB1.out⟩
    · rw [h2,Bool.true_and] at HX
      cases h3:inB rd 1 10000
      · rw [h3,Bool.false_and] at HX
        go_enter Tryz.func154,Tryz.ntmps154
        go_wp2_with (go_at_call 140;refine (implWithinC_any _ _ _ _).mono ?_;rintro e w4 ⟨rfl,rfl⟩)
        go_ret
        exact ⟨ret_bool HX.out.symm,HB1.out⟩
      · rw [h3,Bool.true_and] at HX
        go_enter Tryz.func154,Tryz.ntmps154
        go_wp2_with (first
          | (go_at_call 140;refine (implWithinC_any _ _ _ _).mono ?_;rintro e w4 ⟨rfl,rfl⟩)
          | (go_at_call 141;refine (HM.out _).mono ?_;rintro e w5 ⟨rfl,rfl⟩))
        go_ret
        exact ⟨ret_bool HX.out.symm,HB1.out⟩
def qcF (qr qb:Int) (qw:List ByteArray) (lr lb:Int):Bool:=rootB qr qb qw || (inB qr 1 lr && (inB qb 0 lb && nmsB qw))
theorem implQcForm_any (qr qb lr lb:Int) (vq:Value) (qw:List ByteArray) (w:World) (hq:RdS w vq qw) (hlq:qw.length<=4000000) (hsq:∀ s ∈ qw,s.size<=maxLen) :
    Calls Tryz.prog 155 #[qcV qr qb vq,.int .i64 lr,.int .i64 lb] w fun e w'=>e=.returned (.bool (qcF qr qb qw lr lb))/\Below w.heap.size w w':=by
  have HX:Hid (qcF qr qb qw lr lb=(rootB qr qb qw || (inB qr 1 lr && (inB qb 0 lb && nmsB qw)))):=hide rfl
  generalize qcF qr qb qw lr lb=X at HX ⊢
  obtain ⟨aq,cq,rfl⟩:=hq.shape
  simp only [qcV]
  obtain ⟨w1,hw1⟩:∃ x,w.alloc (.cells #[.int .i64 qr,.int .i64 qb,.slice aq qw.length cq] 40)=x:=⟨_,rfl⟩
  have b1:Below w.heap.size w w1:=by rw [<- hw1];exact (Below.refl _ w).alloc (Nat.le_refl _) _
  have k1:Blk w1 w.heap.size 40 [.int .i64 qr,.int .i64 qb,.slice aq qw.length cq]:=by rw [<- hw1];exact Blk.new w _ _
  have K1:=hide k1
  have HB1:=hide b1
  have HR:=hide (implIsRootQc_any qr qb (.slice aq qw.length cq) qw w1 (hq.below b1 (Nat.le_refl _)) hlq)
  have HN:=hide (fun V (hV:Below w.heap.size w V)=>implNamesOk_any (.slice aq qw.length cq) qw V (hq.below hV (Nat.le_refl _)) hlq hsq)
  generalize rootB qr qb qw=R0 at HX HR
  generalize nmsB qw=N0 at HX HN
  simp only [qcV] at HR
  have x0:=k1.cell 0
  have x1:=k1.cell 1
  have x2:=k1.cell 2
  simp only [List.getElem?_cons_zero,List.getElem?_cons_succ] at x0 x1 x2
  clear hq k1 b1 hsq
  go_enter Tryz.func155,Tryz.ntmps155
  go_wp2_with fail
  refine HR.out.mono ?_
  rintro e w3 ⟨rfl,hb3⟩
  have hB3:=HB1.out.trans (hb3.mono HB1.out.size)
  have k3:=K1.out.below hb3 K1.out.lt
  have HN3:=hide (HN.out w3 hB3)
  clear x0 x1 x2 HN hw1
  have y0:=k3.cell 0
  have y1:=k3.cell 1
  have y2:=k3.cell 2
  simp only [List.getElem?_cons_zero,List.getElem?_cons_succ] at y0 y1 y2
  have HB3:=hide hB3
  clear k3 hb3 hB3
  cases R0
  · rw [Bool.false_or] at HX
    cases h1:inB qr 1 lr
    · rw [h1,Bool.false_and] at HX
      go_wp2_with (go_at_call 140;refine (implWithinC_any _ _ _ _).mono ?_;rintro e w4 ⟨rfl,rfl⟩)
      go_ret
      exact ⟨ret_bool HX.out.symm,HB3.out⟩
    · rw [h1,Bool.true_and] at HX
      cases h2:inB qb 0 lb
      · rw [h2,Bool.false_and] at HX
        go_wp2_with (go_at_call 140;refine (implWithinC_any _ _ _ _).mono ?_;rintro e w4 ⟨rfl,rfl⟩)
        go_ret
        exact ⟨ret_bool HX.out.symm,HB3.out⟩
      · rw [h2,Bool.true_and] at HX
        go_wp2_with (first
          | (go_at_call 140;refine (implWithinC_any _ _ _ _).mono ?_;rintro e w4 ⟨rfl,rfl⟩)
          | (go_at_call 170;refine HN3.out.mono ?_;rintro e w5 ⟨rfl,rfl⟩))
        go_ret
        exact ⟨ret_bool HX.out.symm,HB3.out⟩
  · rw [Bool.true_or] at HX
    go_wp2
    go_ret
    exact ⟨ret_bool HX.out.symm,HB3.out⟩
def tcF (tr:Int) (tw:List ByteArray) (th:List Int) (lr:Int):Bool:=noneB tr tw th || (inB tr 1 lr && (nmsB tw && (decide (th.length=tw.length) && hisB tr th)))
theorem implTcForm_any (tr lr:Int) (vw vh:Value) (tw:List ByteArray) (th:List Int) (w:World) (hw:RdS w vw tw) (hh:RdI w vh th) (hlw:tw.length<=4000000) (hlh:th.length<=4000000) (hsw:∀ s ∈ tw,s.size<=maxLen) (hbd:tr<=9223372036854775807) :
    Calls Tryz.prog 156 #[tcV tr vw vh,.int .i64 lr] w fun e w'=>e=.returned (.bool (tcF tr tw th lr))/\Below w.heap.size w w':=by
  have HX:Hid (tcF tr tw th lr=(noneB tr tw th || (inB tr 1 lr && (nmsB tw && (decide (th.length=tw.length) && hisB tr th))))):=hide rfl
  generalize tcF tr tw th lr=X at HX ⊢
  obtain ⟨aw,cw,rfl⟩:=hw.shape
  obtain ⟨ah,ch,rfl⟩:=hh.shape
  simp only [tcV]
  obtain ⟨w1,hw1⟩:∃ x,w.alloc (.cells #[.int .i64 tr,.slice aw tw.length cw,.slice ah th.length ch] 67)=x:=⟨_,rfl⟩
  have b1:Below w.heap.size w w1:=by rw [<- hw1];exact (Below.refl _ w).alloc (Nat.le_refl _) _
  have k1:Blk w1 w.heap.size 67 [.int .i64 tr,.slice aw tw.length cw,.slice ah th.length ch]:=by rw [<- hw1];exact Blk.new w _ _
  have K1:=hide k1
  have HB1:=hide b1
  have HR:=hide (implNoTc_any tr (.slice aw tw.length cw) (.slice ah th.length ch) tw th w1 (hw.below b1 (Nat.le_refl _)) (hh.below b1 (Nat.le_refl _)) hlw hlh)
  have HN:=hide (fun V (hV:Below w.heap.size w V)=>implNamesOk_any (.slice aw tw.length cw) tw V (hw.below hV (Nat.le_refl _)) hlw hsw)
  have HH:=hide (fun (h1:1<=tr) V (hV:Below w.heap.size w V)=>implHighs_any tr (.slice aw tw.length cw) (.slice ah th.length ch) tw th V (hw.below hV (Nat.le_refl _)) (hh.below hV (Nat.le_refl _)) hlw hlh h1 hbd)
  generalize noneB tr tw th=R0 at HX HR
  generalize nmsB tw=N0 at HX HN
  generalize (decide (th.length=tw.length) && hisB tr th)=G0 at HX HH
  simp only [tcV] at HR HH
  have x0:=k1.cell 0
  have x1:=k1.cell 1
  have x2:=k1.cell 2
  simp only [List.getElem?_cons_zero,List.getElem?_cons_succ] at x0 x1 x2
  clear hw hh k1 b1 hsw
  go_enter Tryz.func156,Tryz.ntmps156
  go_wp2_with fail
  refine HR.out.mono ?_
  rintro e w3 ⟨rfl,hb3⟩
  have hB3:=HB1.out.trans (hb3.mono HB1.out.size)
  have k3:=K1.out.below hb3 K1.out.lt
  have HN3:=hide (HN.out w3 hB3)
  clear x0 x1 x2 HN hw1
  have y0:=k3.cell 0
  have y1:=k3.cell 1
  have y2:=k3.cell 2
  simp only [List.getElem?_cons_zero,List.getElem?_cons_succ] at y0 y1 y2
  have HB3:=hide hB3
  clear k3 hb3 hB3
  cases R0
  · rw [Bool.false_or] at HX
    cases h1:inB tr 1 lr
    · rw [h1,Bool.false_and] at HX
      go_wp2_with (go_at_call 140;refine (implWithinC_any _ _ _ _).mono ?_;rintro e w4 ⟨rfl,rfl⟩)
      go_ret
      exact ⟨ret_bool HX.out.symm,HB3.out⟩
    · rw [h1,Bool.true_and] at HX
      have Hr1:Hid (1<=tr):=hide (by unfold inB at h1;simp at h1;exact h1.1)
      have HH3:=hide (HH.out Hr1.out w3 HB3.out)
      cases N0
      · rw [Bool.false_and] at HX
        go_wp2_with (first
          | (go_at_call 140;refine (implWithinC_any _ _ _ _).mono ?_;rintro e w4 ⟨rfl,rfl⟩)
          | (go_at_call 170;refine HN3.out.mono ?_;rintro e w5 ⟨rfl,rfl⟩))
        go_ret
        exact ⟨ret_bool HX.out.symm,HB3.out⟩
      · rw [Bool.true_and] at HX
        go_wp2_with (first
          | (go_at_call 140;refine (implWithinC_any _ _ _ _).mono ?_;rintro e w4 ⟨rfl,rfl⟩)
          | (go_at_call 170;refine HN3.out.mono ?_;rintro e w5 ⟨rfl,rfl⟩)
          | (go_at_call 172;refine HH3.out.mono ?_;rintro e w6 ⟨rfl,hb6⟩))
        go_ret
        exact ⟨ret_bool HX.out.symm,HB3.out.trans (hb6.mono HB3.out.size)⟩
  · rw [Bool.true_or] at HX
    go_wp2
    go_ret
    exact ⟨ret_bool HX.out.symm,HB3.out⟩
theorem implTxs_any (v:Value) (ts:List Tx5) (w:World) (hr:RdT w v ts) (hl:ts.length<=4000000) (hs:∀ t ∈ ts,t.2.1.size<=maxLen/\t.2.2.1.size<=maxLen) :
    Calls Tryz.prog 157 #[v] w fun e w'=>e=.returned (.bool (decide (ts.length<=4) && ts.all txB))/\Below w.heap.size w w':=by
  obtain ⟨X,hX⟩:∃ X,X=(decide (ts.length<=4) && ts.all txB):=⟨_,rfl⟩
  rw [<- hX]
  have HX:=hide hX
  clear hX
  obtain ⟨at_,ct,rfl⟩:=hr.shape
  have Ht:=hide hr
  have Hs:=hide hs
  clear hr hs
  by_cases h4:ts.length<=4
  · rw [decide_eq_true h4,Bool.true_and] at HX
    have h4i:¬ (4:Int) < (ts.length:Int):=by omega
    go_enter Tryz.func157,Tryz.ntmps157
    go_wp2
    go_loopw [10] (fun iv wr=>∃ i:Nat,i<=ts.length/\iv=.int .i64 (i:Int)/\(∀ j (hj:j < ts.length),j < i->txB ts[j]=true)/\Below w.heap.size w wr) (fun iv _=>ts.length - (intOf iv).toNat)
    case atStart=>exact ⟨0,Nat.zero_le _,rfl,fun j _ hj=>by omega,Below.refl _ _⟩
    case round =>
      obtain ⟨i,hi,rfl,hok,hb⟩:=hrel
      have Hok:=hide hok
      clear hok
      by_cases hlt:i < ts.length
      · obtain ⟨bt,ot,rfl,hc1,hc2,hbt,hat⟩:=Ht.out.at9 hlt
        have hli:(i:Int) < (ts.length:Int):=by omega
        have hat':=hat.below hb hbt
        have hsz:=Hs.out ts[i] (List.getElem_mem _)
        have HO:=hide (fun V=>implTxOk_any ts[i] V hsz.1 hsz.2)
        have Hno:=hide (txs_no ts i hlt)
        have Hnx:Hid (txB ts[i]=true->∀ j (hj:j < ts.length),j < i+1->txB ts[j]=true):=hide (fun h j hj hji=>by
          by_cases e:j=i
          · subst e;exact h
          · exact Hok.out j hj (by omega))
        generalize ts[i]=tx at hat hat' HO Hno Hnx hsz
        obtain ⟨c0,c1,c2,c3,c4⟩:=hat'
        obtain ⟨kd,fr,tn9,am,no⟩:=tx
        simp only [txV] at HO c0 c1 c2 c3 c4
        obtain ⟨w1,hw1⟩:∃ x,wr.alloc (.cells #[.int .i64 kd,.string fr,.string tn9,.int .i64 am,.int .i64 no] 177)=x:=⟨_,rfl⟩
        have b1:Below w.heap.size w w1:=by rw [<- hw1];exact hb.alloc hb.size _
        have k1:Blk w1 wr.heap.size 177 [.int .i64 kd,.string fr,.string tn9,.int .i64 am,.int .i64 no]:=by rw [<- hw1];exact Blk.new wr _ _
        have x0:=k1.cell 0
        have x1:=k1.cell 1
        have x2:=k1.cell 2
        have x3:=k1.cell 3
        have x4:=k1.cell 4
        simp only [List.getElem?_cons_zero,List.getElem?_cons_succ] at x0 x1 x2 x3 x4
        have HB1:=hide b1
        clear hat hb hsz b1 k1
        cases hx:txB (kd,fr,tn9,am,no)
        · have Hfl:=hide (HX.out.trans (Hno.out hx))
          rw [hx] at HO
          clear hx Hnx
          go_wp2_with fail
          refine (HO.out _).mono ?_
          rintro e w6 ⟨rfl,hb6⟩
          have HB6:=hide (HB1.out.trans (hb6.mono HB1.out.size))
          clear hb6 c0 c1 c2 c3 c4 x0 x1 x2 x3 x4
          go_wp2
          go_ret
          exact ⟨ret_bool Hfl.out.symm,HB6.out⟩
        · have Hnx:=hide (Hnx.out hx)
          rw [hx] at HO
          clear hx Hno
          go_wp2_with fail
          refine (HO.out _).mono ?_
          rintro e w6 ⟨rfl,hb6⟩
          have HB6:=hide (HB1.out.trans (hb6.mono HB1.out.size))
          clear hb6 c0 c1 c2 c3 c4 x0 x1 x2 x3 x4
          go_wp2
          go_roundw
          case rel=>exact ⟨i+1,by omega,by go_num,Hnx.out,HB6.out⟩
          case measure=>simp [intOf];omega
      · have Hfl:=hide (HX.out.trans (txs_yes ts (fun j hj=>Hok.out j hj (by omega))))
        have Hb:=hide hb
        clear hb
        go_wp2
        go_ret
        exact ⟨ret_bool Hfl.out.symm,Hb.out⟩
  · rw [decide_eq_false h4,Bool.false_and] at HX
    have h4i:(4:Int) < (ts.length:Int):=by omega
    go_enter Tryz.func157,Tryz.ntmps157
    go_wp2
    go_ret
    exact ⟨ret_bool HX.out.symm,Below.refl _ _⟩
theorem implEnd_any (b:Bk) (v:Bv) (w:World) (hr:RdK w b v) (hf:FewK b) :
    Calls Tryz.prog 158 #[bkV b v] w fun e w'=>e=.returned (.bool (e9B b))/\Below w.heap.size w w':=by
  have hfn:=hf.n
  have hfs:=hf.ns
  have HE:Hid (e9B b=if b.en=true then setB b.nx && decide (b.rt.size=32) else decide (b.nx.length=0) && decide (b.rt=⟨#[]⟩)):=hide rfl
  generalize e9B b=X at HE ⊢
  clear hf
  obtain ⟨id,ep,rd,mk,qr,qb,qw,tr,tw,th,ts,en,nx,rt⟩:=b
  obtain ⟨vq,vw,vh,vt,vn⟩:=v
  obtain ⟨hq,hw,hh,ht,hn⟩:=hr
  simp only [bkV] at *
  obtain ⟨aq,cq,rfl⟩:=hq.shape
  obtain ⟨aw,cw,rfl⟩:=hw.shape
  obtain ⟨ah,ch,rfl⟩:=hh.shape
  obtain ⟨at_,ct,rfl⟩:=ht.shape
  obtain ⟨an,cn,rfl⟩:=hn.shape
  obtain ⟨w1,hw1⟩:∃ x,w.alloc (.cells #[.int .i64 id,.int .i64 ep,.int .i64 rd,.string mk,.int .i64 qr,.int .i64 qb,.slice aq qw.length cq,.int .i64 tr,.slice aw tw.length cw,.slice ah th.length ch,.slice at_ ts.length ct,.bool en,.slice an nx.length cn,.string rt] 92)=x:=⟨_,rfl⟩
  have b1:Below w.heap.size w w1:=by rw [<- hw1];exact (Below.refl _ w).alloc (Nat.le_refl _) _
  have k1:Blk w1 w.heap.size 92 [.int .i64 id,.int .i64 ep,.int .i64 rd,.string mk,.int .i64 qr,.int .i64 qb,.slice aq qw.length cq,.int .i64 tr,.slice aw tw.length cw,.slice ah th.length ch,.slice at_ ts.length ct,.bool en,.slice an nx.length cn,.string rt]:=by rw [<- hw1];exact Blk.new w _ _
  have K1:=hide k1
  have HB1:=hide b1
  have HS:=hide (implSetOk_any (.slice an nx.length cn) nx w1 (hn.below b1 (Nat.le_refl _)) hfn hfs)
  have x11:=k1.cell 11
  have x12:=k1.cell 12
  have x13:=k1.cell 13
  simp only [List.getElem?_cons_zero,List.getElem?_cons_succ] at x11 x12 x13
  clear hq hw hh ht hn k1 b1 hfs
  cases en
  · rw [if_neg (by simp)] at HE
    by_cases h5:nx.length=0
    · have h5i:((nx.length:Int) == 0)=true:=by rw [beq_iff_eq];omega
      by_cases h6:rt=⟨#[]⟩
      · have Hfl:=hide (HE.out.trans (by rw [decide_eq_true h5,decide_eq_true h6,Bool.true_and]))
        subst h6
        clear h5 HE
        go_enter Tryz.func158,Tryz.ntmps158
        go_wp2
        go_ret
        exact ⟨ret_bool Hfl.out.symm,HB1.out⟩
      · have Hfl:=hide (HE.out.trans (by rw [decide_eq_false h6,Bool.and_false]))
        have h6b:=noText h6
        clear h5 h6 HE
        go_enter Tryz.func158,Tryz.ntmps158
        go_wp2
        go_ret
        exact ⟨ret_bool Hfl.out.symm,HB1.out⟩
    · have Hfl:=hide (HE.out.trans (by rw [decide_eq_false h5,Bool.false_and]))
      have h5i:((nx.length:Int) == 0)=false:=by rw [beq_eq_false_iff_ne];omega
      clear h5 HE
      go_enter Tryz.func158,Tryz.ntmps158
      go_wp2
      go_ret
      exact ⟨ret_bool Hfl.out.symm,HB1.out⟩
  · rw [if_pos rfl] at HE
    generalize setB nx=S0 at HE HS
    cases S0
    · have Hfl:=hide (HE.out.trans (by rw [Bool.false_and]))
      clear HE
      go_enter Tryz.func158,Tryz.ntmps158
      go_wp2_with (go_at_call 98;refine HS.out.mono ?_;rintro e w7 ⟨rfl,hb7⟩)
      go_ret
      exact ⟨ret_bool Hfl.out.symm,HB1.out.trans (hb7.mono HB1.out.size)⟩
    · by_cases h8:rt.size=32
      · have Hfl:=hide (HE.out.trans (by rw [decide_eq_true h8,Bool.true_and]))
        have h8i:((rt.size:Int) == 32)=true:=by rw [beq_iff_eq];omega
        clear h8 HE
        go_enter Tryz.func158,Tryz.ntmps158
        go_wp2_with (go_at_call 98;refine HS.out.mono ?_;rintro e w7 ⟨rfl,hb7⟩;have k7:=K1.out.below hb7 K1.out.lt;have u13:=k7.cell 13;simp only [List.getElem?_cons_zero,List.getElem?_cons_succ] at u13)
        go_ret
        exact ⟨ret_bool Hfl.out.symm,HB1.out.trans (hb7.mono HB1.out.size)⟩
      · have Hfl:=hide (HE.out.trans (by rw [decide_eq_false h8,Bool.true_and]))
        have h8i:((rt.size:Int) == 32)=false:=by rw [beq_eq_false_iff_ne];omega
        clear h8 HE
        go_enter Tryz.func158,Tryz.ntmps158
        go_wp2_with (go_at_call 98;refine HS.out.mono ?_;rintro e w7 ⟨rfl,hb7⟩;have k7:=K1.out.below hb7 K1.out.lt;have u13:=k7.cell 13;simp only [List.getElem?_cons_zero,List.getElem?_cons_succ] at u13)
        go_ret
        exact ⟨ret_bool Hfl.out.symm,HB1.out.trans (hb7.mono HB1.out.size)⟩
theorem implBlockOk_any (b:Bk) (v:Bv) (w:World) (hr:RdK w b v) (hf:FewK b) (hbd:-9223372036854775808<=b.tr/\b.tr<=9223372036854775807) :
    Calls Tryz.prog 142 #[bkV b v] w fun e w'=>e=.returned (.bool (blB b))/\Below w.heap.size w w':=by
  have HH:=hide (fun V (hV:Below w.heap.size w V)=>implHead_any b v V (hr.below hV (Nat.le_refl _)) hf)
  have HQ:Hid (∀ V,Below w.heap.size w V->Calls Tryz.prog 155 #[qcV b.qr b.qb v.q,.int .i64 (wrap64 (b.rd - 1)),.int .i64 (wrap64 (b.id - 1))] V fun e w'=>e=.returned (.bool (q9B b))/\Below V.heap.size V w') :=
    hide (fun V hV=>implQcForm_any b.qr b.qb _ _ v.q b.qw V (hr.q.below hV (Nat.le_refl _)) hf.q hf.qs)
  have HT:Hid (∀ V,Below w.heap.size w V->Calls Tryz.prog 156 #[tcV b.tr v.w v.h,.int .i64 (wrap64 (b.rd - 1))] V fun e w'=>e=.returned (.bool (t9B b))/\Below V.heap.size V w') :=
    hide (fun V hV=>implTcForm_any b.tr _ v.w v.h b.tw b.th V (hr.p.below hV (Nat.le_refl _)) (hr.h.below hV (Nat.le_refl _)) hf.w hf.h hf.ws hbd.2)
  have HO:=hide (fun V (hV:Below w.heap.size w V)=>implTxs_any v.t b.ts V (hr.t.below hV (Nat.le_refl _)) hf.t hf.ts)
  have HE:=hide (fun V (hV:Below w.heap.size w V)=>implEnd_any b v V (hr.below hV (Nat.le_refl _)) hf)
  have HX:Hid (blB b=(h9B b && (q9B b && (t9B b && ((decide (b.ts.length<=4) && b.ts.all txB) && e9B b))))):=hide (by
    unfold blB h9B
    simp only [Bool.and_assoc])
  generalize blB b=X at HX ⊢
  generalize h9B b=H0 at HX HH
  generalize q9B b=Q0 at HX HQ
  generalize t9B b=T0 at HX HT
  generalize (decide (b.ts.length<=4) && b.ts.all txB)=O0 at HX HO
  generalize e9B b=E0 at HX HE
  clear hf hbd
  obtain ⟨id,ep,rd,mk,qr,qb,qw,tr,tw,th,ts,en,nx,rt⟩:=b
  obtain ⟨vq,vw,vh,vt,vn⟩:=v
  obtain ⟨hq,hw,hh,ht,hn⟩:=hr
  simp only [bkV,qcV,tcV] at *
  have e1:IntKind.i64.wrap (rd - 1)=wrap64 (rd - 1):=by rw [IntKind.wrap_i64];unfold wrap64;omega
  have e2:IntKind.i64.wrap (id - 1)=wrap64 (id - 1):=by rw [IntKind.wrap_i64];unfold wrap64;omega
  generalize wrap64 (rd - 1)=D1 at HQ HT e1
  generalize wrap64 (id - 1)=D2 at HQ e2
  obtain ⟨aq,cq,rfl⟩:=hq.shape
  obtain ⟨aw,cw,rfl⟩:=hw.shape
  obtain ⟨ah,ch,rfl⟩:=hh.shape
  obtain ⟨at_,ct,rfl⟩:=ht.shape
  obtain ⟨an,cn,rfl⟩:=hn.shape
  obtain ⟨w1,hw1⟩:∃ x,w.alloc (.cells #[.int .i64 id,.int .i64 ep,.int .i64 rd,.string mk,.int .i64 qr,.int .i64 qb,.slice aq qw.length cq,.int .i64 tr,.slice aw tw.length cw,.slice ah th.length ch,.slice at_ ts.length ct,.bool en,.slice an nx.length cn,.string rt] 92)=x:=⟨_,rfl⟩
  have b1:Below w.heap.size w w1:=by rw [<- hw1];exact (Below.refl _ w).alloc (Nat.le_refl _) _
  have k1:Blk w1 w.heap.size 92 [.int .i64 id,.int .i64 ep,.int .i64 rd,.string mk,.int .i64 qr,.int .i64 qb,.slice aq qw.length cq,.int .i64 tr,.slice aw tw.length cw,.slice ah th.length ch,.slice at_ ts.length ct,.bool en,.slice an nx.length cn,.string rt]:=by rw [<- hw1];exact Blk.new w _ _
  have K1:=hide k1
  have HB1:=hide b1
  clear hq hw hh ht hn
  have HH1:=hide (HH.out w1 b1)
  have x0:=k1.cell 0
  have x1:=k1.cell 1
  have x2:=k1.cell 2
  have x3:=k1.cell 3
  have x4:=k1.cell 4
  have x5:=k1.cell 5
  have x6:=k1.cell 6
  have x7:=k1.cell 7
  have x8:=k1.cell 8
  have x9:=k1.cell 9
  have x10:=k1.cell 10
  have x11:=k1.cell 11
  have x12:=k1.cell 12
  have x13:=k1.cell 13
  simp only [List.getElem?_cons_zero,List.getElem?_cons_succ] at x0 x1 x2 x3 x4 x5 x6 x7 x8 x9 x10 x11 x12 x13
  clear k1 b1 HH
  cases H0
  · rw [Bool.false_and] at HX
    go_enter Tryz.func142,Tryz.ntmps142
    go_wp2_with (first
        | (go_at_call 154;refine HH1.out.mono ?_;rintro e w2 ⟨rfl,hb2⟩;have hB2:=HB1.out.trans (hb2.mono HB1.out.size);have k2:=K1.out.below hb2 K1.out.lt;have y0:=k2.cell 0;have y1:=k2.cell 1;have y2:=k2.cell 2;have y3:=k2.cell 3;have y4:=k2.cell 4;have y5:=k2.cell 5;have y6:=k2.cell 6;have y7:=k2.cell 7;have y8:=k2.cell 8;have y9:=k2.cell 9;have y10:=k2.cell 10;have y11:=k2.cell 11;have y12:=k2.cell 12;have y13:=k2.cell 13;simp only [List.getElem?_cons_zero,List.getElem?_cons_succ] at y0 y1 y2 y3 y4 y5 y6 y7 y8 y9 y10 y11 y12 y13))
    go_ret
    exact ⟨ret_bool HX.out.symm,hB2⟩
  · rw [Bool.true_and] at HX
    cases Q0
    · rw [Bool.false_and] at HX
      go_enter Tryz.func142,Tryz.ntmps142
      go_wp2_with (first
          | (go_at_call 154;refine HH1.out.mono ?_;rintro e w2 ⟨rfl,hb2⟩;have hB2:=HB1.out.trans (hb2.mono HB1.out.size);have k2:=K1.out.below hb2 K1.out.lt;have y0:=k2.cell 0;have y1:=k2.cell 1;have y2:=k2.cell 2;have y3:=k2.cell 3;have y4:=k2.cell 4;have y5:=k2.cell 5;have y6:=k2.cell 6;have y7:=k2.cell 7;have y8:=k2.cell 8;have y9:=k2.cell 9;have y10:=k2.cell 10;have y11:=k2.cell 11;have y12:=k2.cell 12;have y13:=k2.cell 13;simp only [List.getElem?_cons_zero,List.getElem?_cons_succ] at y0 y1 y2 y3 y4 y5 y6 y7 y8 y9 y10 y11 y12 y13)
          | (go_at_call 155;refine (HQ.out w2 hB2).mono ?_;rintro e w3 ⟨rfl,hb3⟩;have hB3:=hB2.trans (hb3.mono hB2.size);have k3:=k2.below hb3 k2.lt;have z0:=k3.cell 0;have z1:=k3.cell 1;have z2:=k3.cell 2;have z3:=k3.cell 3;have z4:=k3.cell 4;have z5:=k3.cell 5;have z6:=k3.cell 6;have z7:=k3.cell 7;have z8:=k3.cell 8;have z9:=k3.cell 9;have z10:=k3.cell 10;have z11:=k3.cell 11;have z12:=k3.cell 12;have z13:=k3.cell 13;simp only [List.getElem?_cons_zero,List.getElem?_cons_succ] at z0 z1 z2 z3 z4 z5 z6 z7 z8 z9 z10 z11 z12 z13))
      go_ret
      exact ⟨ret_bool HX.out.symm,hB3⟩
    · rw [Bool.true_and] at HX
      cases T0
      · rw [Bool.false_and] at HX
        go_enter Tryz.func142,Tryz.ntmps142
        go_wp2_with (first
            | (go_at_call 154;refine HH1.out.mono ?_;rintro e w2 ⟨rfl,hb2⟩;have hB2:=HB1.out.trans (hb2.mono HB1.out.size);have k2:=K1.out.below hb2 K1.out.lt;have y0:=k2.cell 0;have y1:=k2.cell 1;have y2:=k2.cell 2;have y3:=k2.cell 3;have y4:=k2.cell 4;have y5:=k2.cell 5;have y6:=k2.cell 6;have y7:=k2.cell 7;have y8:=k2.cell 8;have y9:=k2.cell 9;have y10:=k2.cell 10;have y11:=k2.cell 11;have y12:=k2.cell 12;have y13:=k2.cell 13;simp only [List.getElem?_cons_zero,List.getElem?_cons_succ] at y0 y1 y2 y3 y4 y5 y6 y7 y8 y9 y10 y11 y12 y13)
            | (go_at_call 155;refine (HQ.out w2 hB2).mono ?_;rintro e w3 ⟨rfl,hb3⟩;have hB3:=hB2.trans (hb3.mono hB2.size);have k3:=k2.below hb3 k2.lt;have z0:=k3.cell 0;have z1:=k3.cell 1;have z2:=k3.cell 2;have z3:=k3.cell 3;have z4:=k3.cell 4;have z5:=k3.cell 5;have z6:=k3.cell 6;have z7:=k3.cell 7;have z8:=k3.cell 8;have z9:=k3.cell 9;have z10:=k3.cell 10;have z11:=k3.cell 11;have z12:=k3.cell 12;have z13:=k3.cell 13;simp only [List.getElem?_cons_zero,List.getElem?_cons_succ] at z0 z1 z2 z3 z4 z5 z6 z7 z8 z9 z10 z11 z12 z13)
            | (go_at_call 156;refine (HT.out w3 hB3).mono ?_;rintro e w4 ⟨rfl,hb4⟩;have hB4:=hB3.trans (hb4.mono hB3.size);have k4:=k3.below hb4 k3.lt;have u0:=k4.cell 0;have u1:=k4.cell 1;have u2:=k4.cell 2;have u3:=k4.cell 3;have u4:=k4.cell 4;have u5:=k4.cell 5;have u6:=k4.cell 6;have u7:=k4.cell 7;have u8:=k4.cell 8;have u9:=k4.cell 9;have u10:=k4.cell 10;have u11:=k4.cell 11;have u12:=k4.cell 12;have u13:=k4.cell 13;simp only [List.getElem?_cons_zero,List.getElem?_cons_succ] at u0 u1 u2 u3 u4 u5 u6 u7 u8 u9 u10 u11 u12 u13))
        go_ret
        exact ⟨ret_bool HX.out.symm,hB4⟩
      · rw [Bool.true_and] at HX
        cases O0
        · rw [Bool.false_and] at HX
          go_enter Tryz.func142,Tryz.ntmps142
          go_wp2_with (first
              | (go_at_call 154;refine HH1.out.mono ?_;rintro e w2 ⟨rfl,hb2⟩;have hB2:=HB1.out.trans (hb2.mono HB1.out.size);have k2:=K1.out.below hb2 K1.out.lt;have y0:=k2.cell 0;have y1:=k2.cell 1;have y2:=k2.cell 2;have y3:=k2.cell 3;have y4:=k2.cell 4;have y5:=k2.cell 5;have y6:=k2.cell 6;have y7:=k2.cell 7;have y8:=k2.cell 8;have y9:=k2.cell 9;have y10:=k2.cell 10;have y11:=k2.cell 11;have y12:=k2.cell 12;have y13:=k2.cell 13;simp only [List.getElem?_cons_zero,List.getElem?_cons_succ] at y0 y1 y2 y3 y4 y5 y6 y7 y8 y9 y10 y11 y12 y13)
              | (go_at_call 155;refine (HQ.out w2 hB2).mono ?_;rintro e w3 ⟨rfl,hb3⟩;have hB3:=hB2.trans (hb3.mono hB2.size);have k3:=k2.below hb3 k2.lt;have z0:=k3.cell 0;have z1:=k3.cell 1;have z2:=k3.cell 2;have z3:=k3.cell 3;have z4:=k3.cell 4;have z5:=k3.cell 5;have z6:=k3.cell 6;have z7:=k3.cell 7;have z8:=k3.cell 8;have z9:=k3.cell 9;have z10:=k3.cell 10;have z11:=k3.cell 11;have z12:=k3.cell 12;have z13:=k3.cell 13;simp only [List.getElem?_cons_zero,List.getElem?_cons_succ] at z0 z1 z2 z3 z4 z5 z6 z7 z8 z9 z10 z11 z12 z13)
              | (go_at_call 156;refine (HT.out w3 hB3).mono ?_;rintro e w4 ⟨rfl,hb4⟩;have hB4:=hB3.trans (hb4.mono hB3.size);have k4:=k3.below hb4 k3.lt;have u0:=k4.cell 0;have u1:=k4.cell 1;have u2:=k4.cell 2;have u3:=k4.cell 3;have u4:=k4.cell 4;have u5:=k4.cell 5;have u6:=k4.cell 6;have u7:=k4.cell 7;have u8:=k4.cell 8;have u9:=k4.cell 9;have u10:=k4.cell 10;have u11:=k4.cell 11;have u12:=k4.cell 12;have u13:=k4.cell 13;simp only [List.getElem?_cons_zero,List.getElem?_cons_succ] at u0 u1 u2 u3 u4 u5 u6 u7 u8 u9 u10 u11 u12 u13)
              | (go_at_call 157;refine (HO.out w4 hB4).mono ?_;rintro e w5 ⟨rfl,hb5⟩;have hB5:=hB4.trans (hb5.mono hB4.size);have k5:=k4.below hb5 k4.lt;have s0:=k5.cell 0;have s1:=k5.cell 1;have s2:=k5.cell 2;have s3:=k5.cell 3;have s4:=k5.cell 4;have s5:=k5.cell 5;have s6:=k5.cell 6;have s7:=k5.cell 7;have s8:=k5.cell 8;have s9:=k5.cell 9;have s10:=k5.cell 10;have s11:=k5.cell 11;have s12:=k5.cell 12;have s13:=k5.cell 13;simp only [List.getElem?_cons_zero,List.getElem?_cons_succ] at s0 s1 s2 s3 s4 s5 s6 s7 s8 s9 s10 s11 s12 s13))
          go_ret
          exact ⟨ret_bool HX.out.symm,hB5⟩
        · rw [Bool.true_and] at HX
          go_enter Tryz.func142,Tryz.ntmps142
          go_wp2_with (first
              | (go_at_call 154;refine HH1.out.mono ?_;rintro e w2 ⟨rfl,hb2⟩;have hB2:=HB1.out.trans (hb2.mono HB1.out.size);have k2:=K1.out.below hb2 K1.out.lt;have y0:=k2.cell 0;have y1:=k2.cell 1;have y2:=k2.cell 2;have y3:=k2.cell 3;have y4:=k2.cell 4;have y5:=k2.cell 5;have y6:=k2.cell 6;have y7:=k2.cell 7;have y8:=k2.cell 8;have y9:=k2.cell 9;have y10:=k2.cell 10;have y11:=k2.cell 11;have y12:=k2.cell 12;have y13:=k2.cell 13;simp only [List.getElem?_cons_zero,List.getElem?_cons_succ] at y0 y1 y2 y3 y4 y5 y6 y7 y8 y9 y10 y11 y12 y13)
              | (go_at_call 155;refine (HQ.out w2 hB2).mono ?_;rintro e w3 ⟨rfl,hb3⟩;have hB3:=hB2.trans (hb3.mono hB2.size);have k3:=k2.below hb3 k2.lt;have z0:=k3.cell 0;have z1:=k3.cell 1;have z2:=k3.cell 2;have z3:=k3.cell 3;have z4:=k3.cell 4;have z5:=k3.cell 5;have z6:=k3.cell 6;have z7:=k3.cell 7;have z8:=k3.cell 8;have z9:=k3.cell 9;have z10:=k3.cell 10;have z11:=k3.cell 11;have z12:=k3.cell 12;have z13:=k3.cell 13;simp only [List.getElem?_cons_zero,List.getElem?_cons_succ] at z0 z1 z2 z3 z4 z5 z6 z7 z8 z9 z10 z11 z12 z13)
              | (go_at_call 156;refine (HT.out w3 hB3).mono ?_;rintro e w4 ⟨rfl,hb4⟩;have hB4:=hB3.trans (hb4.mono hB3.size);have k4:=k3.below hb4 k3.lt;have u0:=k4.cell 0;have u1:=k4.cell 1;have u2:=k4.cell 2;have u3:=k4.cell 3;have u4:=k4.cell 4;have u5:=k4.cell 5;have u6:=k4.cell 6;have u7:=k4.cell 7;have u8:=k4.cell 8;have u9:=k4.cell 9;have u10:=k4.cell 10;have u11:=k4.cell 11;have u12:=k4.cell 12;have u13:=k4.cell 13;simp only [List.getElem?_cons_zero,List.getElem?_cons_succ] at u0 u1 u2 u3 u4 u5 u6 u7 u8 u9 u10 u11 u12 u13)
              | (go_at_call 157;refine (HO.out w4 hB4).mono ?_;rintro e w5 ⟨rfl,hb5⟩;have hB5:=hB4.trans (hb5.mono hB4.size);have k5:=k4.below hb5 k4.lt;have s0:=k5.cell 0;have s1:=k5.cell 1;have s2:=k5.cell 2;have s3:=k5.cell 3;have s4:=k5.cell 4;have s5:=k5.cell 5;have s6:=k5.cell 6;have s7:=k5.cell 7;have s8:=k5.cell 8;have s9:=k5.cell 9;have s10:=k5.cell 10;have s11:=k5.cell 11;have s12:=k5.cell 12;have s13:=k5.cell 13;simp only [List.getElem?_cons_zero,List.getElem?_cons_succ] at s0 s1 s2 s3 s4 s5 s6 s7 s8 s9 s10 s11 s12 s13)
              | (go_at_call 158;refine (HE.out w5 hB5).mono ?_;rintro e w6 ⟨rfl,hb6⟩;have hB6:=hB5.trans (hb6.mono hB5.size)))
          go_ret
          exact ⟨ret_bool HX.out.symm,hB6⟩
end Go.Proofs.YtaidhenkijjcfaaGreat
namespace Go.Proofs.YtaidhenkijjcfaaGreat
open Go.RowKit Go.Sort
set_option linter.unusedVariables false
theorem oneBehind_any (e:Int) (vs v:Value) (st:List Vl) (l:List Bk) (w:World) (hr:RdV w vs st) (hk:RdKs w v l) (hls:st.length<=4000000) (hl:l.length<=4000000) (hf:∀ b ∈ l,FewK b) (hbd:∀ b ∈ l,-9223372036854775808<=b.tr/\b.tr<=9223372036854775807) (hm:ModV st) :
    Calls Tryz.prog 99 #[.agg #[.int .i64 e,vs],v] w fun en w'=>en=.returned (.bool (lkB e st l))/\Below w.heap.size w w':=by
  obtain ⟨aS,cS,rfl⟩:=hr.shape
  obtain ⟨aL,cL,rfl⟩:=hk.shape
  obtain ⟨w1,hw1⟩:∃ x,w.alloc (.cells #[.int .i64 e,.slice aS st.length cS] 35)=x:=⟨_,rfl⟩
  have b1:Below w.heap.size w w1:=by rw [<- hw1];exact (Below.refl _ w).alloc (Nat.le_refl _) _
  have K1:=hide (show Blk w1 w.heap.size 35 [.int .i64 e,.slice aS st.length cS] from by rw [<- hw1];exact Blk.new w _ _)
  have Hr:=hide (hr.below b1 (Nat.le_refl _))
  have Hk:=hide (hk.below b1 (Nat.le_refl _))
  have Hf:=hide hf
  have Hd:=hide hbd
  have Hm:=hide hm
  have B1:=hide b1
  have IB:=hide Tryz.infoK14
  clear hr hk hf hbd hm b1
  go_enter Tryz.func99,Tryz.ntmps99
  go_upto_region 1 with fail
  (try rw [hw1])
  clear hw1
  go_wp2
  go_loopw [9] (fun i wr=>∃ k:Nat,k<=l.length/\i=.int .i64 k/\(∀ j (h:j < l.length),j < k->lkAt e st l j h=true)/\Below w1.heap.size w1 wr) (fun i _=>l.length - (intOf i).toNat)
  case atStart=>exact ⟨0,Nat.zero_le _,rfl,fun j _ h=>by omega,Below.refl _ _⟩
  case round =>
    obtain ⟨k,hk,rfl,hno,hb⟩:=hrel
    have Hall:=hide hno
    have Hb:=hide hb
    clear hno
    by_cases hlt:k < l.length
    · obtain ⟨b,off,rfl,hbw,hcap,hat⟩:=Hk.out.atC (by omega)
      obtain ⟨bv,hk1,hrk⟩:=hat k hlt
      have hli:(k:Int) < (l.length:Int):=by omega
      have RG:=hide (range_below hk1.range hb hbw)
      have HF:=Hf.out l[k] (List.getElem_mem hlt)
      have HD:=Hd.out l[k] (List.getElem_mem hlt)
      have IE:=hide (show (Tryz.prog.info? 92).map (·.size)=some (bkC l[k] bv).length from IB.out)
      have H1:=hide (show (bkC l[k] bv).toArray.all (·.oneCell')=true from by rw [List.all_toArray];exact bkC_one hrk)
      have zz:=hb.size
      have z1:=K1.out.lt
      have bz:Blk (wr.alloc (.cells #[.int .i64 0,.int .i64 0,.int .i64 0,.string { data:=#[] },.int .i64 0,.int .i64 0,.slice none 0 0,.int .i64 0,.slice none 0 0,.slice none 0 0,.slice none 0 0,.bool false,.slice none 0 0,.string { data:=#[] }] 92)) wr.heap.size 92 [.int .i64 0,.int .i64 0,.int .i64 0,.string { data:=#[] },.int .i64 0,.int .i64 0,.slice none 0 0,.int .i64 0,.slice none 0 0,.slice none 0 0,.slice none 0 0,.bool false,.slice none 0 0,.string { data:=#[] }]:=Blk.new wr _ _
      have Hth:=hide (show (wr.alloc (.cells #[.int .i64 0,.int .i64 0,.int .i64 0,.string { data:=#[] },.int .i64 0,.int .i64 0,.slice none 0 0,.int .i64 0,.slice none 0 0,.slice none 0 0,.slice none 0 0,.bool false,.slice none 0 0,.string { data:=#[] }] 92)).there wr.heap.size 0 (bkC l[k] bv).toArray.size from bz.there (by rw [List.size_toArray];rfl))
      obtain ⟨w3,hw3⟩:∃ x,(wr.alloc (.cells #[.int .i64 0,.int .i64 0,.int .i64 0,.string { data:=#[] },.int .i64 0,.int .i64 0,.slice none 0 0,.int .i64 0,.slice none 0 0,.slice none 0 0,.slice none 0 0,.bool false,.slice none 0 0,.string { data:=#[] }] 92)).setCells wr.heap.size 0 (bkC l[k] bv)=x:=⟨_,rfl⟩
      have k3:Blk w3 wr.heap.size 92 (bkC l[k] bv):=by rw [<- hw3];exact blk_all bz rfl
      have b3:Below wr.heap.size wr w3:=by rw [<- hw3];exact ((Below.refl _ wr).alloc (Nat.le_refl _) _).trans (putC_below (Nat.le_refl _) _ _ _)
      have Hw3:=hide hw3
      have b13:Below w1.heap.size w1 w3:=hb.trans (b3.mono zz)
      have B13:=hide b13
      have B3:=hide (B1.out.trans (b13.mono B1.out.size))
      have hC:=K1.out.below b13 K1.out.lt
      have x0:=hC.cell 0
      have x1:=hC.cell 1
      simp only [List.getElem?_cons_zero,List.getElem?_cons_succ] at x0 x1
      have gc0:=cell_regrown x0
      have gc1:=cell_regrown x1
      have y1:w3.cell? ⟨wr.heap.size,1,none⟩=some (.int .i64 l[k].ep):=k3.cell 1
      have y4:w3.cell? ⟨wr.heap.size,4,none⟩=some (.int .i64 l[k].qr):=k3.cell 4
      have y5:w3.cell? ⟨wr.heap.size,5,none⟩=some (.int .i64 l[k].qb):=k3.cell 5
      have y6:w3.cell? ⟨wr.heap.size,6,none⟩=some bv.q:=k3.cell 6
      obtain ⟨aQ,cQ,hqv⟩:=hrk.q.shape
      rw [hqv] at y6
      have g1:=cell_regrown y1
      have g4:=cell_regrown y4
      have g5:=cell_regrown y5
      have g6:=cell_regrown y6
      have RJ:=hide (range_regrown (blk_range k3) k3.lt)
      have hrk3:=hrk.below b13 (Nat.le_refl _)
      have hr3:=Hr.out.below b13 (Nat.le_refl _)
      have HO3:=hide (fun (d:Nat) (os:Array Obj)=>Calls.regrown_of (implBlockOk_any l[k] bv (grow (redrawn w3 d) os) (hrk3.below (below_regrown w3 d os) (Nat.le_refl _)) HF HD))
      have Hno:Hid (lkAt e st l k hlt=false->lkB e st l=false):=hide (lkB_no k hlt)
      have Hyes:Hid (lkAt e st l k hlt=true->∀ j (h:j < l.length),j < k+1->lkAt e st l j h=true):=hide (fun h j hj hjk=>by
        by_cases e:j=k
        · subst e;exact h
        · exact Hall.out j hj (by omega))
      rw [show bkV l[k] bv=.agg (bkC l[k] bv).toArray from rfl] at HO3
      by_cases hk0:k=0
      · have HA:Hid (lkAt e st l k hlt=(blB l[k] && (decide (l[k].ep=e) && true))):=hide (by unfold lkAt;rw [decide_eq_true hk0,Bool.true_or])
        have hd2:decide ((0:Int) < (k:Int))=false:=by simp;omega
        have hd3:decide (0 < k)=false:=by simp;omega
        clear hk0 hat hk1 hrk hb b3 b13 bz hC x0 x1 y1 y4 y5 y6 k3 hw3 hrk3 hr3 HF HD hqv Hall
        generalize bkC l[k] bv=cs at RG IE H1 Hth Hw3 RJ HO3
        generalize l[k].ep=ep at g1 HA
        generalize l[k].qr=qr at g4
        generalize l[k].qb=qb at g5
        generalize l[k].qw.length=qn at g6
        generalize blB l[k]=X at HO3 HA
        cases X
        · skip
          have hn:=hide (Hno.out (by rw [HA.out];rfl))
          clear Hno Hyes HA
          go_wp2_with (first
            | (refine wpList_load_mid rfl 92 _ rfl b (off+k * 14) rfl cs _ RG.out Tryz.underlying92 rfl IE.out ?_)
            | (refine wpList_store_mid rfl 92 _ _ rfl wr.heap.size 0 cs.toArray rfl rfl Hth.out (by simpa using IE.out) H1.out ?_;rw [Hw3.out])
            | fail)
          refine wp_region_quiet_below (by kernel_rfl) (by kernel_rfl) ?_
          (try dsimp only [List.append])
          (try simp only [Act.put])
          (first | go_big_quiet_skip | (refine quiet_load_mid 92 _ rfl wr.heap.size (0) rfl cs _ RJ.out Tryz.underlying92 rfl IE.out (by rfl) ?_;change wpQuiet _ _ _ _ _ (Act.put _ (some 14) _);simp only [Act.put,List.setIfInBounds_toArray,List.set_cons_zero,List.set_cons_succ]))
          iterate 25 (go_big_quiet_step (first | (go_at_call 142;exact HO3.out _ _) | (go_at_call 101;exact HC3.out _ _)))
          refine wpQuiet_nil ?_
          intro _ hw'
          obtain ⟨⟨dq,osq⟩,hw''⟩:=hw'
          subst hw''
          go_wp2
          go_ret
          exact ⟨ret_bool hn.out.symm,B3.out.trans ((below_regrown w3 dq osq).mono B3.out.size)⟩
        · by_cases he:ep=e
          · have heq:(ep != e)=false:=by rw [he];simp
            rw [decide_eq_true he] at HA
            clear he
            have Hy:=hide (Hyes.out (by rw [HA.out];rfl))
            clear Hno Hyes HA
            go_wp2_with (first
              | (refine wpList_load_mid rfl 92 _ rfl b (off+k * 14) rfl cs _ RG.out Tryz.underlying92 rfl IE.out ?_)
              | (refine wpList_store_mid rfl 92 _ _ rfl wr.heap.size 0 cs.toArray rfl rfl Hth.out (by simpa using IE.out) H1.out ?_;rw [Hw3.out])
              | fail)
            refine wp_region_quiet_below (by kernel_rfl) (by kernel_rfl) ?_
            (try dsimp only [List.append])
            (try simp only [Act.put])
            (first | go_big_quiet_skip | (refine quiet_load_mid 92 _ rfl wr.heap.size (0) rfl cs _ RJ.out Tryz.underlying92 rfl IE.out (by rfl) ?_;change wpQuiet _ _ _ _ _ (Act.put _ (some 14) _);simp only [Act.put,List.setIfInBounds_toArray,List.set_cons_zero,List.set_cons_succ]))
            iterate 25 (go_big_quiet_step (first | (go_at_call 142;exact HO3.out _ _) | (go_at_call 101;exact HC3.out _ _)))
            refine wpQuiet_nil ?_
            intro _ hw'
            obtain ⟨⟨dq,osq⟩,hw''⟩:=hw'
            subst hw''
            go_wp2
            go_roundw
            case rel=>exact ⟨k+1,by omega,by go_num,Hy.out,B13.out.trans ((below_regrown w3 dq osq).mono B13.out.size)⟩
            case measure=>simp [intOf];omega
          · have heq:(ep != e)=true:=by rw [bne_iff_ne];exact he
            rw [decide_eq_false he] at HA
            clear he
            have hn:=hide (Hno.out (by rw [HA.out];rfl))
            clear Hno Hyes HA
            go_wp2_with (first
              | (refine wpList_load_mid rfl 92 _ rfl b (off+k * 14) rfl cs _ RG.out Tryz.underlying92 rfl IE.out ?_)
              | (refine wpList_store_mid rfl 92 _ _ rfl wr.heap.size 0 cs.toArray rfl rfl Hth.out (by simpa using IE.out) H1.out ?_;rw [Hw3.out])
              | fail)
            refine wp_region_quiet_below (by kernel_rfl) (by kernel_rfl) ?_
            (try dsimp only [List.append])
            (try simp only [Act.put])
            (first | go_big_quiet_skip | (refine quiet_load_mid 92 _ rfl wr.heap.size (0) rfl cs _ RJ.out Tryz.underlying92 rfl IE.out (by rfl) ?_;change wpQuiet _ _ _ _ _ (Act.put _ (some 14) _);simp only [Act.put,List.setIfInBounds_toArray,List.set_cons_zero,List.set_cons_succ]))
            iterate 25 (go_big_quiet_step (first | (go_at_call 142;exact HO3.out _ _) | (go_at_call 101;exact HC3.out _ _)))
            refine wpQuiet_nil ?_
            intro _ hw'
            obtain ⟨⟨dq,osq⟩,hw''⟩:=hw'
            subst hw''
            go_wp2
            go_ret
            exact ⟨ret_bool hn.out.symm,B3.out.trans ((below_regrown w3 dq osq).mono B3.out.size)⟩
      · obtain ⟨bp,hkp,hrp⟩:=hat (k - 1) (by omega)
        have HFp:=Hf.out (l[k - 1]'(by omega)) (List.getElem_mem _)
        have HA:Hid (lkAt e st l k hlt=(blB l[k] && (decide (l[k].ep=e) && cfB st l[k].qr l[k].qb l[k].qw (l[k - 1]'(by omega))))):=hide (by unfold lkAt;rw [decide_eq_false hk0,Bool.false_or])
        have hd2:decide ((0:Int) < (k:Int))=true:=by simp;omega
        have hd3:decide (0 < k)=true:=by simp;omega
        have RP:=hide (range_regrown (range_below hkp.range b13 hbw) (show b < w3.heap.size from Nat.lt_of_lt_of_le hbw b13.size))
        have IP:=hide (show (Tryz.prog.info? 92).map (·.size)=some (bkC (l[k - 1]'(by omega)) bp).length from IB.out)
        have HC3:=hide (fun (d:Nat) (os:Array Obj)=>Calls.regrown_of (certifies_any e (.slice aS st.length cS) bv.q st l[k].qr l[k].qb l[k].qw (l[k - 1]'(by omega)) bp (grow (redrawn w3 d) os) (hr3.below (below_regrown w3 d os) (Nat.le_refl _)) (hrk3.q.below (below_regrown w3 d os) (Nat.le_refl _)) hls HF.q HF.qs Hm.out))
        rw [show bkV (l[k - 1]'(by omega)) bp=.agg (bkC (l[k - 1]'(by omega)) bp).toArray from rfl,hqv] at HC3
        simp only [qcV] at HC3
        have hk1i:(1:Int)<=(k:Int):=by omega
        clear hk0 hat hk1 hrk hb b3 b13 bz hC x0 x1 y1 y4 y5 y6 k3 hw3 hrk3 hr3 HF HD hqv Hall hkp hrp HFp
        generalize bkC l[k] bv=cs at RG IE H1 Hth Hw3 RJ HO3
        generalize bkC (l[k - 1]'(by omega)) bp=ds at RP IP HC3
        generalize cfB st l[k].qr l[k].qb l[k].qw (l[k - 1]'(by omega))=Y at HC3 HA
        generalize l[k].ep=ep at g1 HA
        generalize l[k].qr=qr at g4 HC3
        generalize l[k].qb=qb at g5 HC3
        generalize l[k].qw.length=qn at g6 HC3
        generalize blB l[k]=X at HO3 HA
        cases X
        · clear HC3
          have hn:=hide (Hno.out (by rw [HA.out];rfl))
          clear Hno Hyes HA
          go_wp2_with (first
            | (refine wpList_load_mid rfl 92 _ rfl b (off+k * 14) rfl cs _ RG.out Tryz.underlying92 rfl IE.out ?_)
            | (refine wpList_store_mid rfl 92 _ _ rfl wr.heap.size 0 cs.toArray rfl rfl Hth.out (by simpa using IE.out) H1.out ?_;rw [Hw3.out])
            | fail)
          refine wp_region_quiet_below (by kernel_rfl) (by kernel_rfl) ?_
          (try dsimp only [List.append])
          (try simp only [Act.put])
          (first | go_big_quiet_skip | (refine quiet_load_mid 92 _ rfl wr.heap.size (0) rfl cs _ RJ.out Tryz.underlying92 rfl IE.out (by rfl) ?_;change wpQuiet _ _ _ _ _ (Act.put _ (some 14) _);simp only [Act.put,List.setIfInBounds_toArray,List.set_cons_zero,List.set_cons_succ]))
          iterate 25 (go_big_quiet_step (first | (go_at_call 142;exact HO3.out _ _) | (go_at_call 101;exact HC3.out _ _)))
          refine wpQuiet_nil ?_
          intro _ hw'
          obtain ⟨⟨dq,osq⟩,hw''⟩:=hw'
          subst hw''
          go_wp2
          go_ret
          exact ⟨ret_bool hn.out.symm,B3.out.trans ((below_regrown w3 dq osq).mono B3.out.size)⟩
        · by_cases he:ep=e
          · have heq:(ep != e)=false:=by rw [he];simp
            rw [decide_eq_true he] at HA
            clear he
            cases Y
            · skip
              have hn:=hide (Hno.out (by rw [HA.out];rfl))
              clear Hno Hyes HA
              go_wp2_with (first
                | (refine wpList_load_mid rfl 92 _ rfl b (off+k * 14) rfl cs _ RG.out Tryz.underlying92 rfl IE.out ?_)
                | (refine wpList_store_mid rfl 92 _ _ rfl wr.heap.size 0 cs.toArray rfl rfl Hth.out (by simpa using IE.out) H1.out ?_;rw [Hw3.out])
                | fail)
              refine wp_region_quiet_below (by kernel_rfl) (by kernel_rfl) ?_
              (try dsimp only [List.append])
              (try simp only [Act.put])
              (first | go_big_quiet_skip | (refine quiet_load_mid 92 _ rfl wr.heap.size (0) rfl cs _ RJ.out Tryz.underlying92 rfl IE.out (by rfl) ?_;change wpQuiet _ _ _ _ _ (Act.put _ (some 14) _);simp only [Act.put,List.setIfInBounds_toArray,List.set_cons_zero,List.set_cons_succ]))
              iterate 20 (go_big_quiet_step (first | (go_at_call 142;exact HO3.out _ _) | (go_at_call 101;exact HC3.out _ _)))
              (first | go_big_quiet_skip | (refine quiet_load_mid 92 _ rfl b (off+(k - 1) * 14) rfl ds _ RP.out Tryz.underlying92 rfl IP.out (by rfl) ?_;change wpQuiet _ _ _ _ _ (Act.put _ (some 35) _);simp only [Act.put,List.setIfInBounds_toArray,List.set_cons_zero,List.set_cons_succ]))
              iterate 4 (go_big_quiet_step (first | (go_at_call 142;exact HO3.out _ _) | (go_at_call 101;exact HC3.out _ _)))
              refine wpQuiet_nil ?_
              intro _ hw'
              obtain ⟨⟨dq,osq⟩,hw''⟩:=hw'
              subst hw''
              go_wp2
              go_ret
              exact ⟨ret_bool hn.out.symm,B3.out.trans ((below_regrown w3 dq osq).mono B3.out.size)⟩
            · skip
              have Hy:=hide (Hyes.out (by rw [HA.out];rfl))
              clear Hno Hyes HA
              go_wp2_with (first
                | (refine wpList_load_mid rfl 92 _ rfl b (off+k * 14) rfl cs _ RG.out Tryz.underlying92 rfl IE.out ?_)
                | (refine wpList_store_mid rfl 92 _ _ rfl wr.heap.size 0 cs.toArray rfl rfl Hth.out (by simpa using IE.out) H1.out ?_;rw [Hw3.out])
                | fail)
              refine wp_region_quiet_below (by kernel_rfl) (by kernel_rfl) ?_
              (try dsimp only [List.append])
              (try simp only [Act.put])
              (first | go_big_quiet_skip | (refine quiet_load_mid 92 _ rfl wr.heap.size (0) rfl cs _ RJ.out Tryz.underlying92 rfl IE.out (by rfl) ?_;change wpQuiet _ _ _ _ _ (Act.put _ (some 14) _);simp only [Act.put,List.setIfInBounds_toArray,List.set_cons_zero,List.set_cons_succ]))
              iterate 20 (go_big_quiet_step (first | (go_at_call 142;exact HO3.out _ _) | (go_at_call 101;exact HC3.out _ _)))
              (first | go_big_quiet_skip | (refine quiet_load_mid 92 _ rfl b (off+(k - 1) * 14) rfl ds _ RP.out Tryz.underlying92 rfl IP.out (by rfl) ?_;change wpQuiet _ _ _ _ _ (Act.put _ (some 35) _);simp only [Act.put,List.setIfInBounds_toArray,List.set_cons_zero,List.set_cons_succ]))
              iterate 4 (go_big_quiet_step (first | (go_at_call 142;exact HO3.out _ _) | (go_at_call 101;exact HC3.out _ _)))
              refine wpQuiet_nil ?_
              intro _ hw'
              obtain ⟨⟨dq,osq⟩,hw''⟩:=hw'
              subst hw''
              go_wp2
              go_roundw
              case rel=>exact ⟨k+1,by omega,by go_num,Hy.out,B13.out.trans ((below_regrown w3 dq osq).mono B13.out.size)⟩
              case measure=>simp [intOf];omega
          · have heq:(ep != e)=true:=by rw [bne_iff_ne];exact he
            rw [decide_eq_false he] at HA
            clear he HC3
            have hn:=hide (Hno.out (by rw [HA.out];rfl))
            clear Hno Hyes HA
            go_wp2_with (first
              | (refine wpList_load_mid rfl 92 _ rfl b (off+k * 14) rfl cs _ RG.out Tryz.underlying92 rfl IE.out ?_)
              | (refine wpList_store_mid rfl 92 _ _ rfl wr.heap.size 0 cs.toArray rfl rfl Hth.out (by simpa using IE.out) H1.out ?_;rw [Hw3.out])
              | fail)
            refine wp_region_quiet_below (by kernel_rfl) (by kernel_rfl) ?_
            (try dsimp only [List.append])
            (try simp only [Act.put])
            (first | go_big_quiet_skip | (refine quiet_load_mid 92 _ rfl wr.heap.size (0) rfl cs _ RJ.out Tryz.underlying92 rfl IE.out (by rfl) ?_;change wpQuiet _ _ _ _ _ (Act.put _ (some 14) _);simp only [Act.put,List.setIfInBounds_toArray,List.set_cons_zero,List.set_cons_succ]))
            iterate 25 (go_big_quiet_step (first | (go_at_call 142;exact HO3.out _ _) | (go_at_call 101;exact HC3.out _ _)))
            refine wpQuiet_nil ?_
            intro _ hw'
            obtain ⟨⟨dq,osq⟩,hw''⟩:=hw'
            subst hw''
            go_wp2
            go_ret
            exact ⟨ret_bool hn.out.symm,B3.out.trans ((below_regrown w3 dq osq).mono B3.out.size)⟩
    · have hX:=hide (lkB_yes (e:=e) (st:=st) (l:=l) (fun i h=>Hall.out i h (by omega)))
      have HB:=hide (B1.out.trans (hb.mono B1.out.size))
      clear Hall hb
      go_wp2
      go_ret
      exact ⟨ret_bool hX.out.symm,HB.out⟩
end Go.Proofs.YtaidhenkijjcfaaGreat
