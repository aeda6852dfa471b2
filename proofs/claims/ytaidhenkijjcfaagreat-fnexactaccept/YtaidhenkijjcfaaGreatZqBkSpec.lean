/- The model's blocks that are right. -/
import Derived.Test.YtaidhenkijjcfaaGreatZqBkVal
set_option maxRecDepth 20000
set_option maxHeartbeats 2000000
namespace Go.Proofs.YtaidhenkijjcfaaGreat
open Go.RowKit
set_option linter.unusedVariables false
theorem toList_inj5 {t:ByteArray} (h:t.toList=[]):t=ByteArray.empty:=by
  rw [ByteArray.toList_eq] at h
  exact ByteArray.ext (Array.toList_inj.1 h)
theorem specTxOk_any (t:Tx5) (w:World) (hf:t.2.1.size<=maxLen) (ht:t.2.2.1.size<=maxLen) :
    Calls Tryz.prog 135 #[txV t] w fun e w'=>e=.returned (.bool (txB t))/\Below w.heap.size w w':=by
  obtain ⟨k,f,tO,am,no⟩:=t
  simp only [txV] at *
  obtain ⟨w0,hw0⟩:∃ w0,w.alloc (.cells #[.int .i64 k,.string f,.string tO,.int .i64 am,.int .i64 no] 177)=w0:=⟨_,rfl⟩
  have HB:Hid (Below w.heap.size w w0):=hide (by rw [<- hw0];exact (Below.refl _ w).alloc (Nat.le_refl _) _)
  have hk:w0.heap[w.heap.size]?=some (.cells #[.int .i64 k,.string f,.string tO,.int .i64 am,.int .i64 no] 177 (0,0)):=by rw [<- hw0];exact heap_alloc_new w _
  have k0:w0.cell? ⟨w.heap.size,0,none⟩=some (.int .i64 k):=by simp [World.cell?,hk]
  have k1:w0.cell? ⟨w.heap.size,1,none⟩=some (.string f):=by simp [World.cell?,hk]
  have k2:w0.cell? ⟨w.heap.size,2,none⟩=some (.string tO):=by simp [World.cell?,hk]
  have k3:w0.cell? ⟨w.heap.size,3,none⟩=some (.int .i64 am):=by simp [World.cell?,hk]
  have k4:w0.cell? ⟨w.heap.size,4,none⟩=some (.int .i64 no):=by simp [World.cell?,hk]
  clear hk
  have Hx:Hid (txB (k,f,tO,am,no)=(nmB f && (inB am 1 1000000 && (inB no 0 10000 && (if k=1 then nmB tO else (inB k 2 3 && decide (tO=ByteArray.empty))))))):=hide rfl
  generalize txB (k,f,tO,am,no)=X at Hx
  cases e0:nmB f
  · rw [e0,Bool.false_and] at Hx
    go_enter Tryz.func135,Tryz.ntmps135
    go_wp2_with (first
      | (go_at_call 89;refine (specNameOk_any _ _ (by assumption)).mono ?_;rintro e w0 ⟨rfl,rfl⟩)
      | (go_at_call 90;refine (l1In_any _ _ _ _).mono ?_;rintro e w0 ⟨rfl,rfl⟩))
    go_ret
    exact ⟨ret_bool Hx.out.symm,HB.out⟩
  · cases e1:inB am 1 1000000
    · rw [e0,e1,Bool.true_and,Bool.false_and] at Hx
      go_enter Tryz.func135,Tryz.ntmps135
      go_wp2_with (first
        | (go_at_call 89;refine (specNameOk_any _ _ (by assumption)).mono ?_;rintro e w0 ⟨rfl,rfl⟩)
        | (go_at_call 90;refine (l1In_any _ _ _ _).mono ?_;rintro e w0 ⟨rfl,rfl⟩))
      go_ret
      exact ⟨ret_bool Hx.out.symm,HB.out⟩
    · cases e2:inB no 0 10000
      · rw [e0,e1,e2,Bool.true_and,Bool.true_and,Bool.false_and] at Hx
        go_enter Tryz.func135,Tryz.ntmps135
        go_wp2_with (first
          | (go_at_call 89;refine (specNameOk_any _ _ (by assumption)).mono ?_;rintro e w0 ⟨rfl,rfl⟩)
          | (go_at_call 90;refine (l1In_any _ _ _ _).mono ?_;rintro e w0 ⟨rfl,rfl⟩))
        go_ret
        exact ⟨ret_bool Hx.out.symm,HB.out⟩
      · rw [e0, e1,e2,Bool.true_and,Bool.true_and,Bool.true_and] at Hx
        by_cases hk1:k=1
        · rw [if_pos hk1] at Hx
          subst hk1
          go_enter Tryz.func135,Tryz.ntmps135
          go_wp2_with (first
            | (go_at_call 89;refine (specNameOk_any _ _ (by assumption)).mono ?_;rintro e w0 ⟨rfl,rfl⟩)
            | (go_at_call 90;refine (l1In_any _ _ _ _).mono ?_;rintro e w0 ⟨rfl,rfl⟩))
          go_ret
          exact ⟨ret_bool Hx.out.symm,HB.out⟩
        · rw [if_neg hk1] at Hx
          have hkb:(k == 1)=false:=by rw [beq_eq_false_iff_ne];exact hk1
          clear hk1
          cases e3:inB k 2 3
          · rw [e3,Bool.false_and] at Hx
            go_enter Tryz.func135,Tryz.ntmps135
            go_wp2_with (first
              | (go_at_call 89;refine (specNameOk_any _ _ (by assumption)).mono ?_;rintro e w0 ⟨rfl,rfl⟩)
              | (go_at_call 90;refine (l1In_any _ _ _ _).mono ?_;rintro e w0 ⟨rfl,rfl⟩))
            go_ret
            exact ⟨ret_bool Hx.out.symm,HB.out⟩
          · by_cases e4:tO=ByteArray.empty
            · rw [e3,decide_eq_true e4,Bool.true_and] at Hx
              subst e4
              go_enter Tryz.func135,Tryz.ntmps135
              go_wp2_with (first
                | (go_at_call 89;refine (specNameOk_any _ _ (by assumption)).mono ?_;rintro e w0 ⟨rfl,rfl⟩)
                | (go_at_call 90;refine (l1In_any _ _ _ _).mono ?_;rintro e w0 ⟨rfl,rfl⟩))
              go_ret
              exact ⟨ret_bool Hx.out.symm,HB.out⟩
            · rw [e3,decide_eq_false e4,Bool.true_and] at Hx
              have hne:tO.toList.isEmpty=false:=by
                cases h:tO.toList.isEmpty
                · rfl
                · exact absurd (toList_inj5 (List.isEmpty_iff.1 h)) e4
              clear e4
              go_enter Tryz.func135,Tryz.ntmps135
              go_wp2_with (first
                | (go_at_call 89;refine (specNameOk_any _ _ (by assumption)).mono ?_;rintro e w0 ⟨rfl,rfl⟩)
                | (go_at_call 90;refine (l1In_any _ _ _ _).mono ?_;rintro e w0 ⟨rfl,rfl⟩))
              go_ret
              exact ⟨ret_bool Hx.out.symm,HB.out⟩
end Go.Proofs.YtaidhenkijjcfaaGreat
namespace Go.Proofs.YtaidhenkijjcfaaGreat
open Go.RowKit Go.Sort
set_option linter.unusedVariables false
theorem specL9Qc_any (b:Bk) (v:Bv) (w:World) (hr:RdK w b v) (hf:FewK b) :
    Calls Tryz.prog 133 #[bkV b v] w fun e w'=>e=.returned (.bool (q9B b))/\Below w.heap.size w w':=by
  have hlq:=hf.q
  have hsq:=hf.qs
  have HX:Hid (q9B b=(rootB b.qr b.qb b.qw || (inB b.qr 1 (wrap64 (b.rd - 1)) && (inB b.qb 0 (wrap64 (b.id - 1)) && nmsB b.qw)))):=hide rfl
  generalize q9B b=X at HX ⊢
  obtain ⟨id,ep,rd,mk,qr,qb,qw,tr,tw,th,ts,en,nx,rt⟩:=b
  obtain ⟨vq,vw,vh,vt,vn⟩:=v
  obtain ⟨hq,hw,hh,ht,hn⟩:=hr
  simp only [bkV] at *
  obtain ⟨aq,cq,rfl⟩:=hq.shape
  obtain ⟨aw,cw,rfl⟩:=hw.shape
  obtain ⟨ah,ch,rfl⟩:=hh.shape
  obtain ⟨at_,ct,rfl⟩:=ht.shape
  obtain ⟨an,cn,rfl⟩:=hn.shape
  clear hw hh ht hn hf
  obtain ⟨w1,hw1⟩:∃ x,w.alloc (.cells #[.int .i64 id,.int .i64 ep,.int .i64 rd,.string mk,.int .i64 qr,.int .i64 qb,.slice aq qw.length cq,.int .i64 tr,.slice aw tw.length cw,.slice ah th.length ch,.slice at_ ts.length ct,.bool en,.slice an nx.length cn,.string rt] 92)=x:=⟨_,rfl⟩
  have b1:Below w.heap.size w w1:=by rw [<- hw1];exact (Below.refl _ w).alloc (Nat.le_refl _) _
  have k1:Blk w1 w.heap.size 92 [.int .i64 id,.int .i64 ep,.int .i64 rd,.string mk,.int .i64 qr,.int .i64 qb,.slice aq qw.length cq,.int .i64 tr,.slice aw tw.length cw,.slice ah th.length ch,.slice at_ ts.length ct,.bool en,.slice an nx.length cn,.string rt]:=by rw [<- hw1];exact Blk.new w _ _
  have s1:w1.heap.size=w.heap.size+1:=by rw [<- hw1];simp
  obtain ⟨w2,hw2⟩:∃ x,w1.alloc (.cells #[.int .i64 qr,.int .i64 qb,.slice aq qw.length cq] 40)=x:=⟨_,rfl⟩
  have b2:Below w1.heap.size w1 w2:=by rw [<- hw2];exact (Below.refl _ w1).alloc (Nat.le_refl _) _
  have k2:Blk w2 (w.heap.size+1) 40 [.int .i64 qr,.int .i64 qb,.slice aq qw.length cq]:=by rw [<- hw2,<- s1];exact Blk.new w1 _ _
  have hb2:Below w.heap.size w w2:=b1.trans (b2.mono b1.size)
  have HR:=hide (specL8Root_any qr qb (.slice aq qw.length cq) qw w2 (hq.below hb2 (Nat.le_refl _)) hlq)
  have HN:=hide (fun V (hV:Below w.heap.size w V)=>specNamesOk_any (.slice aq qw.length cq) qw V (hq.below hV (Nat.le_refl _)) hlq hsq)
  generalize rootB qr qb qw=R0 at HX HR
  generalize nmsB qw=N0 at HX HN
  have e1:IntKind.i64.wrap (rd - 1)=wrap64 (rd - 1):=by rw [IntKind.wrap_i64];unfold wrap64;omega
  have e2:IntKind.i64.wrap (id - 1)=wrap64 (id - 1):=by rw [IntKind.wrap_i64];unfold wrap64;omega
  generalize wrap64 (rd - 1)=D1 at HX e1
  generalize wrap64 (id - 1)=D2 at HX e2
  simp only [qcV] at HR
  have x4:=k1.cell 4
  have x5:=k1.cell 5
  have x6:=k1.cell 6
  have y0:=k2.cell 0
  have y1:=k2.cell 1
  have y2:=k2.cell 2
  simp only [List.getElem?_cons_zero,List.getElem?_cons_succ] at x4 x5 x6 y0 y1 y2
  have K1:=hide (k1.below b2 (by omega))
  have K2:=hide k2
  have HB2:=hide hb2
  clear hq hsq k1 k2 b1 b2 hb2
  go_enter Tryz.func133,Tryz.ntmps133
  go_wp2_with fail
  refine HR.out.mono ?_
  rintro e w3 ⟨rfl,hb3⟩
  have hB3:=HB2.out.trans (hb3.mono HB2.out.size)
  have k13:=K1.out.below hb3 K1.out.lt
  have k23:=K2.out.below hb3 K2.out.lt
  have HN3:=hide (HN.out w3 hB3)
  clear x4 x5 x6 y0 y1 y2 hw1 hw2 HN hb3
  have x0:=k13.cell 0
  have x2:=k13.cell 2
  have y0:=k23.cell 0
  have y1:=k23.cell 1
  have y2:=k23.cell 2
  simp only [List.getElem?_cons_zero,List.getElem?_cons_succ] at x0 x2 y0 y1 y2
  clear k13 k23 K1 K2 s1
  cases R0
  · rw [Bool.false_or] at HX
    cases h1:inB qr 1 D1
    · rw [h1,Bool.false_and] at HX
      go_wp2_with (go_at_call 90;refine (l1In_any _ _ _ _).mono ?_;rintro e w4 ⟨rfl,rfl⟩)
      go_ret
      exact ⟨ret_bool HX.out.symm,hB3⟩
    · rw [h1,Bool.true_and] at HX
      cases h2:inB qb 0 D2
      · rw [h2,Bool.false_and] at HX
        go_wp2_with (go_at_call 90;refine (l1In_any _ _ _ _).mono ?_;rintro e w4 ⟨rfl,rfl⟩)
        go_ret
        exact ⟨ret_bool HX.out.symm,hB3⟩
      · rw [h2,Bool.true_and] at HX
        go_wp2_with (first
          | (go_at_call 90;refine (l1In_any _ _ _ _).mono ?_;rintro e w4 ⟨rfl,rfl⟩)
          | (go_at_call 137;refine HN3.out.mono ?_;rintro e w5 ⟨rfl,hb5⟩))
        go_ret
        exact ⟨ret_bool HX.out.symm,hB3.trans (hb5 _)⟩
  · rw [Bool.true_or] at HX
    go_wp2
    go_ret
    exact ⟨ret_bool HX.out.symm,hB3⟩
theorem specL9Tc_any (b:Bk) (v:Bv) (w:World) (hr:RdK w b v) (hf:FewK b) (hbd:-9223372036854775808<=b.tr/\b.tr<=9223372036854775807) :
    Calls Tryz.prog 134 #[bkV b v] w fun e w'=>e=.returned (.bool (t9B b))/\Below w.heap.size w w':=by
  have hlw:=hf.w
  have hlh:=hf.h
  have hsw:=hf.ws
  have HX:Hid (t9B b=(noneB b.tr b.tw b.th || (inB b.tr 1 (wrap64 (b.rd - 1)) && (nmsB b.tw && (decide (b.th.length=b.tw.length) && hisB b.tr b.th))))):=hide rfl
  generalize t9B b=X at HX ⊢
  obtain ⟨id,ep,rd,mk,qr,qb,qw,tr,tw,th,ts,en,nx,rt⟩:=b
  obtain ⟨vq,vw,vh,vt,vn⟩:=v
  obtain ⟨hq,hw,hh,ht,hn⟩:=hr
  simp only [bkV] at *
  obtain ⟨aq,cq,rfl⟩:=hq.shape
  obtain ⟨aw,cw,rfl⟩:=hw.shape
  obtain ⟨ah,ch,rfl⟩:=hh.shape
  obtain ⟨at_,ct,rfl⟩:=ht.shape
  obtain ⟨an,cn,rfl⟩:=hn.shape
  clear hq ht hn hf
  obtain ⟨w1,hw1⟩:∃ x,w.alloc (.cells #[.int .i64 id,.int .i64 ep,.int .i64 rd,.string mk,.int .i64 qr,.int .i64 qb,.slice aq qw.length cq,.int .i64 tr,.slice aw tw.length cw,.slice ah th.length ch,.slice at_ ts.length ct,.bool en,.slice an nx.length cn,.string rt] 92)=x:=⟨_,rfl⟩
  have b1:Below w.heap.size w w1:=by rw [<- hw1];exact (Below.refl _ w).alloc (Nat.le_refl _) _
  have k1:Blk w1 w.heap.size 92 [.int .i64 id,.int .i64 ep,.int .i64 rd,.string mk,.int .i64 qr,.int .i64 qb,.slice aq qw.length cq,.int .i64 tr,.slice aw tw.length cw,.slice ah th.length ch,.slice at_ ts.length ct,.bool en,.slice an nx.length cn,.string rt]:=by rw [<- hw1];exact Blk.new w _ _
  have s1:w1.heap.size=w.heap.size+1:=by rw [<- hw1];simp
  obtain ⟨w2,hw2⟩:∃ x,w1.alloc (.cells #[.int .i64 tr,.slice aw tw.length cw,.slice ah th.length ch] 67)=x:=⟨_,rfl⟩
  have b2:Below w1.heap.size w1 w2:=by rw [<- hw2];exact (Below.refl _ w1).alloc (Nat.le_refl _) _
  have k2:Blk w2 (w.heap.size+1) 67 [.int .i64 tr,.slice aw tw.length cw,.slice ah th.length ch]:=by rw [<- hw2,<- s1];exact Blk.new w1 _ _
  have hb2:Below w.heap.size w w2:=b1.trans (b2.mono b1.size)
  have HR:=hide (specL8None_any tr (.slice aw tw.length cw) (.slice ah th.length ch) tw th w2 (hw.below hb2 (Nat.le_refl _)) (hh.below hb2 (Nat.le_refl _)) hlw hlh)
  have HN:=hide (fun V (hV:Below w.heap.size w V)=>specNamesOk_any (.slice aw tw.length cw) tw V (hw.below hV (Nat.le_refl _)) hlw hsw)
  generalize noneB tr tw th=R0 at HX HR
  generalize nmsB tw=N0 at HX HN
  have e1:IntKind.i64.wrap (rd - 1)=wrap64 (rd - 1):=by rw [IntKind.wrap_i64];unfold wrap64;omega
  generalize wrap64 (rd - 1)=D1 at HX e1
  simp only [tcV] at HR
  have x4:=k1.cell 7
  have x5:=k1.cell 8
  have x6:=k1.cell 9
  have y0:=k2.cell 0
  have y1:=k2.cell 1
  have y2:=k2.cell 2
  simp only [List.getElem?_cons_zero,List.getElem?_cons_succ] at x4 x5 x6 y0 y1 y2
  have K1:=hide (k1.below b2 (by omega))
  have K2:=hide k2
  have HB2:=hide hb2
  have Hh:=hide hh
  clear hw hh hsw k1 k2 b1 b2 hb2
  go_enter Tryz.func134,Tryz.ntmps134
  go_wp2_with fail
  refine HR.out.mono ?_
  rintro e w3 ⟨rfl,hb3⟩
  have hB3:=HB2.out.trans (hb3.mono HB2.out.size)
  have k13:=K1.out.below hb3 K1.out.lt
  have k23:=K2.out.below hb3 K2.out.lt
  have HN3:=hide (HN.out w3 hB3)
  clear x4 x5 x6 y0 y1 y2 hw1 hw2 HN hb3
  have x2:=k13.cell 2
  have y0:=k23.cell 0
  have y1:=k23.cell 1
  have y2:=k23.cell 2
  simp only [List.getElem?_cons_zero,List.getElem?_cons_succ] at x2 y0 y1 y2
  have K23:=hide k23
  clear k13 k23 K1 K2 s1
  cases R0
  · rw [Bool.false_or] at HX
    cases h1:inB tr 1 D1
    · rw [h1,Bool.false_and] at HX
      go_wp2_with (go_at_call 90;refine (l1In_any _ _ _ _).mono ?_;rintro e w4 ⟨rfl,rfl⟩)
      go_ret
      exact ⟨ret_bool HX.out.symm,hB3⟩
    · rw [h1, Bool.true_and] at HX
      have Hr1:Hid (1<=tr):=hide (by unfold inB at h1;simp at h1;exact h1.1)
      cases N0
      · rw [Bool.false_and] at HX
        go_wp2_with (first
          | (go_at_call 90;refine (l1In_any _ _ _ _).mono ?_;rintro e w4 ⟨rfl,rfl⟩)
          | (go_at_call 137;refine HN3.out.mono ?_;rintro e w5 ⟨rfl,hb5⟩))
        go_ret
        exact ⟨ret_bool HX.out.symm,hB3.trans (hb5 _)⟩
      · rw [Bool.true_and] at HX
        by_cases hlen:th.length=tw.length
        · rw [decide_eq_true hlen,Bool.true_and] at HX
          have hli:((th.length:Int) != (tw.length:Int))=false:=by rw [hlen];simp
          clear hlen
          go_wp2_with (first
            | (go_at_call 90;refine (l1In_any _ _ _ _).mono ?_;rintro e w4 ⟨rfl,rfl⟩)
            | (go_at_call 137;refine HN3.out.mono ?_;rintro e w5 ⟨rfl,hb5⟩;have hB5:=hB3.trans (hb5 _);have k5:=K23.out.below (hb5 _) K23.out.lt;have t1:=k5.cell 1;have t2:=k5.cell 2;simp only [List.getElem?_cons_zero,List.getElem?_cons_succ] at t1 t2))
          have K5:=hide k5
          have HB5:=hide hB5
          clear k5 x2 y0 y1 y2 t1 t2 hb5 hB5 hB3 hli h1
          go_loopw [4] (fun iv wr=>∃ i:Nat,i<=th.length/\iv=.int .i64 (i:Int)/\(∀ j (hj:j < th.length),j < i->inB th[j] 0 (tr - 1)=true)/\Below w5.heap.size w5 wr) (fun iv _=>th.length - (intOf iv).toNat)
          case atStart=>exact ⟨0,Nat.zero_le _,rfl,fun j _ hj=>by omega,Below.refl _ _⟩
          case round =>
            obtain ⟨i,hi,rfl,hok,hb⟩:=hrel
            have kr:=K5.out.below hb K5.out.lt
            have t0:=kr.cell 0
            have t2:=kr.cell 2
            simp only [List.getElem?_cons_zero,List.getElem?_cons_succ] at t0 t2
            have Hok:=hide hok
            have HBr:=hide (HB5.out.trans (hb.mono HB5.out.size))
            clear hok kr
            by_cases hlt:i < th.length
            · obtain ⟨bh,oh,rfl,hc1,hc2,hbh,hch⟩:=Hh.out.at hlt
              have c0:=(HBr.out.cell (p:=⟨bh,oh+i,none⟩) hbh).trans hch
              have hli:(i:Int) < (th.length:Int):=by omega
              have Hno:=hide (his_no tr th i hlt)
              have Hnx:Hid (inB th[i] 0 (tr - 1)=true->∀ j (hj:j < th.length),j < i+1->inB th[j] 0 (tr - 1)=true):=hide (fun h j hj hji=>by
                by_cases e:j=i
                · subst e;exact h
                · exact Hok.out j hj (by omega))
              generalize th[i]=x at c0 hch Hno Hnx
              have hr1:=Hr1.out
              have hwr:IntKind.i64.wrap (tr - 1)=tr - 1:=by rw [IntKind.wrap_i64];omega
              have Hb:=hide hb
              have g0:=cell_regrown c0
              have g1:=cell_regrown t0
              have g2:=cell_regrown t2
              clear hb hch hr1 c0
              cases hx:inB x 0 (tr - 1)
              · have Hf:=hide (HX.out.trans (Hno.out hx))
                have HI:=hide (fun (d:Nat) (os:Array Obj)=>sameC_regrown (l1In_any x 0 (tr - 1) (grow (redrawn wr d) os)))
                rw [hx] at HI
                clear hx Hnx
                go_wp2
                refine wp_region_quiet_below (by kernel_rfl) (by kernel_rfl) ?_
                repeat (go_big_quiet_step ((go_at_call 90;exact HI.out _ _)))
                refine wpQuiet_nil ?_
                intro _ hw'
                obtain ⟨⟨dq,osq⟩,hw''⟩:=hw'
                subst hw''
                go_wp2
                go_ret
                exact ⟨ret_bool Hf.out.symm,HBr.out.trans ((below_regrown wr dq osq).mono HBr.out.size)⟩
              · have Hnx:=hide (Hnx.out hx)
                have HI:=hide (fun (d:Nat) (os:Array Obj)=>sameC_regrown (l1In_any x 0 (tr - 1) (grow (redrawn wr d) os)))
                rw [hx] at HI
                clear hx Hno
                go_wp2
                refine wp_region_quiet_below (by kernel_rfl) (by kernel_rfl) ?_
                repeat (go_big_quiet_step ((go_at_call 90;exact HI.out _ _)))
                refine wpQuiet_nil ?_
                intro _ hw'
                obtain ⟨⟨dq,osq⟩,hw''⟩:=hw'
                subst hw''
                go_wp2
                go_roundw
                case rel=>exact ⟨i+1,by omega,by go_num,Hnx.out,Hb.out.trans ((below_regrown wr dq osq).mono Hb.out.size)⟩
                case measure=>simp [intOf];omega
            · have Hf:=hide (HX.out.trans (his_yes tr th (fun j hj=>Hok.out j hj (by omega))))
              clear hb
              go_wp2
              go_ret
              exact ⟨ret_bool Hf.out.symm,HBr.out⟩
        · rw [decide_eq_false hlen,Bool.false_and] at HX
          have hli:((th.length:Int) != (tw.length:Int))=true:=by rw [bne_iff_ne];omega
          clear hlen
          go_wp2_with (first
            | (go_at_call 90;refine (l1In_any _ _ _ _).mono ?_;rintro e w4 ⟨rfl,rfl⟩)
            | (go_at_call 137;refine HN3.out.mono ?_;rintro e w5 ⟨rfl,hb5⟩;have hB5:=hB3.trans (hb5 _);have k5:=K23.out.below (hb5 _) K23.out.lt;have t1:=k5.cell 1;have t2:=k5.cell 2;simp only [List.getElem?_cons_zero,List.getElem?_cons_succ] at t1 t2))
          go_ret
          exact ⟨ret_bool HX.out.symm,hB5⟩
  · rw [Bool.true_or] at HX
    go_wp2
    go_ret
    exact ⟨ret_bool HX.out.symm,hB3⟩
end Go.Proofs.YtaidhenkijjcfaaGreat
