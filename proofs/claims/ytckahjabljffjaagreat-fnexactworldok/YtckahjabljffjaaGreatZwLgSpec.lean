/- The model's ledgers that are right, and copies of them. -/
import Derived.Test.YtckahjabljffjaaGreatZwCtTcI
import Derived.Test.YtckahjabljffjaaGreatZwNdTo
set_option maxRecDepth 20000
set_option maxHeartbeats 4000000
namespace Go.Proofs.YtckahjabljffjaaGreat
open Go.RowKit
set_option linter.unusedVariables false
def rdsB (l:List Vl) (rd vd ld hr hb tr:Int) (ws xs:List ByteArray) (hs:List Int):Bool:=inB rd 1 10000 && (inB vd 0 10000 && (inB ld 0 10000 && (qcB l hr hb ws && (decide (hr < rd) && (tcB l tr xs hs && decide (tr < rd))))))
theorem implRoundsOk_any (nm:ByteArray) (e be rd vd hr hb tr ld:Int) (aA aS aT aW aX aH aV aG aD aP aQ:Option Addr) (nA nT nV nG nD nP nQ cA cS cT cW cX cH cV cG cD cP cQ:Nat) (l:List Vl) (ws xs:List ByteArray) (hs:List Int) (w:World)
    (hS:RdV w (.slice aS l.length cS) l) (hW:RdS w (.slice aW ws.length cW) ws) (hX:RdS w (.slice aX xs.length cX) xs) (hH:RdI w (.slice aH hs.length cH) hs)
    (hl:l.length<=4000000) (hlw:ws.length<=4000000) (hlx:xs.length<=4000000) (hlh:hs.length<=4000000) (hzw:∀ s ∈ ws,s.size<=maxLen) (hzx:∀ s ∈ xs,s.size<=maxLen) (hm:ModV l) :
    Calls Tryz.prog 179 #[.agg #[.string nm,.int .i64 e,.int .i64 be,.slice aA nA cA,.slice aS l.length cS,.slice aT nT cT,.int .i64 rd,.int .i64 vd,.int .i64 hr,.int .i64 hb,.slice aW ws.length cW,.int .i64 tr,.slice aX xs.length cX,.slice aH hs.length cH,.int .i64 ld,.slice aV nV cV,.slice aG nG cG,.slice aD nD cD,.slice aP nP cP,.slice aQ nQ cQ]] w fun en w'=>en=.returned (.bool (rdsB l rd vd ld hr hb tr ws xs hs))/\Below w.heap.size w w':=by
  obtain ⟨w1,hw1⟩:∃ x,w.alloc (.cells #[.string nm,.int .i64 e,.int .i64 be,.slice aA nA cA,.slice aS l.length cS,.slice aT nT cT,.int .i64 rd,.int .i64 vd,.int .i64 hr,.int .i64 hb,.slice aW ws.length cW,.int .i64 tr,.slice aX xs.length cX,.slice aH hs.length cH,.int .i64 ld,.slice aV nV cV,.slice aG nG cG,.slice aD nD cD,.slice aP nP cP,.slice aQ nQ cQ] 75)=x:=⟨_,rfl⟩
  have b1:Below w.heap.size w w1:=by rw [<- hw1];exact (Below.refl _ w).alloc (Nat.le_refl _) _
  have k1:Blk w1 w.heap.size 75 [.string nm,.int .i64 e,.int .i64 be,.slice aA nA cA,.slice aS l.length cS,.slice aT nT cT,.int .i64 rd,.int .i64 vd,.int .i64 hr,.int .i64 hb,.slice aW ws.length cW,.int .i64 tr,.slice aX xs.length cX,.slice aH hs.length cH,.int .i64 ld,.slice aV nV cV,.slice aG nG cG,.slice aD nD cD,.slice aP nP cP,.slice aQ nQ cQ]:=by rw [<- hw1];exact Blk.new w _ _
  have HQ:=hide (fun V (hV:Below w.heap.size w V)=>implQcOk_any (.slice aS l.length cS) (.slice aW ws.length cW) l hr hb ws V (hS.below hV (Nat.le_refl _)) (hW.below hV (Nat.le_refl _)) hl hlw hzw hm)
  have HT:=hide (fun V (hV:Below w.heap.size w V)=>implTcOk_any (.slice aS l.length cS) (.slice aX xs.length cX) (.slice aH hs.length cH) l tr xs hs V (hS.below hV (Nat.le_refl _)) (hX.below hV (Nat.le_refl _)) (hH.below hV (Nat.le_refl _)) hl hlx hlh hzx hm)
  have HF:Hid (rdsB l rd vd ld hr hb tr ws xs hs=(inB rd 1 10000 && (inB vd 0 10000 && (inB ld 0 10000 && (qcB l hr hb ws && (decide (hr < rd) && (tcB l tr xs hs && decide (tr < rd)))))))):=hide rfl
  generalize rdsB l rd vd ld hr hb tr ws xs hs=X at HF ⊢
  generalize qcB l hr hb ws=Q0 at HF HQ
  generalize tcB l tr xs hs=T0 at HF HT
  simp only [qcV,tcV] at HQ HT
  have x4:=k1.cell 4
  have x6:=k1.cell 6
  have x7:=k1.cell 7
  have x8:=k1.cell 8
  have x9:=k1.cell 9
  have x10:=k1.cell 10
  have x11:=k1.cell 11
  have x12:=k1.cell 12
  have x13:=k1.cell 13
  have x14:=k1.cell 14
  simp only [List.getElem?_cons_zero,List.getElem?_cons_succ] at x4 x6 x7 x8 x9 x10 x11 x12 x13 x14
  have HQ1:=hide (HQ.out _ b1)
  clear hS hW hX hH hzw hzx hm HQ hl hlw hlx hlh
  cases h0:inB rd 1 10000
  · rw [h0,Bool.false_and] at HF
    go_enter Tryz.func179,Tryz.ntmps179
    go_wp2_with (go_at_call 74;refine (implWithinC_any _ _ _ _).mono ?_;rintro en w3 ⟨rfl,rfl⟩)
    go_ret
    exact ⟨ret_bool HF.out.symm,b1⟩
  · rw [h0, Bool.true_and] at HF
    cases h1:inB vd 0 10000
    · rw [h1,Bool.false_and] at HF
      go_enter Tryz.func179,Tryz.ntmps179
      go_wp2_with (go_at_call 74;refine (implWithinC_any _ _ _ _).mono ?_;rintro en w3 ⟨rfl,rfl⟩)
      go_ret
      exact ⟨ret_bool HF.out.symm,b1⟩
    · rw [h1, Bool.true_and] at HF
      cases h2:inB ld 0 10000
      · rw [h2,Bool.false_and] at HF
        go_enter Tryz.func179,Tryz.ntmps179
        go_wp2_with (go_at_call 74;refine (implWithinC_any _ _ _ _).mono ?_;rintro en w3 ⟨rfl,rfl⟩)
        go_ret
        exact ⟨ret_bool HF.out.symm,b1⟩
      · rw [h2, Bool.true_and] at HF
        cases Q0
        · rw [Bool.false_and] at HF
          go_enter Tryz.func179,Tryz.ntmps179
          go_wp2_with (first
              | (go_at_call 74;refine (implWithinC_any _ _ _ _).mono ?_;rintro en w3 ⟨rfl,rfl⟩)
              | (go_at_call 215;refine HQ1.out.mono ?_;rintro en w4 ⟨rfl,b4⟩;have B4:=b1.trans (b4.mono b1.size);have k4:=k1.below b4 k1.lt;have y4:=k4.cell 4;have y6:=k4.cell 6;have y7:=k4.cell 7;have y8:=k4.cell 8;have y9:=k4.cell 9;have y10:=k4.cell 10;have y11:=k4.cell 11;have y12:=k4.cell 12;have y13:=k4.cell 13;have y14:=k4.cell 14;simp only [List.getElem?_cons_zero,List.getElem?_cons_succ] at y4 y6 y7 y8 y9 y10 y11 y12 y13 y14))
          go_ret
          exact ⟨ret_bool HF.out.symm,B4⟩
        · rw [Bool.true_and] at HF
          by_cases h4:hr < rd
          · rw [decide_eq_true h4,Bool.true_and] at HF
            cases T0
            · rw [Bool.false_and] at HF
              go_enter Tryz.func179,Tryz.ntmps179
              go_wp2_with (first
                  | (go_at_call 74;refine (implWithinC_any _ _ _ _).mono ?_;rintro en w3 ⟨rfl,rfl⟩)
                  | (go_at_call 215;refine HQ1.out.mono ?_;rintro en w4 ⟨rfl,b4⟩;have B4:=b1.trans (b4.mono b1.size);have k4:=k1.below b4 k1.lt;have y4:=k4.cell 4;have y6:=k4.cell 6;have y7:=k4.cell 7;have y8:=k4.cell 8;have y9:=k4.cell 9;have y10:=k4.cell 10;have y11:=k4.cell 11;have y12:=k4.cell 12;have y13:=k4.cell 13;have y14:=k4.cell 14;simp only [List.getElem?_cons_zero,List.getElem?_cons_succ] at y4 y6 y7 y8 y9 y10 y11 y12 y13 y14)
                  | (go_at_call 216;refine (HT.out _ B4).mono ?_;rintro en w5 ⟨rfl,b5⟩;have B5:=B4.trans (b5.mono B4.size);have k5:=k4.below b5 k4.lt;have t6:=k5.cell 6;have t11:=k5.cell 11;simp only [List.getElem?_cons_zero,List.getElem?_cons_succ] at t6 t11))
              go_ret
              exact ⟨ret_bool HF.out.symm,B5⟩
            · rw [Bool.true_and] at HF
              go_enter Tryz.func179,Tryz.ntmps179
              go_wp2_with (first
                  | (go_at_call 74;refine (implWithinC_any _ _ _ _).mono ?_;rintro en w3 ⟨rfl,rfl⟩)
                  | (go_at_call 215;refine HQ1.out.mono ?_;rintro en w4 ⟨rfl,b4⟩;have B4:=b1.trans (b4.mono b1.size);have k4:=k1.below b4 k1.lt;have y4:=k4.cell 4;have y6:=k4.cell 6;have y7:=k4.cell 7;have y8:=k4.cell 8;have y9:=k4.cell 9;have y10:=k4.cell 10;have y11:=k4.cell 11;have y12:=k4.cell 12;have y13:=k4.cell 13;have y14:=k4.cell 14;simp only [List.getElem?_cons_zero,List.getElem?_cons_succ] at y4 y6 y7 y8 y9 y10 y11 y12 y13 y14)
                  | (go_at_call 216;refine (HT.out _ B4).mono ?_;rintro en w5 ⟨rfl,b5⟩;have B5:=B4.trans (b5.mono B4.size);have k5:=k4.below b5 k4.lt;have t6:=k5.cell 6;have t11:=k5.cell 11;simp only [List.getElem?_cons_zero,List.getElem?_cons_succ] at t6 t11))
              go_ret
              exact ⟨ret_bool HF.out.symm,B5⟩
          · rw [decide_eq_false h4,Bool.false_and] at HF
            go_enter Tryz.func179,Tryz.ntmps179
            go_wp2_with (first
                | (go_at_call 74;refine (implWithinC_any _ _ _ _).mono ?_;rintro en w3 ⟨rfl,rfl⟩)
                | (go_at_call 215;refine HQ1.out.mono ?_;rintro en w4 ⟨rfl,b4⟩;have B4:=b1.trans (b4.mono b1.size);have k4:=k1.below b4 k1.lt;have y4:=k4.cell 4;have y6:=k4.cell 6;have y7:=k4.cell 7;have y8:=k4.cell 8;have y9:=k4.cell 9;have y10:=k4.cell 10;have y11:=k4.cell 11;have y12:=k4.cell 12;have y13:=k4.cell 13;have y14:=k4.cell 14;simp only [List.getElem?_cons_zero,List.getElem?_cons_succ] at y4 y6 y7 y8 y9 y10 y11 y12 y13 y14))
            go_ret
            exact ⟨ret_bool HF.out.symm,B4⟩
def lgB (e:Int) (l:List Ac):Bool:=inB e 0 900 && acsB l
theorem specLedgerOk_any (e:Int) (v:Value) (l:List Ac) (w:World) (hr:RdA w v l) (hl:l.length<=4000000) (hall:∀ a ∈ l,a.1.size<=maxLen/\a.2.2.2.2.length<=4000000) :
    Calls Tryz.prog 23 #[lgV e v] w fun en w'=>en=.returned (.bool (lgB e l))/\Below w.heap.size w w':=by
  obtain ⟨a1,cv1,rfl⟩:=hr.shape
  simp only [lgV] at *
  have hb3:Below w.heap.size w (w.alloc (.cells #[.int .i64 e,.slice a1 l.length cv1] 30)):=(Below.refl _ w).alloc (Nat.le_refl _) _
  have HE:=hide (specAcctsOk_any _ l _ (hr.below hb3 (Nat.le_refl _)) hl hall)
  have Hb3:=hide hb3
  have Hx:Hid (lgB e l=(inB e 0 900 && acsB l)):=hide rfl
  clear hb3 hr hall
  generalize lgB e l=X at Hx
  generalize acsB l=A at Hx HE
  cases h0:inB e 0 900
  · rw [h0,Bool.false_and] at Hx
    go_enter Tryz.func23,Tryz.ntmps23
    go_wp2_with (go_at_call 68;refine (l1In_any _ _ _ _).mono ?_;rintro en w1 ⟨rfl,rfl⟩)
    go_ret
    exact ⟨ret_bool Hx.out.symm,Hb3.out⟩
  · rw [h0,Bool.true_and] at Hx
    go_enter Tryz.func23,Tryz.ntmps23
    go_wp2_with (first
      | (go_at_call 68;refine (l1In_any _ _ _ _).mono ?_;rintro en w1 ⟨rfl,rfl⟩)
      | (go_at_call 69;refine HE.out.mono ?_;rintro en w2 ⟨rfl,hb2⟩))
    go_ret
    exact ⟨ret_bool Hx.out.symm,Hb3.out.trans (hb2.mono Hb3.out.size)⟩
end Go.Proofs.YtckahjabljffjaaGreat
