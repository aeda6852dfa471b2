/- A world's blocks, words and nodes, as the landed code asks. -/
import Derived.Test.YtckahjabljffjaaGreatZwMgSz
import Derived.Test.YtckahjabljffjaaGreatZwWdAt
import Derived.Test.YtckahjabljffjaaGreatZwMgOkI
set_option maxRecDepth 20000
set_option maxHeartbeats 4000000
namespace Go.Proofs.YtckahjabljffjaaGreat
open Go.RowKit Go.Sort
set_option linter.unusedVariables false
theorem load_nd {ops:Array Oper} {rest:List Oper} {op:Oper} {a:Act} {w:World} {Q:Exit->Act->World->Prop} (x:Operand) (ho:op.op=.load 75 x) (B:Nat) (hx:a.eval x=.pointer (some ⟨B,0,none⟩)) {cs:List Value} {M:Value} (h:Blk w B 75 cs) (hl:cs.length=20) (hM:Value.agg cs.toArray=M)
    (hw:Region.wanted op (yielded ops a.tmps)=true) (hK:wpList Tryz.prog ops Q rest (a.put op.dst M) w):wpList Tryz.prog ops Q (op :: rest) a w:=by
  subst hM
  unfold wpList
  rw [if_pos hw]
  exact .inl (wp_load_mid 75 x ho B 0 hx cs _ (blk_range h) Tryz.underlying75 rfl (by rw [hl];kernel_rfl) hK)
theorem nodI_n (nm:ByteArray) (e be rd vd hr hb tr ld:Int) (aA aS aT aW aX aH aV aG aD aP aQ:Option Addr) (nA nS nT nW nX nH nV nG nD nP nQ cA cS cT cW cX cH cV cG cD cP cQ:Nat) (w:World) (hN:∀ V,Calls Tryz.prog 76 #[.string nm] V fun en w'=>en=.returned (.bool false)/\w'=V) :
    Calls Tryz.prog 120 #[.agg #[.string nm,.int .i64 e,.int .i64 be,.slice aA nA cA,.slice aS nS cS,.slice aT nT cT,.int .i64 rd,.int .i64 vd,.int .i64 hr,.int .i64 hb,.slice aW nW cW,.int .i64 tr,.slice aX nX cX,.slice aH nH cH,.int .i64 ld,.slice aV nV cV,.slice aG nG cG,.slice aD nD cD,.slice aP nP cP,.slice aQ nQ cQ]] w fun en w'=>en=.returned (.bool false)/\Below w.heap.size w w':=by
  obtain ⟨w1,hw1⟩:∃ x,w.alloc (.cells #[.string nm,.int .i64 e,.int .i64 be,.slice aA nA cA,.slice aS nS cS,.slice aT nT cT,.int .i64 rd,.int .i64 vd,.int .i64 hr,.int .i64 hb,.slice aW nW cW,.int .i64 tr,.slice aX nX cX,.slice aH nH cH,.int .i64 ld,.slice aV nV cV,.slice aG nG cG,.slice aD nD cD,.slice aP nP cP,.slice aQ nQ cQ] 75)=x:=⟨_,rfl⟩
  have B1:Below w.heap.size w w1:=by rw [<- hw1];exact (Below.refl _ w).alloc (Nat.le_refl _) _
  have k1:Blk w1 w.heap.size 75 [.string nm,.int .i64 e,.int .i64 be,.slice aA nA cA,.slice aS nS cS,.slice aT nT cT,.int .i64 rd,.int .i64 vd,.int .i64 hr,.int .i64 hb,.slice aW nW cW,.int .i64 tr,.slice aX nX cX,.slice aH nH cH,.int .i64 ld,.slice aV nV cV,.slice aG nG cG,.slice aD nD cD,.slice aP nP cP,.slice aQ nQ cQ]:=by rw [<- hw1];exact Blk.new w _ _
  have x0:=k1.cell 0
  simp only [List.getElem?_cons_zero] at x0
  have K1:=hide k1
  clear k1
  have HN:=hide hN
  clear hN
  go_enter Tryz.func120,Tryz.ntmps120
  go_upto_region 1 with fail
  (try rw [hw1])
  clear hw1
  go_wp2_with (first
      | (go_at_call 76;(with_reducible refine (HN.out _).mono ?_);rintro en w9 ⟨rfl,rfl⟩)
      | fail)
  go_ret
  exact ⟨rfl,B1⟩
theorem nodI_e (nm:ByteArray) (e be rd vd hr hb tr ld:Int) (aA aS aT aW aX aH aV aG aD aP aQ:Option Addr) (nA nS nT nW nX nH nV nG nD nP nQ cA cS cT cW cX cH cV cG cD cP cQ:Nat) (w:World) (hN:∀ V,Calls Tryz.prog 76 #[.string nm] V fun en w'=>en=.returned (.bool true)/\w'=V) (hE:∀ V,Below w.heap.size w V->Calls Tryz.prog 178 #[.agg #[.string nm,.int .i64 e,.int .i64 be,.slice aA nA cA,.slice aS nS cS,.slice aT nT cT,.int .i64 rd,.int .i64 vd,.int .i64 hr,.int .i64 hb,.slice aW nW cW,.int .i64 tr,.slice aX nX cX,.slice aH nH cH,.int .i64 ld,.slice aV nV cV,.slice aG nG cG,.slice aD nD cD,.slice aP nP cP,.slice aQ nQ cQ]] V fun en w'=>en=.returned (.bool false)/\Below V.heap.size V w') :
    Calls Tryz.prog 120 #[.agg #[.string nm,.int .i64 e,.int .i64 be,.slice aA nA cA,.slice aS nS cS,.slice aT nT cT,.int .i64 rd,.int .i64 vd,.int .i64 hr,.int .i64 hb,.slice aW nW cW,.int .i64 tr,.slice aX nX cX,.slice aH nH cH,.int .i64 ld,.slice aV nV cV,.slice aG nG cG,.slice aD nD cD,.slice aP nP cP,.slice aQ nQ cQ]] w fun en w'=>en=.returned (.bool false)/\Below w.heap.size w w':=by
  obtain ⟨w1,hw1⟩:∃ x,w.alloc (.cells #[.string nm,.int .i64 e,.int .i64 be,.slice aA nA cA,.slice aS nS cS,.slice aT nT cT,.int .i64 rd,.int .i64 vd,.int .i64 hr,.int .i64 hb,.slice aW nW cW,.int .i64 tr,.slice aX nX cX,.slice aH nH cH,.int .i64 ld,.slice aV nV cV,.slice aG nG cG,.slice aD nD cD,.slice aP nP cP,.slice aQ nQ cQ] 75)=x:=⟨_,rfl⟩
  have B1:Below w.heap.size w w1:=by rw [<- hw1];exact (Below.refl _ w).alloc (Nat.le_refl _) _
  have k1:Blk w1 w.heap.size 75 [.string nm,.int .i64 e,.int .i64 be,.slice aA nA cA,.slice aS nS cS,.slice aT nT cT,.int .i64 rd,.int .i64 vd,.int .i64 hr,.int .i64 hb,.slice aW nW cW,.int .i64 tr,.slice aX nX cX,.slice aH nH cH,.int .i64 ld,.slice aV nV cV,.slice aG nG cG,.slice aD nD cD,.slice aP nP cP,.slice aQ nQ cQ]:=by rw [<- hw1];exact Blk.new w _ _
  have x0:=k1.cell 0
  simp only [List.getElem?_cons_zero] at x0
  have K1:=hide k1
  clear k1
  have HN:=hide hN
  have HE:=hide hE
  clear hN hE
  go_enter Tryz.func120,Tryz.ntmps120
  go_upto_region 1 with fail
  (try rw [hw1])
  clear hw1
  obtain ⟨M,hM⟩:∃ x,(Value.agg #[.string nm,.int .i64 e,.int .i64 be,.slice aA nA cA,.slice aS nS cS,.slice aT nT cT,.int .i64 rd,.int .i64 vd,.int .i64 hr,.int .i64 hb,.slice aW nW cW,.int .i64 tr,.slice aX nX cX,.slice aH nH cH,.int .i64 ld,.slice aV nV cV,.slice aG nG cG,.slice aD nD cD,.slice aP nP cP,.slice aQ nQ cQ])=x:=⟨_,rfl⟩
  rw [hM] at HE ⊢
  go_wp2_with (first
      | (go_at_call 178;(with_reducible refine (HE.out _ B1).mono ?_);rintro en w2 ⟨rfl,b2⟩;have B2:=B1.trans (b2.mono B1.size);have K2:=hide (K1.out.below b2 K1.out.lt))
      | (refine load_nd _ rfl w.heap.size rfl K1.out rfl hM (by rfl) ?_)
      | (go_at_call 76;(with_reducible refine (HN.out _).mono ?_);rintro en w9 ⟨rfl,rfl⟩)
      | fail)
  go_ret
  exact ⟨rfl,B2⟩
theorem nodI_r (nm:ByteArray) (e be rd vd hr hb tr ld:Int) (aA aS aT aW aX aH aV aG aD aP aQ:Option Addr) (nA nS nT nW nX nH nV nG nD nP nQ cA cS cT cW cX cH cV cG cD cP cQ:Nat) (w:World) (hN:∀ V,Calls Tryz.prog 76 #[.string nm] V fun en w'=>en=.returned (.bool true)/\w'=V) (hE:∀ V,Below w.heap.size w V->Calls Tryz.prog 178 #[.agg #[.string nm,.int .i64 e,.int .i64 be,.slice aA nA cA,.slice aS nS cS,.slice aT nT cT,.int .i64 rd,.int .i64 vd,.int .i64 hr,.int .i64 hb,.slice aW nW cW,.int .i64 tr,.slice aX nX cX,.slice aH nH cH,.int .i64 ld,.slice aV nV cV,.slice aG nG cG,.slice aD nD cD,.slice aP nP cP,.slice aQ nQ cQ]] V fun en w'=>en=.returned (.bool true)/\Below V.heap.size V w') (hR:∀ V,Below w.heap.size w V->Calls Tryz.prog 179 #[.agg #[.string nm,.int .i64 e,.int .i64 be,.slice aA nA cA,.slice aS nS cS,.slice aT nT cT,.int .i64 rd,.int .i64 vd,.int .i64 hr,.int .i64 hb,.slice aW nW cW,.int .i64 tr,.slice aX nX cX,.slice aH nH cH,.int .i64 ld,.slice aV nV cV,.slice aG nG cG,.slice aD nD cD,.slice aP nP cP,.slice aQ nQ cQ]] V fun en w'=>en=.returned (.bool false)/\Below V.heap.size V w') :
    Calls Tryz.prog 120 #[.agg #[.string nm,.int .i64 e,.int .i64 be,.slice aA nA cA,.slice aS nS cS,.slice aT nT cT,.int .i64 rd,.int .i64 vd,.int .i64 hr,.int .i64 hb,.slice aW nW cW,.int .i64 tr,.slice aX nX cX,.slice aH nH cH,.int .i64 ld,.slice aV nV cV,.slice aG nG cG,.slice aD nD cD,.slice aP nP cP,.slice aQ nQ cQ]] w fun en w'=>en=.returned (.bool false)/\Below w.heap.size w w':=by
  obtain ⟨w1,hw1⟩:∃ x,w.alloc (.cells #[.string nm,.int .i64 e,.int .i64 be,.slice aA nA cA,.slice aS nS cS,.slice aT nT cT,.int .i64 rd,.int .i64 vd,.int .i64 hr,.int .i64 hb,.slice aW nW cW,.int .i64 tr,.slice aX nX cX,.slice aH nH cH,.int .i64 ld,.slice aV nV cV,.slice aG nG cG,.slice aD nD cD,.slice aP nP cP,.slice aQ nQ cQ] 75)=x:=⟨_,rfl⟩
  have B1:Below w.heap.size w w1:=by rw [<- hw1];exact (Below.refl _ w).alloc (Nat.le_refl _) _
  have k1:Blk w1 w.heap.size 75 [.string nm,.int .i64 e,.int .i64 be,.slice aA nA cA,.slice aS nS cS,.slice aT nT cT,.int .i64 rd,.int .i64 vd,.int .i64 hr,.int .i64 hb,.slice aW nW cW,.int .i64 tr,.slice aX nX cX,.slice aH nH cH,.int .i64 ld,.slice aV nV cV,.slice aG nG cG,.slice aD nD cD,.slice aP nP cP,.slice aQ nQ cQ]:=by rw [<- hw1];exact Blk.new w _ _
  have x0:=k1.cell 0
  simp only [List.getElem?_cons_zero] at x0
  have K1:=hide k1
  clear k1
  have HN:=hide hN
  have HE:=hide hE
  have HR:=hide hR
  clear hN hE hR
  go_enter Tryz.func120,Tryz.ntmps120
  go_upto_region 1 with fail
  (try rw [hw1])
  clear hw1
  obtain ⟨M,hM⟩:∃ x,(Value.agg #[.string nm,.int .i64 e,.int .i64 be,.slice aA nA cA,.slice aS nS cS,.slice aT nT cT,.int .i64 rd,.int .i64 vd,.int .i64 hr,.int .i64 hb,.slice aW nW cW,.int .i64 tr,.slice aX nX cX,.slice aH nH cH,.int .i64 ld,.slice aV nV cV,.slice aG nG cG,.slice aD nD cD,.slice aP nP cP,.slice aQ nQ cQ])=x:=⟨_,rfl⟩
  rw [hM] at HE HR ⊢
  go_wp2_with (first
      | (go_at_call 179;(with_reducible refine (HR.out _ B2).mono ?_);rintro en w3 ⟨rfl,b3⟩;have B3:=B2.trans (b3.mono B2.size);have K3:=hide (K2.out.below b3 K2.out.lt);have k9:=K3.out;have y3_18:=k9.cell 18;simp only [List.getElem?_cons_zero,List.getElem?_cons_succ] at y3_18;clear k9)
      | (refine load_nd _ rfl w.heap.size rfl K2.out rfl hM (by rfl) ?_)
      | (go_at_call 178;(with_reducible refine (HE.out _ B1).mono ?_);rintro en w2 ⟨rfl,b2⟩;have B2:=B1.trans (b2.mono B1.size);have K2:=hide (K1.out.below b2 K1.out.lt))
      | (refine load_nd _ rfl w.heap.size rfl K1.out rfl hM (by rfl) ?_)
      | (go_at_call 76;(with_reducible refine (HN.out _).mono ?_);rintro en w9 ⟨rfl,rfl⟩)
      | fail)
  go_ret
  exact ⟨rfl,B3⟩
theorem nodI_p (nm:ByteArray) (e be rd vd hr hb tr ld:Int) (aA aS aT aW aX aH aV aG aD aP aQ:Option Addr) (nA nS nT nW nX nH nV nG nD nP nQ cA cS cT cW cX cH cV cG cD cP cQ:Nat) (w:World) (hN:∀ V,Calls Tryz.prog 76 #[.string nm] V fun en w'=>en=.returned (.bool true)/\w'=V) (hE:∀ V,Below w.heap.size w V->Calls Tryz.prog 178 #[.agg #[.string nm,.int .i64 e,.int .i64 be,.slice aA nA cA,.slice aS nS cS,.slice aT nT cT,.int .i64 rd,.int .i64 vd,.int .i64 hr,.int .i64 hb,.slice aW nW cW,.int .i64 tr,.slice aX nX cX,.slice aH nH cH,.int .i64 ld,.slice aV nV cV,.slice aG nG cG,.slice aD nD cD,.slice aP nP cP,.slice aQ nQ cQ]] V fun en w'=>en=.returned (.bool true)/\Below V.heap.size V w') (hR:∀ V,Below w.heap.size w V->Calls Tryz.prog 179 #[.agg #[.string nm,.int .i64 e,.int .i64 be,.slice aA nA cA,.slice aS nS cS,.slice aT nT cT,.int .i64 rd,.int .i64 vd,.int .i64 hr,.int .i64 hb,.slice aW nW cW,.int .i64 tr,.slice aX nX cX,.slice aH nH cH,.int .i64 ld,.slice aV nV cV,.slice aG nG cG,.slice aD nD cD,.slice aP nP cP,.slice aQ nQ cQ]] V fun en w'=>en=.returned (.bool true)/\Below V.heap.size V w') (hP:∀ V,Below w.heap.size w V->Calls Tryz.prog 180 #[.slice aP nP cP] V fun en w'=>en=.returned (.bool false)/\Below V.heap.size V w') :
    Calls Tryz.prog 120 #[.agg #[.string nm,.int .i64 e,.int .i64 be,.slice aA nA cA,.slice aS nS cS,.slice aT nT cT,.int .i64 rd,.int .i64 vd,.int .i64 hr,.int .i64 hb,.slice aW nW cW,.int .i64 tr,.slice aX nX cX,.slice aH nH cH,.int .i64 ld,.slice aV nV cV,.slice aG nG cG,.slice aD nD cD,.slice aP nP cP,.slice aQ nQ cQ]] w fun en w'=>en=.returned (.bool false)/\Below w.heap.size w w':=by
  obtain ⟨w1,hw1⟩:∃ x,w.alloc (.cells #[.string nm,.int .i64 e,.int .i64 be,.slice aA nA cA,.slice aS nS cS,.slice aT nT cT,.int .i64 rd,.int .i64 vd,.int .i64 hr,.int .i64 hb,.slice aW nW cW,.int .i64 tr,.slice aX nX cX,.slice aH nH cH,.int .i64 ld,.slice aV nV cV,.slice aG nG cG,.slice aD nD cD,.slice aP nP cP,.slice aQ nQ cQ] 75)=x:=⟨_,rfl⟩
  have B1:Below w.heap.size w w1:=by rw [<- hw1];exact (Below.refl _ w).alloc (Nat.le_refl _) _
  have k1:Blk w1 w.heap.size 75 [.string nm,.int .i64 e,.int .i64 be,.slice aA nA cA,.slice aS nS cS,.slice aT nT cT,.int .i64 rd,.int .i64 vd,.int .i64 hr,.int .i64 hb,.slice aW nW cW,.int .i64 tr,.slice aX nX cX,.slice aH nH cH,.int .i64 ld,.slice aV nV cV,.slice aG nG cG,.slice aD nD cD,.slice aP nP cP,.slice aQ nQ cQ]:=by rw [<- hw1];exact Blk.new w _ _
  have x0:=k1.cell 0
  simp only [List.getElem?_cons_zero] at x0
  have K1:=hide k1
  clear k1
  have HN:=hide hN
  have HE:=hide hE
  have HR:=hide hR
  have HP:=hide hP
  clear hN hE hR hP
  go_enter Tryz.func120,Tryz.ntmps120
  go_upto_region 1 with fail
  (try rw [hw1])
  clear hw1
  obtain ⟨M,hM⟩:∃ x,(Value.agg #[.string nm,.int .i64 e,.int .i64 be,.slice aA nA cA,.slice aS nS cS,.slice aT nT cT,.int .i64 rd,.int .i64 vd,.int .i64 hr,.int .i64 hb,.slice aW nW cW,.int .i64 tr,.slice aX nX cX,.slice aH nH cH,.int .i64 ld,.slice aV nV cV,.slice aG nG cG,.slice aD nD cD,.slice aP nP cP,.slice aQ nQ cQ])=x:=⟨_,rfl⟩
  rw [hM] at HE HR ⊢
  go_wp2_with (first
      | (go_at_call 180;(with_reducible refine (HP.out _ B3).mono ?_);rintro en w4 ⟨rfl,b4⟩;have B4:=B3.trans (b4.mono B3.size);have K4:=hide (K3.out.below b4 K3.out.lt);have k9:=K4.out;have y4_15:=k9.cell 15;have y4_16:=k9.cell 16;have y4_17:=k9.cell 17;have y4_19:=k9.cell 19;simp only [List.getElem?_cons_zero,List.getElem?_cons_succ] at y4_15 y4_16 y4_17 y4_19;clear k9)
      | (go_at_call 179;(with_reducible refine (HR.out _ B2).mono ?_);rintro en w3 ⟨rfl,b3⟩;have B3:=B2.trans (b3.mono B2.size);have K3:=hide (K2.out.below b3 K2.out.lt);have k9:=K3.out;have y3_18:=k9.cell 18;simp only [List.getElem?_cons_zero,List.getElem?_cons_succ] at y3_18;clear k9)
      | (refine load_nd _ rfl w.heap.size rfl K2.out rfl hM (by rfl) ?_)
      | (go_at_call 178;(with_reducible refine (HE.out _ B1).mono ?_);rintro en w2 ⟨rfl,b2⟩;have B2:=B1.trans (b2.mono B1.size);have K2:=hide (K1.out.below b2 K1.out.lt))
      | (refine load_nd _ rfl w.heap.size rfl K1.out rfl hM (by rfl) ?_)
      | (go_at_call 76;(with_reducible refine (HN.out _).mono ?_);rintro en w9 ⟨rfl,rfl⟩)
      | fail)
  go_ret
  exact ⟨rfl,B4⟩
theorem nodI_v (nm:ByteArray) (e be rd vd hr hb tr ld:Int) (aA aS aT aW aX aH aV aG aD aP aQ:Option Addr) (nA nS nT nW nX nH nV nG nD nP nQ cA cS cT cW cX cH cV cG cD cP cQ:Nat) (w:World) (hN:∀ V,Calls Tryz.prog 76 #[.string nm] V fun en w'=>en=.returned (.bool true)/\w'=V) (hE:∀ V,Below w.heap.size w V->Calls Tryz.prog 178 #[.agg #[.string nm,.int .i64 e,.int .i64 be,.slice aA nA cA,.slice aS nS cS,.slice aT nT cT,.int .i64 rd,.int .i64 vd,.int .i64 hr,.int .i64 hb,.slice aW nW cW,.int .i64 tr,.slice aX nX cX,.slice aH nH cH,.int .i64 ld,.slice aV nV cV,.slice aG nG cG,.slice aD nD cD,.slice aP nP cP,.slice aQ nQ cQ]] V fun en w'=>en=.returned (.bool true)/\Below V.heap.size V w') (hR:∀ V,Below w.heap.size w V->Calls Tryz.prog 179 #[.agg #[.string nm,.int .i64 e,.int .i64 be,.slice aA nA cA,.slice aS nS cS,.slice aT nT cT,.int .i64 rd,.int .i64 vd,.int .i64 hr,.int .i64 hb,.slice aW nW cW,.int .i64 tr,.slice aX nX cX,.slice aH nH cH,.int .i64 ld,.slice aV nV cV,.slice aG nG cG,.slice aD nD cD,.slice aP nP cP,.slice aQ nQ cQ]] V fun en w'=>en=.returned (.bool true)/\Below V.heap.size V w') (hP:∀ V,Below w.heap.size w V->Calls Tryz.prog 180 #[.slice aP nP cP] V fun en w'=>en=.returned (.bool true)/\Below V.heap.size V w') (jV:decide ((nV:Int)<=1000)=false) :
    Calls Tryz.prog 120 #[.agg #[.string nm,.int .i64 e,.int .i64 be,.slice aA nA cA,.slice aS nS cS,.slice aT nT cT,.int .i64 rd,.int .i64 vd,.int .i64 hr,.int .i64 hb,.slice aW nW cW,.int .i64 tr,.slice aX nX cX,.slice aH nH cH,.int .i64 ld,.slice aV nV cV,.slice aG nG cG,.slice aD nD cD,.slice aP nP cP,.slice aQ nQ cQ]] w fun en w'=>en=.returned (.bool false)/\Below w.heap.size w w':=by
  obtain ⟨w1,hw1⟩:∃ x,w.alloc (.cells #[.string nm,.int .i64 e,.int .i64 be,.slice aA nA cA,.slice aS nS cS,.slice aT nT cT,.int .i64 rd,.int .i64 vd,.int .i64 hr,.int .i64 hb,.slice aW nW cW,.int .i64 tr,.slice aX nX cX,.slice aH nH cH,.int .i64 ld,.slice aV nV cV,.slice aG nG cG,.slice aD nD cD,.slice aP nP cP,.slice aQ nQ cQ] 75)=x:=⟨_,rfl⟩
  have B1:Below w.heap.size w w1:=by rw [<- hw1];exact (Below.refl _ w).alloc (Nat.le_refl _) _
  have k1:Blk w1 w.heap.size 75 [.string nm,.int .i64 e,.int .i64 be,.slice aA nA cA,.slice aS nS cS,.slice aT nT cT,.int .i64 rd,.int .i64 vd,.int .i64 hr,.int .i64 hb,.slice aW nW cW,.int .i64 tr,.slice aX nX cX,.slice aH nH cH,.int .i64 ld,.slice aV nV cV,.slice aG nG cG,.slice aD nD cD,.slice aP nP cP,.slice aQ nQ cQ]:=by rw [<- hw1];exact Blk.new w _ _
  have x0:=k1.cell 0
  simp only [List.getElem?_cons_zero] at x0
  have K1:=hide k1
  clear k1
  have HN:=hide hN
  have HE:=hide hE
  have HR:=hide hR
  have HP:=hide hP
  clear hN hE hR hP
  go_enter Tryz.func120,Tryz.ntmps120
  go_upto_region 1 with fail
  (try rw [hw1])
  clear hw1
  obtain ⟨M,hM⟩:∃ x,(Value.agg #[.string nm,.int .i64 e,.int .i64 be,.slice aA nA cA,.slice aS nS cS,.slice aT nT cT,.int .i64 rd,.int .i64 vd,.int .i64 hr,.int .i64 hb,.slice aW nW cW,.int .i64 tr,.slice aX nX cX,.slice aH nH cH,.int .i64 ld,.slice aV nV cV,.slice aG nG cG,.slice aD nD cD,.slice aP nP cP,.slice aQ nQ cQ])=x:=⟨_,rfl⟩
  rw [hM] at HE HR ⊢
  go_wp2_with (first
      | (go_at_call 180;(with_reducible refine (HP.out _ B3).mono ?_);rintro en w4 ⟨rfl,b4⟩;have B4:=B3.trans (b4.mono B3.size);have K4:=hide (K3.out.below b4 K3.out.lt);have k9:=K4.out;have y4_15:=k9.cell 15;have y4_16:=k9.cell 16;have y4_17:=k9.cell 17;have y4_19:=k9.cell 19;simp only [List.getElem?_cons_zero,List.getElem?_cons_succ] at y4_15 y4_16 y4_17 y4_19;clear k9)
      | (go_at_call 179;(with_reducible refine (HR.out _ B2).mono ?_);rintro en w3 ⟨rfl,b3⟩;have B3:=B2.trans (b3.mono B2.size);have K3:=hide (K2.out.below b3 K2.out.lt);have k9:=K3.out;have y3_18:=k9.cell 18;simp only [List.getElem?_cons_zero,List.getElem?_cons_succ] at y3_18;clear k9)
      | (refine load_nd _ rfl w.heap.size rfl K2.out rfl hM (by rfl) ?_)
      | (go_at_call 178;(with_reducible refine (HE.out _ B1).mono ?_);rintro en w2 ⟨rfl,b2⟩;have B2:=B1.trans (b2.mono B1.size);have K2:=hide (K1.out.below b2 K1.out.lt))
      | (refine load_nd _ rfl w.heap.size rfl K1.out rfl hM (by rfl) ?_)
      | (go_at_call 76;(with_reducible refine (HN.out _).mono ?_);rintro en w9 ⟨rfl,rfl⟩)
      | fail)
  go_ret
  exact ⟨rfl,B4⟩
theorem nodI_g (nm:ByteArray) (e be rd vd hr hb tr ld:Int) (aA aS aT aW aX aH aV aG aD aP aQ:Option Addr) (nA nS nT nW nX nH nV nG nD nP nQ cA cS cT cW cX cH cV cG cD cP cQ:Nat) (w:World) (hN:∀ V,Calls Tryz.prog 76 #[.string nm] V fun en w'=>en=.returned (.bool true)/\w'=V) (hE:∀ V,Below w.heap.size w V->Calls Tryz.prog 178 #[.agg #[.string nm,.int .i64 e,.int .i64 be,.slice aA nA cA,.slice aS nS cS,.slice aT nT cT,.int .i64 rd,.int .i64 vd,.int .i64 hr,.int .i64 hb,.slice aW nW cW,.int .i64 tr,.slice aX nX cX,.slice aH nH cH,.int .i64 ld,.slice aV nV cV,.slice aG nG cG,.slice aD nD cD,.slice aP nP cP,.slice aQ nQ cQ]] V fun en w'=>en=.returned (.bool true)/\Below V.heap.size V w') (hR:∀ V,Below w.heap.size w V->Calls Tryz.prog 179 #[.agg #[.string nm,.int .i64 e,.int .i64 be,.slice aA nA cA,.slice aS nS cS,.slice aT nT cT,.int .i64 rd,.int .i64 vd,.int .i64 hr,.int .i64 hb,.slice aW nW cW,.int .i64 tr,.slice aX nX cX,.slice aH nH cH,.int .i64 ld,.slice aV nV cV,.slice aG nG cG,.slice aD nD cD,.slice aP nP cP,.slice aQ nQ cQ]] V fun en w'=>en=.returned (.bool true)/\Below V.heap.size V w') (hP:∀ V,Below w.heap.size w V->Calls Tryz.prog 180 #[.slice aP nP cP] V fun en w'=>en=.returned (.bool true)/\Below V.heap.size V w') (jV:decide ((nV:Int)<=1000)=true) (jG:decide ((nG:Int)<=1000)=false) :
    Calls Tryz.prog 120 #[.agg #[.string nm,.int .i64 e,.int .i64 be,.slice aA nA cA,.slice aS nS cS,.slice aT nT cT,.int .i64 rd,.int .i64 vd,.int .i64 hr,.int .i64 hb,.slice aW nW cW,.int .i64 tr,.slice aX nX cX,.slice aH nH cH,.int .i64 ld,.slice aV nV cV,.slice aG nG cG,.slice aD nD cD,.slice aP nP cP,.slice aQ nQ cQ]] w fun en w'=>en=.returned (.bool false)/\Below w.heap.size w w':=by
  obtain ⟨w1,hw1⟩:∃ x,w.alloc (.cells #[.string nm,.int .i64 e,.int .i64 be,.slice aA nA cA,.slice aS nS cS,.slice aT nT cT,.int .i64 rd,.int .i64 vd,.int .i64 hr,.int .i64 hb,.slice aW nW cW,.int .i64 tr,.slice aX nX cX,.slice aH nH cH,.int .i64 ld,.slice aV nV cV,.slice aG nG cG,.slice aD nD cD,.slice aP nP cP,.slice aQ nQ cQ] 75)=x:=⟨_,rfl⟩
  have B1:Below w.heap.size w w1:=by rw [<- hw1];exact (Below.refl _ w).alloc (Nat.le_refl _) _
  have k1:Blk w1 w.heap.size 75 [.string nm,.int .i64 e,.int .i64 be,.slice aA nA cA,.slice aS nS cS,.slice aT nT cT,.int .i64 rd,.int .i64 vd,.int .i64 hr,.int .i64 hb,.slice aW nW cW,.int .i64 tr,.slice aX nX cX,.slice aH nH cH,.int .i64 ld,.slice aV nV cV,.slice aG nG cG,.slice aD nD cD,.slice aP nP cP,.slice aQ nQ cQ]:=by rw [<- hw1];exact Blk.new w _ _
  have x0:=k1.cell 0
  simp only [List.getElem?_cons_zero] at x0
  have K1:=hide k1
  clear k1
  have HN:=hide hN
  have HE:=hide hE
  have HR:=hide hR
  have HP:=hide hP
  clear hN hE hR hP
  go_enter Tryz.func120,Tryz.ntmps120
  go_upto_region 1 with fail
  (try rw [hw1])
  clear hw1
  obtain ⟨M,hM⟩:∃ x,(Value.agg #[.string nm,.int .i64 e,.int .i64 be,.slice aA nA cA,.slice aS nS cS,.slice aT nT cT,.int .i64 rd,.int .i64 vd,.int .i64 hr,.int .i64 hb,.slice aW nW cW,.int .i64 tr,.slice aX nX cX,.slice aH nH cH,.int .i64 ld,.slice aV nV cV,.slice aG nG cG,.slice aD nD cD,.slice aP nP cP,.slice aQ nQ cQ])=x:=⟨_,rfl⟩
  rw [hM] at HE HR ⊢
  go_wp2_with (first
      | (go_at_call 180;(with_reducible refine (HP.out _ B3).mono ?_);rintro en w4 ⟨rfl,b4⟩;have B4:=B3.trans (b4.mono B3.size);have K4:=hide (K3.out.below b4 K3.out.lt);have k9:=K4.out;have y4_15:=k9.cell 15;have y4_16:=k9.cell 16;have y4_17:=k9.cell 17;have y4_19:=k9.cell 19;simp only [List.getElem?_cons_zero,List.getElem?_cons_succ] at y4_15 y4_16 y4_17 y4_19;clear k9)
      | (go_at_call 179;(with_reducible refine (HR.out _ B2).mono ?_);rintro en w3 ⟨rfl,b3⟩;have B3:=B2.trans (b3.mono B2.size);have K3:=hide (K2.out.below b3 K2.out.lt);have k9:=K3.out;have y3_18:=k9.cell 18;simp only [List.getElem?_cons_zero,List.getElem?_cons_succ] at y3_18;clear k9)
      | (refine load_nd _ rfl w.heap.size rfl K2.out rfl hM (by rfl) ?_)
      | (go_at_call 178;(with_reducible refine (HE.out _ B1).mono ?_);rintro en w2 ⟨rfl,b2⟩;have B2:=B1.trans (b2.mono B1.size);have K2:=hide (K1.out.below b2 K1.out.lt))
      | (refine load_nd _ rfl w.heap.size rfl K1.out rfl hM (by rfl) ?_)
      | (go_at_call 76;(with_reducible refine (HN.out _).mono ?_);rintro en w9 ⟨rfl,rfl⟩)
      | fail)
  go_ret
  exact ⟨rfl,B4⟩
theorem nodI_d (nm:ByteArray) (e be rd vd hr hb tr ld:Int) (aA aS aT aW aX aH aV aG aD aP aQ:Option Addr) (nA nS nT nW nX nH nV nG nD nP nQ cA cS cT cW cX cH cV cG cD cP cQ:Nat) (w:World) (hN:∀ V,Calls Tryz.prog 76 #[.string nm] V fun en w'=>en=.returned (.bool true)/\w'=V) (hE:∀ V,Below w.heap.size w V->Calls Tryz.prog 178 #[.agg #[.string nm,.int .i64 e,.int .i64 be,.slice aA nA cA,.slice aS nS cS,.slice aT nT cT,.int .i64 rd,.int .i64 vd,.int .i64 hr,.int .i64 hb,.slice aW nW cW,.int .i64 tr,.slice aX nX cX,.slice aH nH cH,.int .i64 ld,.slice aV nV cV,.slice aG nG cG,.slice aD nD cD,.slice aP nP cP,.slice aQ nQ cQ]] V fun en w'=>en=.returned (.bool true)/\Below V.heap.size V w') (hR:∀ V,Below w.heap.size w V->Calls Tryz.prog 179 #[.agg #[.string nm,.int .i64 e,.int .i64 be,.slice aA nA cA,.slice aS nS cS,.slice aT nT cT,.int .i64 rd,.int .i64 vd,.int .i64 hr,.int .i64 hb,.slice aW nW cW,.int .i64 tr,.slice aX nX cX,.slice aH nH cH,.int .i64 ld,.slice aV nV cV,.slice aG nG cG,.slice aD nD cD,.slice aP nP cP,.slice aQ nQ cQ]] V fun en w'=>en=.returned (.bool true)/\Below V.heap.size V w') (hP:∀ V,Below w.heap.size w V->Calls Tryz.prog 180 #[.slice aP nP cP] V fun en w'=>en=.returned (.bool true)/\Below V.heap.size V w') (jV:decide ((nV:Int)<=1000)=true) (jG:decide ((nG:Int)<=1000)=true) (jD:decide ((nD:Int)<=200)=false) :
    Calls Tryz.prog 120 #[.agg #[.string nm,.int .i64 e,.int .i64 be,.slice aA nA cA,.slice aS nS cS,.slice aT nT cT,.int .i64 rd,.int .i64 vd,.int .i64 hr,.int .i64 hb,.slice aW nW cW,.int .i64 tr,.slice aX nX cX,.slice aH nH cH,.int .i64 ld,.slice aV nV cV,.slice aG nG cG,.slice aD nD cD,.slice aP nP cP,.slice aQ nQ cQ]] w fun en w'=>en=.returned (.bool false)/\Below w.heap.size w w':=by
  obtain ⟨w1,hw1⟩:∃ x,w.alloc (.cells #[.string nm,.int .i64 e,.int .i64 be,.slice aA nA cA,.slice aS nS cS,.slice aT nT cT,.int .i64 rd,.int .i64 vd,.int .i64 hr,.int .i64 hb,.slice aW nW cW,.int .i64 tr,.slice aX nX cX,.slice aH nH cH,.int .i64 ld,.slice aV nV cV,.slice aG nG cG,.slice aD nD cD,.slice aP nP cP,.slice aQ nQ cQ] 75)=x:=⟨_,rfl⟩
  have B1:Below w.heap.size w w1:=by rw [<- hw1];exact (Below.refl _ w).alloc (Nat.le_refl _) _
  have k1:Blk w1 w.heap.size 75 [.string nm,.int .i64 e,.int .i64 be,.slice aA nA cA,.slice aS nS cS,.slice aT nT cT,.int .i64 rd,.int .i64 vd,.int .i64 hr,.int .i64 hb,.slice aW nW cW,.int .i64 tr,.slice aX nX cX,.slice aH nH cH,.int .i64 ld,.slice aV nV cV,.slice aG nG cG,.slice aD nD cD,.slice aP nP cP,.slice aQ nQ cQ]:=by rw [<- hw1];exact Blk.new w _ _
  have x0:=k1.cell 0
  simp only [List.getElem?_cons_zero] at x0
  have K1:=hide k1
  clear k1
  have HN:=hide hN
  have HE:=hide hE
  have HR:=hide hR
  have HP:=hide hP
  clear hN hE hR hP
  go_enter Tryz.func120,Tryz.ntmps120
  go_upto_region 1 with fail
  (try rw [hw1])
  clear hw1
  obtain ⟨M,hM⟩:∃ x,(Value.agg #[.string nm,.int .i64 e,.int .i64 be,.slice aA nA cA,.slice aS nS cS,.slice aT nT cT,.int .i64 rd,.int .i64 vd,.int .i64 hr,.int .i64 hb,.slice aW nW cW,.int .i64 tr,.slice aX nX cX,.slice aH nH cH,.int .i64 ld,.slice aV nV cV,.slice aG nG cG,.slice aD nD cD,.slice aP nP cP,.slice aQ nQ cQ])=x:=⟨_,rfl⟩
  rw [hM] at HE HR ⊢
  go_wp2_with (first
      | (go_at_call 180;(with_reducible refine (HP.out _ B3).mono ?_);rintro en w4 ⟨rfl,b4⟩;have B4:=B3.trans (b4.mono B3.size);have K4:=hide (K3.out.below b4 K3.out.lt);have k9:=K4.out;have y4_15:=k9.cell 15;have y4_16:=k9.cell 16;have y4_17:=k9.cell 17;have y4_19:=k9.cell 19;simp only [List.getElem?_cons_zero,List.getElem?_cons_succ] at y4_15 y4_16 y4_17 y4_19;clear k9)
      | (go_at_call 179;(with_reducible refine (HR.out _ B2).mono ?_);rintro en w3 ⟨rfl,b3⟩;have B3:=B2.trans (b3.mono B2.size);have K3:=hide (K2.out.below b3 K2.out.lt);have k9:=K3.out;have y3_18:=k9.cell 18;simp only [List.getElem?_cons_zero,List.getElem?_cons_succ] at y3_18;clear k9)
      | (refine load_nd _ rfl w.heap.size rfl K2.out rfl hM (by rfl) ?_)
      | (go_at_call 178;(with_reducible refine (HE.out _ B1).mono ?_);rintro en w2 ⟨rfl,b2⟩;have B2:=B1.trans (b2.mono B1.size);have K2:=hide (K1.out.below b2 K1.out.lt))
      | (refine load_nd _ rfl w.heap.size rfl K1.out rfl hM (by rfl) ?_)
      | (go_at_call 76;(with_reducible refine (HN.out _).mono ?_);rintro en w9 ⟨rfl,rfl⟩)
      | fail)
  go_ret
  exact ⟨rfl,B4⟩
theorem nodI_q (nm:ByteArray) (e be rd vd hr hb tr ld:Int) (aA aS aT aW aX aH aV aG aD aP aQ:Option Addr) (nA nS nT nW nX nH nV nG nD nP nQ cA cS cT cW cX cH cV cG cD cP cQ:Nat) (w:World) (hN:∀ V,Calls Tryz.prog 76 #[.string nm] V fun en w'=>en=.returned (.bool true)/\w'=V) (hE:∀ V,Below w.heap.size w V->Calls Tryz.prog 178 #[.agg #[.string nm,.int .i64 e,.int .i64 be,.slice aA nA cA,.slice aS nS cS,.slice aT nT cT,.int .i64 rd,.int .i64 vd,.int .i64 hr,.int .i64 hb,.slice aW nW cW,.int .i64 tr,.slice aX nX cX,.slice aH nH cH,.int .i64 ld,.slice aV nV cV,.slice aG nG cG,.slice aD nD cD,.slice aP nP cP,.slice aQ nQ cQ]] V fun en w'=>en=.returned (.bool true)/\Below V.heap.size V w') (hR:∀ V,Below w.heap.size w V->Calls Tryz.prog 179 #[.agg #[.string nm,.int .i64 e,.int .i64 be,.slice aA nA cA,.slice aS nS cS,.slice aT nT cT,.int .i64 rd,.int .i64 vd,.int .i64 hr,.int .i64 hb,.slice aW nW cW,.int .i64 tr,.slice aX nX cX,.slice aH nH cH,.int .i64 ld,.slice aV nV cV,.slice aG nG cG,.slice aD nD cD,.slice aP nP cP,.slice aQ nQ cQ]] V fun en w'=>en=.returned (.bool true)/\Below V.heap.size V w') (hP:∀ V,Below w.heap.size w V->Calls Tryz.prog 180 #[.slice aP nP cP] V fun en w'=>en=.returned (.bool true)/\Below V.heap.size V w') (jV:decide ((nV:Int)<=1000)=true) (jG:decide ((nG:Int)<=1000)=true) (jD:decide ((nD:Int)<=200)=true) :
    Calls Tryz.prog 120 #[.agg #[.string nm,.int .i64 e,.int .i64 be,.slice aA nA cA,.slice aS nS cS,.slice aT nT cT,.int .i64 rd,.int .i64 vd,.int .i64 hr,.int .i64 hb,.slice aW nW cW,.int .i64 tr,.slice aX nX cX,.slice aH nH cH,.int .i64 ld,.slice aV nV cV,.slice aG nG cG,.slice aD nD cD,.slice aP nP cP,.slice aQ nQ cQ]] w fun en w'=>en=.returned (.bool (decide ((nQ:Int)<=200)))/\Below w.heap.size w w':=by
  obtain ⟨w1,hw1⟩:∃ x,w.alloc (.cells #[.string nm,.int .i64 e,.int .i64 be,.slice aA nA cA,.slice aS nS cS,.slice aT nT cT,.int .i64 rd,.int .i64 vd,.int .i64 hr,.int .i64 hb,.slice aW nW cW,.int .i64 tr,.slice aX nX cX,.slice aH nH cH,.int .i64 ld,.slice aV nV cV,.slice aG nG cG,.slice aD nD cD,.slice aP nP cP,.slice aQ nQ cQ] 75)=x:=⟨_,rfl⟩
  have B1:Below w.heap.size w w1:=by rw [<- hw1];exact (Below.refl _ w).alloc (Nat.le_refl _) _
  have k1:Blk w1 w.heap.size 75 [.string nm,.int .i64 e,.int .i64 be,.slice aA nA cA,.slice aS nS cS,.slice aT nT cT,.int .i64 rd,.int .i64 vd,.int .i64 hr,.int .i64 hb,.slice aW nW cW,.int .i64 tr,.slice aX nX cX,.slice aH nH cH,.int .i64 ld,.slice aV nV cV,.slice aG nG cG,.slice aD nD cD,.slice aP nP cP,.slice aQ nQ cQ]:=by rw [<- hw1];exact Blk.new w _ _
  have x0:=k1.cell 0
  simp only [List.getElem?_cons_zero] at x0
  have K1:=hide k1
  clear k1
  have HN:=hide hN
  have HE:=hide hE
  have HR:=hide hR
  have HP:=hide hP
  clear hN hE hR hP
  go_enter Tryz.func120,Tryz.ntmps120
  go_upto_region 1 with fail
  (try rw [hw1])
  clear hw1
  obtain ⟨M,hM⟩:∃ x,(Value.agg #[.string nm,.int .i64 e,.int .i64 be,.slice aA nA cA,.slice aS nS cS,.slice aT nT cT,.int .i64 rd,.int .i64 vd,.int .i64 hr,.int .i64 hb,.slice aW nW cW,.int .i64 tr,.slice aX nX cX,.slice aH nH cH,.int .i64 ld,.slice aV nV cV,.slice aG nG cG,.slice aD nD cD,.slice aP nP cP,.slice aQ nQ cQ])=x:=⟨_,rfl⟩
  rw [hM] at HE HR ⊢
  go_wp2_with (first
      | (go_at_call 180;(with_reducible refine (HP.out _ B3).mono ?_);rintro en w4 ⟨rfl,b4⟩;have B4:=B3.trans (b4.mono B3.size);have K4:=hide (K3.out.below b4 K3.out.lt);have k9:=K4.out;have y4_15:=k9.cell 15;have y4_16:=k9.cell 16;have y4_17:=k9.cell 17;have y4_19:=k9.cell 19;simp only [List.getElem?_cons_zero,List.getElem?_cons_succ] at y4_15 y4_16 y4_17 y4_19;clear k9)
      | (go_at_call 179;(with_reducible refine (HR.out _ B2).mono ?_);rintro en w3 ⟨rfl,b3⟩;have B3:=B2.trans (b3.mono B2.size);have K3:=hide (K2.out.below b3 K2.out.lt);have k9:=K3.out;have y3_18:=k9.cell 18;simp only [List.getElem?_cons_zero,List.getElem?_cons_succ] at y3_18;clear k9)
      | (refine load_nd _ rfl w.heap.size rfl K2.out rfl hM (by rfl) ?_)
      | (go_at_call 178;(with_reducible refine (HE.out _ B1).mono ?_);rintro en w2 ⟨rfl,b2⟩;have B2:=B1.trans (b2.mono B1.size);have K2:=hide (K1.out.below b2 K1.out.lt))
      | (refine load_nd _ rfl w.heap.size rfl K1.out rfl hM (by rfl) ?_)
      | (go_at_call 76;(with_reducible refine (HN.out _).mono ?_);rintro en w9 ⟨rfl,rfl⟩)
      | fail)
  go_ret
  exact ⟨rfl,B4⟩
theorem implNodeOk_any (p:Nd) (u:Nv) (w:World) (hr:RdNd w p u) (hf:FewNd p) (hg:FitNd p) :
    Calls Tryz.prog 120 #[noV p u] w fun en w'=>en=.returned (.bool (nodB p))/\Below w.heap.size w w':=by
  have HF:Hid (nodB p=(nmB p.nm && (epkB p.la p.st p.tt p.ep p.be && (rdsB p.st p.rd p.vd p.ld p.hr p.hb p.tr p.hw p.tw p.th && (poolB p.pl && (decide (p.vo.length<=1000) && (decide (p.go.length<=1000) && (decide (p.dn.length<=200) && decide (p.ps.length<=200))))))))):=hide rfl
  generalize nodB p=X at HF ⊢
  obtain ⟨nm,ep,be,la,st,tt,rd,vd,hr,hb,hw,tr,tw,th,ld,vo,go,dn,pl,ps⟩:=p
  obtain ⟨ya,ys,yt,yw,yx,yh,yv,yg,yd,yp,yq⟩:=u
  obtain ⟨hya,hys,hyt,hyw,hyx,hyh,hyv,hyg,hyd,hyp,hyq⟩:=hr
  simp only at *
  obtain ⟨ada,cpa,rfl⟩:=hya.shape
  obtain ⟨ads,cps,rfl⟩:=hys.shape
  obtain ⟨adt,cpt,rfl⟩:=hyt.shape
  obtain ⟨adw,cpw,rfl⟩:=hyw.shape
  obtain ⟨adx,cpx,rfl⟩:=hyx.shape
  obtain ⟨adh,cph,rfl⟩:=hyh.shape
  obtain ⟨adv,cpv,rfl⟩:=hyv.shape
  obtain ⟨adg,cpg,rfl⟩:=hyg.shape
  obtain ⟨add,cpd,rfl⟩:=hyd.shape
  obtain ⟨adp,cpp,rfl⟩:=hyp.shape
  obtain ⟨adq,cpq,rfl⟩:=hyq.shape
  simp only [noV]
  have HN:=hide (fun V=>implNameOk_any nm V hg.znm)
  have HE:=hide (fun V (hV:Below w.heap.size w V)=>implEpochOk_any nm ep be rd vd hr hb tr ld ada ads adt adw adx adh adv adg add adp adq hw.length tw.length th.length vo.length go.length dn.length pl.length ps.length cpa cps cpt cpw cpx cph cpv cpg cpd cpp cpq la st tt V (hya.below hV (Nat.le_refl _)) (hys.below hV (Nat.le_refl _)) (hyt.below hV (Nat.le_refl _)) hf.na hf.ns hf.nt (fun a ha=>⟨(hg.ga a ha).1,hf.fa a ha⟩) hg.gs hf.ft (trS_of hg.gt))
  have HR:=hide (fun (hm:ModV st) V (hV:Below w.heap.size w V)=>implRoundsOk_any nm ep be rd vd hr hb tr ld ada ads adt adw adx adh adv adg add adp adq la.length tt.length vo.length go.length dn.length pl.length ps.length cpa cps cpt cpw cpx cph cpv cpg cpd cpp cpq st hw tw th V (hys.below hV (Nat.le_refl _)) (hyw.below hV (Nat.le_refl _)) (hyx.below hV (Nat.le_refl _)) (hyh.below hV (Nat.le_refl _)) hf.ns hf.nw hf.nx hf.nh hg.gw hg.gx hm)
  have HP:=hide (fun V (hV:Below w.heap.size w V)=>implPoolOk_any (.slice adp pl.length cpp) pl V (hyp.below hV (Nat.le_refl _)) hf.np hg.gp)
  have HM:=hide (show epkB la st tt ep be=true->ModV st from epk_mod)
  generalize nmB nm=N0 at HF HN
  generalize epkB la st tt ep be=E0 at HF HE HM
  generalize rdsB st rd vd ld hr hb tr hw tw th=R0 at HF HR
  generalize poolB pl=P0 at HF HP
  clear hya hys hyt hyw hyx hyh hyv hyg hyd hyp hyq hf hg
  cases N0
  · rw [HF.out,Bool.false_and]
    exact nodI_n nm ep be rd vd hr hb tr ld ada ads adt adw adx adh adv adg add adp adq la.length st.length tt.length hw.length tw.length th.length vo.length go.length dn.length pl.length ps.length cpa cps cpt cpw cpx cph cpv cpg cpd cpp cpq w HN.out
  · rw [Bool.true_and] at HF
    cases E0
    · rw [HF.out,Bool.false_and]
      exact nodI_e nm ep be rd vd hr hb tr ld ada ads adt adw adx adh adv adg add adp adq la.length st.length tt.length hw.length tw.length th.length vo.length go.length dn.length pl.length ps.length cpa cps cpt cpw cpx cph cpv cpg cpd cpp cpq w HN.out HE.out
    · rw [Bool.true_and] at HF
      have HR:=hide (HR.out (HM.out rfl))
      cases R0
      · rw [HF.out,Bool.false_and]
        exact nodI_r nm ep be rd vd hr hb tr ld ada ads adt adw adx adh adv adg add adp adq la.length st.length tt.length hw.length tw.length th.length vo.length go.length dn.length pl.length ps.length cpa cps cpt cpw cpx cph cpv cpg cpd cpp cpq w HN.out HE.out HR.out
      · rw [Bool.true_and] at HF
        cases P0
        · rw [HF.out,Bool.false_and]
          exact nodI_p nm ep be rd vd hr hb tr ld ada ads adt adw adx adh adv adg add adp adq la.length st.length tt.length hw.length tw.length th.length vo.length go.length dn.length pl.length ps.length cpa cps cpt cpw cpx cph cpv cpg cpd cpp cpq w HN.out HE.out HR.out HP.out
        · rw [Bool.true_and] at HF
          by_cases iV:vo.length<=1000
          · rw [decide_eq_true iV,Bool.true_and] at HF
            have jV:decide ((vo.length:Int)<=1000)=true:=by rw [decide_eq_true_iff];omega
            by_cases iG:go.length<=1000
            · rw [decide_eq_true iG,Bool.true_and] at HF
              have jG:decide ((go.length:Int)<=1000)=true:=by rw [decide_eq_true_iff];omega
              by_cases iD:dn.length<=200
              · rw [decide_eq_true iD,Bool.true_and] at HF
                have jD:decide ((dn.length:Int)<=200)=true:=by rw [decide_eq_true_iff];omega
                have HQ:decide ((ps.length:Int)<=200)=decide (ps.length<=200):=by rw [decide_eq_decide];omega
                rw [<- HQ] at HF
                rw [HF.out]
                exact nodI_q nm ep be rd vd hr hb tr ld ada ads adt adw adx adh adv adg add adp adq la.length st.length tt.length hw.length tw.length th.length vo.length go.length dn.length pl.length ps.length cpa cps cpt cpw cpx cph cpv cpg cpd cpp cpq w HN.out HE.out HR.out HP.out jV jG jD
              · rw [decide_eq_false iD,Bool.false_and] at HF
                have jD:decide ((dn.length:Int)<=200)=false:=by rw [decide_eq_false_iff_not];omega
                rw [HF.out]
                exact nodI_d nm ep be rd vd hr hb tr ld ada ads adt adw adx adh adv adg add adp adq la.length st.length tt.length hw.length tw.length th.length vo.length go.length dn.length pl.length ps.length cpa cps cpt cpw cpx cph cpv cpg cpd cpp cpq w HN.out HE.out HR.out HP.out jV jG jD
            · rw [decide_eq_false iG,Bool.false_and] at HF
              have jG:decide ((go.length:Int)<=1000)=false:=by rw [decide_eq_false_iff_not];omega
              rw [HF.out]
              exact nodI_g nm ep be rd vd hr hb tr ld ada ads adt adw adx adh adv adg add adp adq la.length st.length tt.length hw.length tw.length th.length vo.length go.length dn.length pl.length ps.length cpa cps cpt cpw cpx cph cpv cpg cpd cpp cpq w HN.out HE.out HR.out HP.out jV jG
          · rw [decide_eq_false iV,Bool.false_and] at HF
            have jV:decide ((vo.length:Int)<=1000)=false:=by rw [decide_eq_false_iff_not];omega
            rw [HF.out]
            exact nodI_v nm ep be rd vd hr hb tr ld ada ads adt adw adx adh adv adg add adp adq la.length st.length tt.length hw.length tw.length th.length vo.length go.length dn.length pl.length ps.length cpa cps cpt cpw cpx cph cpv cpg cpd cpp cpq w HN.out HE.out HR.out HP.out jV
end Go.Proofs.YtckahjabljffjaaGreat
namespace Go.Proofs.YtckahjabljffjaaGreat
open Go.RowKit Go.Sort
set_option linter.unusedVariables false
theorem infoMg16:(Tryz.prog.info? 102).map (·.size)=some 16:=by kernel_rfl
theorem RdMg.m {w:World} {m:Mg} {v:Mv} (h:RdMg w m v):RdM w m v:=⟨h.kb,h.kq,h.kw,h.kh⟩
theorem fewM_of {m:Mg} (hf:FewMg m) (hg:FitMg m):FewM m:=⟨hf.nb,hf.fb,trS_of hg.gb,hf.nq,hf.nw,hf.nh,hg.gq,hg.gw,hg.ztn,hg.zvw,hg.zgw,wf_int hg.wgr,wf_int hg.wtr⟩
theorem RdMs.at16 {w:World} {a:Option Addr} {cap n:Nat} {l:List Mg} (h:RdMs w (.slice a n cap) l) (hl:0 < l.length):∃ b off,a=some ⟨b,off,none⟩/\b < w.heap.size/\∀ i (h:i < l.length),∃ u,w.rangeAt b (off+i * 16) (mgC l[i] u)/\RdMg w l[i] u:=by
  obtain ⟨Z,rfl,h⟩:=h
  rcases h with ⟨a',cap',e,rfl,hn⟩ | ⟨b,off,cap',h0,e,h1,h2,h3,h4⟩
  · simp at hl
  · simp only [Value.slice.injEq] at e
    refine ⟨b,off,e.1,h3,fun i hi=>?_⟩
    have hi':i < Z.length:=by simpa using hi
    refine ⟨Z[i].2,?_,?_⟩
    · simpa using (h4 i hi').1
    · simpa using (h4 i hi').2
structure Wq (w:World) (adf adn adb adm:Option Addr) (cpf cpn cpb cpm:Nat) (fo:List ByteArray) (ns:List Nd) (bs:List Bk) (ms:List Mg):Prop where
  f:RdS w (.slice adf fo.length cpf) fo
  n:RdNs w (.slice adn ns.length cpn) ns
  b:RdKs w (.slice adb bs.length cpb) bs
  m:RdMs w (.slice adm ms.length cpm) ms
  lf:fo.length<=4000000
  ln:ns.length<=4000000
  lb:bs.length<=4000000
  lm:ms.length<=4000000
  zf:∀ s ∈ fo,s.size<=maxLen
  fn:∀ q ∈ ns,FewNd q
  gn:∀ q ∈ ns,FitNd q
  fb:∀ q ∈ bs,FewK q
  gb:∀ q ∈ bs,FitK q
  fm:∀ q ∈ ms,FewMg q
  gm:∀ q ∈ ms,FitMg q
theorem Wq.below {w w':World} {B:Nat} {adf adn adb adm:Option Addr} {cpf cpn cpb cpm:Nat} {fo:List ByteArray} {ns:List Nd} {bs:List Bk} {ms:List Mg} (Q:Wq w adf adn adb adm cpf cpn cpb cpm fo ns bs ms) (h:Below B w w') (hB:w.heap.size<=B):Wq w' adf adn adb adm cpf cpn cpb cpm fo ns bs ms :=
  ⟨Q.f.below h hB,Q.n.below h hB,Q.b.below h hB,Q.m.below h hB,Q.lf,Q.ln,Q.lb,Q.lm,Q.zf,Q.fn,Q.gn,Q.fb,Q.gb,Q.fm,Q.gm⟩
theorem bkAt_eq {bs:List Bk} {k:Nat} (h:k < bs.length):bkAt bs k=(decide (bs[k].id=(k:Int)) && blB bs[k]):=by unfold bkAt;rw [List.getElem?_eq_getElem h]
theorem ndAt_eq {fo:List ByteArray} {bs:List Bk} {ns:List Nd} {k:Nat} (h:k < ns.length):ndAt fo bs ns k=(nodB ns[k] && (!hasN fo ns[k].nm && (upAt ns k && realB bs ns[k].tt))):=by unfold ndAt;rw [List.getElem?_eq_getElem h]
theorem upAt_none {ns:List Nd} {k:Nat} (h:k=0):upAt ns k=true:=by
  unfold upAt
  cases ns[k]? with
  | none=>rfl
  | some n=>simp [h]
theorem upAt_eq {ns:List Nd} {k:Nat} (h:k < ns.length) (h0:0 < k):upAt ns k=Op.bytesLess (ns[k - 1]'(by omega)).nm.toList ns[k].nm.toList:=by
  unfold upAt
  rw [List.getElem?_eq_getElem h,List.getElem?_eq_getElem (show k - 1 < ns.length by omega)]
  simp only
  rw [decide_eq_false (by omega),Bool.false_or]
theorem implBlocksOk_any (ep:Int) (va vs:Value) (adf adn adb adm:Option Addr) (cpf cpn cpb cpm:Nat) (fo:List ByteArray) (ns:List Nd) (bs:List Bk) (ms:List Mg) (w:World) (Q:Wq w adf adn adb adm cpf cpn cpb cpm fo ns bs ms) :
    Calls Tryz.prog 64 #[.agg #[.int .i64 ep,va,.slice adf fo.length cpf,.slice adn ns.length cpn,.slice adb bs.length cpb,vs,.slice adm ms.length cpm]] w fun e w'=>e=.returned (.bool (blocksB bs))/\Below w.heap.size w w':=by
  obtain ⟨w1,hw1⟩:∃ x,w.alloc (.cells #[.int .i64 ep,va,.slice adf fo.length cpf,.slice adn ns.length cpn,.slice adb bs.length cpb,vs,.slice adm ms.length cpm] 36)=x:=⟨_,rfl⟩
  have b1:Below w.heap.size w w1:=by rw [<- hw1];exact (Below.refl _ w).alloc (Nat.le_refl _) _
  have K1:=hide (show Blk w1 w.heap.size 36 [.int .i64 ep,va,.slice adf fo.length cpf,.slice adn ns.length cpn,.slice adb bs.length cpb,vs,.slice adm ms.length cpm] from by rw [<- hw1];exact Blk.new w _ _)
  have IW:=hide (show (Tryz.prog.info? 36).map (·.size)=some ([.int .i64 ep,va,.slice adf fo.length cpf,.slice adn ns.length cpn,.slice adb bs.length cpb,vs,.slice adm ms.length cpm]:List Value).length from infoWd7)
  have B1:=hide b1
  have HQ:=hide Q
  have HX:Hid (blocksB bs=(decide (bs.length<=1000) && (List.range bs.length).all (bkAt bs))):=hide rfl
  have HO:=hide (fun (b:Bk) (v:Bv) (V:World) (hr:RdK V b v) (hf:FewK b) (hg:FitK b)=>implBlockOk_any b v V hr hf (wf_int hg.wf.2.2.2.2.2))
  have k1:=K1.out
  have x4:=k1.cell 4
  simp only [List.getElem?_cons_zero,List.getElem?_cons_succ] at x4
  clear Q b1 k1
  generalize blocksB bs=X at HX ⊢
  go_enter Tryz.func64,Tryz.ntmps64
  go_upto_region 1 with fail
  (try rw [hw1])
  clear hw1
  obtain ⟨M,hM⟩:∃ x,(.agg #[.int .i64 ep,va,.slice adf fo.length cpf,.slice adn ns.length cpn,.slice adb bs.length cpb,vs,.slice adm ms.length cpm]:Value)=x:=⟨_,rfl⟩
  rw [hM]
  clear hM
  by_cases h0:bs.length<=1000
  · rw [decide_eq_true h0,Bool.true_and] at HX
    have h0i:¬ (1000:Int) < (bs.length:Int):=by omega
    go_wp2
    go_loopw [12] (fun iv wr=>∃ k:Nat,k<=bs.length/\iv=.int .i64 (k:Int)/\(∀ j,j < k->bkAt bs j=true)/\Below w1.heap.size w1 wr) (fun iv _=>bs.length - (intOf iv).toNat)
    case atStart=>exact ⟨0,Nat.zero_le _,rfl,(fun j h=>by omega),Below.refl _ _⟩
    case round =>
      obtain ⟨k,hk,rfl,hlo,hb⟩:=hrel
      have Hlo:=hide hlo
      clear hlo
      by_cases hlt:k < bs.length
      · obtain ⟨b0,off,rfl,h3,hcell⟩:=HQ.out.b.parts14 (by omega)
        obtain ⟨u,hat,hrl⟩:=hcell k hlt
        have hBr:=B1.out.trans (hb.mono B1.out.size)
        have Hrg:=hide (show wr.rangeAt b0 (off+k * 14) (bkC bs[k] u) from fun j x hx=>by
          have hj:j < 14:=(List.getElem?_eq_some_iff.1 hx).1
          exact ((hat.below hBr h3) j hj).trans hx)
        have hrw:=hrl.below hBr (Nat.le_refl _)
        have Hno:Hid (bkAt bs k=false->X=false):=hide (fun h=>by rw [HX.out];exact rangeW_no hlt h)
        have Hyes:Hid (bkAt bs k=true->∀ j,j < k+1->bkAt bs j=true):=hide (fun h j hjk=>by
          by_cases e:j=k
          · subst e;exact h
          · exact Hlo.out j (by omega))
        have Hq:Hid (bkAt bs k=(decide (bs[k].id=(k:Int)) && blB bs[k])):=hide (bkAt_eq hlt)
        have hki:(k:Int) < (bs.length:Int):=by omega
        have hk0:(0:Int)<=(k:Int):=by omega
        have zb:Blk (wr.alloc (.cells #[.int .i64 0,.int .i64 0,.int .i64 0,.string { data:=#[] },.int .i64 0,.int .i64 0,.slice none 0 0,.int .i64 0,.slice none 0 0,.slice none 0 0,.slice none 0 0,.bool false,.slice none 0 0,.string { data:=#[] }] 94)) wr.heap.size 94 [.int .i64 0,.int .i64 0,.int .i64 0,.string { data:=#[] },.int .i64 0,.int .i64 0,.slice none 0 0,.int .i64 0,.slice none 0 0,.slice none 0 0,.slice none 0 0,.bool false,.slice none 0 0,.string { data:=#[] }]:=Blk.new wr _ _
        have H1:=hide (show (bkC bs[k] u).toArray.all (·.oneCell')=true from by rw [List.all_toArray];exact bkC_one hrw)
        have IE:=hide (show (Tryz.prog.info? 94).map (·.size)=some (bkC bs[k] u).length from infoBk14)
        have Hth:=hide (show (wr.alloc (.cells #[.int .i64 0,.int .i64 0,.int .i64 0,.string { data:=#[] },.int .i64 0,.int .i64 0,.slice none 0 0,.int .i64 0,.slice none 0 0,.slice none 0 0,.slice none 0 0,.bool false,.slice none 0 0,.string { data:=#[] }] 94)).there wr.heap.size 0 (bkC bs[k] u).toArray.size from zb.there rfl)
        obtain ⟨w3,hw3⟩:∃ x,(wr.alloc (.cells #[.int .i64 0,.int .i64 0,.int .i64 0,.string { data:=#[] },.int .i64 0,.int .i64 0,.slice none 0 0,.int .i64 0,.slice none 0 0,.slice none 0 0,.slice none 0 0,.bool false,.slice none 0 0,.string { data:=#[] }] 94)).setCells wr.heap.size 0 (bkC bs[k] u)=x:=⟨_,rfl⟩
        have J3:=hide (show Blk w3 wr.heap.size 94 (bkC bs[k] u) from by rw [<- hw3];exact blk_all zb rfl)
        have b3:Below wr.heap.size wr w3:=by rw [<- hw3];exact ((Below.refl _ wr).alloc (Nat.le_refl _) _).trans (putC_below (Nat.le_refl _) _ _ _)
        have HT:=hide (HO.out bs[k] u w3 (hrw.below b3 (Nat.le_refl _)) (HQ.out.fb _ (List.getElem_mem hlt)) (HQ.out.gb _ (List.getElem_mem hlt)))
        have y0:w3.cell? ⟨wr.heap.size,0,none⟩=some (.int .i64 bs[k].id):=J3.out.cell 0
        have B3:=hide (hb.trans (b3.mono hb.size))
        rw [show bkV bs[k] u=.agg (bkC bs[k] u).toArray from rfl] at HT
        have Hw3:=hide hw3
        clear hat hrl hcell hb hrw b3 zb hw3 hBr Hlo
        generalize bkAt bs k=Y at Hno Hyes Hq
        generalize blB bs[k]=G at HT Hq
        generalize bs[k].id=id at Hq y0
        generalize bkC bs[k] u=cs at Hrg H1 IE Hth Hw3 J3 HT
        have RJ:=hide (blk_range J3.out)
        clear J3
        by_cases hid:id=(k:Int)
        · have hidi:(id != (k:Int))=false:=by rw [bne_eq_false_iff_eq];exact hid
          rw [decide_eq_true hid,Bool.true_and] at Hq
          clear hid
          cases G
          · have hn:=hide (Hno.out Hq.out)
            clear Hno Hyes Hq
            go_wp2_with (first
              | (refine load_mid 94 _ rfl b0 (off+k * 14) rfl cs _ Hrg.out Tryz.underlying94 rfl IE.out (by rfl) ?_)
              | (refine wpList_store_mid rfl 94 _ _ rfl wr.heap.size 0 cs.toArray rfl rfl Hth.out (by simpa using IE.out) H1.out ?_;rw [Hw3.out])
              | (refine load_mid 94 _ rfl wr.heap.size (0) rfl cs _ RJ.out Tryz.underlying94 rfl IE.out (by rfl) ?_)
              | (go_at_call 119;(with_reducible refine HT.out.mono ?_);rintro e w4 ⟨rfl,hb4⟩;have B4:=B3.out.trans (hb4.mono B3.out.size))
              | fail)
            go_ret
            exact ⟨ret_bool hn.out.symm,B1.out.trans (B4.mono B1.out.size)⟩
          · have Hy:=hide (Hyes.out Hq.out)
            clear Hno Hyes Hq
            go_wp2_with (first
              | (refine load_mid 94 _ rfl b0 (off+k * 14) rfl cs _ Hrg.out Tryz.underlying94 rfl IE.out (by rfl) ?_)
              | (refine wpList_store_mid rfl 94 _ _ rfl wr.heap.size 0 cs.toArray rfl rfl Hth.out (by simpa using IE.out) H1.out ?_;rw [Hw3.out])
              | (refine load_mid 94 _ rfl wr.heap.size (0) rfl cs _ RJ.out Tryz.underlying94 rfl IE.out (by rfl) ?_)
              | (go_at_call 119;(with_reducible refine HT.out.mono ?_);rintro e w4 ⟨rfl,hb4⟩;have B4:=B3.out.trans (hb4.mono B3.out.size))
              | fail)
            go_roundw
            case rel=>exact ⟨k+1,by omega,by go_num,Hy.out,B4⟩
            case measure=>simp [intOf];omega
        · have hidi:(id != (k:Int))=true:=by rw [bne_iff_ne];exact hid
          rw [decide_eq_false hid,Bool.false_and] at Hq
          have hn:=hide (Hno.out Hq.out)
          clear Hno Hyes Hq hid HT
          go_wp2_with (first
            | (refine load_mid 94 _ rfl b0 (off+k * 14) rfl cs _ Hrg.out Tryz.underlying94 rfl IE.out (by rfl) ?_)
            | (refine wpList_store_mid rfl 94 _ _ rfl wr.heap.size 0 cs.toArray rfl rfl Hth.out (by simpa using IE.out) H1.out ?_;rw [Hw3.out])
            | fail)
          go_ret
          exact ⟨ret_bool hn.out.symm,B1.out.trans (B3.out.mono B1.out.size)⟩
      · have hf:=hide (show X=true from by rw [HX.out];exact rangeW_yes (fun j hj=>Hlo.out j (by omega)))
        go_wp2
        go_ret
        exact ⟨ret_bool hf.out.symm,B1.out.trans (hb.mono B1.out.size)⟩
  · rw [decide_eq_false h0,Bool.false_and] at HX
    have h0i:(1000:Int) < (bs.length:Int):=by omega
    go_wp2
    go_ret
    exact ⟨ret_bool HX.out.symm,B1.out⟩
theorem implNetOk_any (ep:Int) (va vs:Value) (adf adn adb adm:Option Addr) (cpf cpn cpb cpm:Nat) (fo:List ByteArray) (ns:List Nd) (bs:List Bk) (ms:List Mg) (w:World) (Q:Wq w adf adn adb adm cpf cpn cpb cpm fo ns bs ms) :
    Calls Tryz.prog 66 #[.agg #[.int .i64 ep,va,.slice adf fo.length cpf,.slice adn ns.length cpn,.slice adb bs.length cpb,vs,.slice adm ms.length cpm]] w fun e w'=>e=.returned (.bool (netB bs ns ms))/\Below w.heap.size w w':=by
  obtain ⟨w1,hw1⟩:∃ x,w.alloc (.cells #[.int .i64 ep,va,.slice adf fo.length cpf,.slice adn ns.length cpn,.slice adb bs.length cpb,vs,.slice adm ms.length cpm] 36)=x:=⟨_,rfl⟩
  have b1:Below w.heap.size w w1:=by rw [<- hw1];exact (Below.refl _ w).alloc (Nat.le_refl _) _
  have K1:=hide (show Blk w1 w.heap.size 36 [.int .i64 ep,va,.slice adf fo.length cpf,.slice adn ns.length cpn,.slice adb bs.length cpb,vs,.slice adm ms.length cpm] from by rw [<- hw1];exact Blk.new w _ _)
  have IW:=hide (show (Tryz.prog.info? 36).map (·.size)=some ([.int .i64 ep,va,.slice adf fo.length cpf,.slice adn ns.length cpn,.slice adb bs.length cpb,vs,.slice adm ms.length cpm]:List Value).length from infoWd7)
  have B1:=hide b1
  have HQ:=hide Q
  have HX:Hid (netB bs ns ms=(decide (ms.length<=400) && ms.all (mgAt bs ns))):=hide rfl
  have HO:=hide (fun (m:Mg) (v:Mv) (V:World) (hr:RdMg V m v) (hf:FewMg m) (hg:FitMg m)=>implMsgOk_any m v V hr.m (fewM_of hf hg))
  have HA:=hide (fun (s:ByteArray) (V:World) (hV:Below w.heap.size w V)=>implPlaceOf_any ep va (.slice adf fo.length cpf) (.slice adb bs.length cpb) vs (.slice adm ms.length cpm) adn cpn ns s V (Q.n.below hV (Nat.le_refl _)) Q.ln)
  have HR:=hide (fun (al:Option Addr) (cl:Nat) (l:List Bk) (V:World) (hV:Below w.heap.size w V) (hL:RdKs V (.slice al l.length cl) l) (hll:l.length<=4000000) (hfl:∀ x ∈ l,FewK x)=>implHasAll_any ep va (.slice adf fo.length cpf) (.slice adn ns.length cpn) vs (.slice adm ms.length cpm) adb cpb bs al cl l V (Q.b.below hV (Nat.le_refl _)) Q.lb Q.fb hL hll hfl)
  have k1:=K1.out
  have x6:=k1.cell 6
  simp only [List.getElem?_cons_zero,List.getElem?_cons_succ] at x6
  clear Q b1 k1
  obtain ⟨cw,hcw⟩:∃ x,([.int .i64 ep,va,.slice adf fo.length cpf,.slice adn ns.length cpn,.slice adb bs.length cpb,vs,.slice adm ms.length cpm]:List Value)=x:=⟨_,rfl⟩
  have hcw2:(.agg #[.int .i64 ep,va,.slice adf fo.length cpf,.slice adn ns.length cpn,.slice adb bs.length cpb,vs,.slice adm ms.length cpm]:Value)=.agg cw.toArray:=by rw [<- hcw]
  rw [hcw] at K1 IW
  rw [hcw2] at HA HR ⊢
  rw [show (w.alloc (.cells #[.int .i64 ep,va,.slice adf fo.length cpf,.slice adn ns.length cpn,.slice adb bs.length cpb,vs,.slice adm ms.length cpm] 36))=w.alloc (.cells cw.toArray 36) from by rw [<- hcw]] at hw1
  clear hcw hcw2
  generalize netB bs ns ms=X at HX ⊢
  go_enter Tryz.func66,Tryz.ntmps66
  go_upto_region 1 with fail
  (try rw [hw1])
  clear hw1
  by_cases h0:ms.length<=400
  · rw [decide_eq_true h0,Bool.true_and] at HX
    have h0i:¬ (400:Int) < (ms.length:Int):=by omega
    go_wp2
    go_loopw [12] (fun iv wr=>∃ k:Nat,k<=ms.length/\iv=.int .i64 (k:Int)/\(∀ j (h:j < ms.length),j < k->mgAt bs ns ms[j]=true)/\Below w1.heap.size w1 wr) (fun iv _=>ms.length - (intOf iv).toNat)
    case atStart=>exact ⟨0,Nat.zero_le _,rfl,(fun j _ h=>by omega),Below.refl _ _⟩
    case round =>
      obtain ⟨k,hk,rfl,hlo,hb⟩:=hrel
      have Hlo:=hide hlo
      clear hlo
      by_cases hlt:k < ms.length
      · obtain ⟨b0,off,rfl,h3,hcell⟩:=HQ.out.m.at16 (by omega)
        obtain ⟨u,hat,hrl⟩:=hcell k hlt
        have hBr:=B1.out.trans (hb.mono B1.out.size)
        have Hrg:=hide (range_below hat hBr h3)
        have hrw:=hrl.below hBr (Nat.le_refl _)
        have hfw:=HQ.out.fm _ (List.getElem_mem hlt)
        have hgw:=HQ.out.gm _ (List.getElem_mem hlt)
        have Hno:Hid (mgAt bs ns ms[k]=false->X=false):=hide (fun h=>by rw [HX.out];exact allW_no hlt h)
        have Hyes:Hid (mgAt bs ns ms[k]=true->∀ j (h:j < ms.length),j < k+1->mgAt bs ns ms[j]=true):=hide (fun h j hj hjk=>by
          by_cases e:j=k
          · subst e;exact h
          · exact Hlo.out j hj (by omega))
        have Hq:Hid (mgAt bs ns ms[k]=(msgB ms[k] && (atB ns ms[k].tn && realB bs ms[k].bs))):=hide rfl
        obtain ⟨am,cm,eb⟩:=hrw.kb.shape
        have hki:(k:Int) < (ms.length:Int):=by omega
        have hk0:(0:Int)<=(k:Int):=by omega
        have hz1:=K1.out.lt
        have zb:Blk (wr.alloc (.cells #[.int .i64 0,.string { data:=#[] },.int .i64 0,.slice none 0 0,.int .i64 0,.int .i64 0,.string { data:=#[] },.int .i64 0,.int .i64 0,.string { data:=#[] },.int .i64 0,.int .i64 0,.slice none 0 0,.int .i64 0,.slice none 0 0,.slice none 0 0] 102)) wr.heap.size 102 [.int .i64 0,.string { data:=#[] },.int .i64 0,.slice none 0 0,.int .i64 0,.int .i64 0,.string { data:=#[] },.int .i64 0,.int .i64 0,.string { data:=#[] },.int .i64 0,.int .i64 0,.slice none 0 0,.int .i64 0,.slice none 0 0,.slice none 0 0]:=Blk.new wr _ _
        have H1:=hide (show (mgC ms[k] u).toArray.all (·.oneCell')=true from by rw [List.all_toArray];exact mgC_one hrw)
        have IE:=hide (show (Tryz.prog.info? 102).map (·.size)=some (mgC ms[k] u).length from infoMg16)
        have Hth:=hide (show (wr.alloc (.cells #[.int .i64 0,.string { data:=#[] },.int .i64 0,.slice none 0 0,.int .i64 0,.int .i64 0,.string { data:=#[] },.int .i64 0,.int .i64 0,.string { data:=#[] },.int .i64 0,.int .i64 0,.slice none 0 0,.int .i64 0,.slice none 0 0,.slice none 0 0] 102)).there wr.heap.size 0 (mgC ms[k] u).toArray.size from zb.there rfl)
        obtain ⟨w3,hw3⟩:∃ x,(wr.alloc (.cells #[.int .i64 0,.string { data:=#[] },.int .i64 0,.slice none 0 0,.int .i64 0,.int .i64 0,.string { data:=#[] },.int .i64 0,.int .i64 0,.string { data:=#[] },.int .i64 0,.int .i64 0,.slice none 0 0,.int .i64 0,.slice none 0 0,.slice none 0 0] 102)).setCells wr.heap.size 0 (mgC ms[k] u)=x:=⟨_,rfl⟩
        have J3:=hide (show Blk w3 wr.heap.size 102 (mgC ms[k] u) from by rw [<- hw3];exact blk_all zb rfl)
        have b3:Below wr.heap.size wr w3:=by rw [<- hw3];exact ((Below.refl _ wr).alloc (Nat.le_refl _) _).trans (putC_below (Nat.le_refl _) _ _ _)
        have B3:=hide (hb.trans (b3.mono hb.size))
        have B3w:=hide (hBr.trans (b3.mono hBr.size))
        have R3:=hide (hrw.below b3 (Nat.le_refl _))
        have HO3:=hide (fun V (hV:Below w3.heap.size w3 V)=>HO.out ms[k] u V (R3.out.below hV (Nat.le_refl _)) hfw hgw)
        have HA3:=hide (fun V (hV:Below w3.heap.size w3 V)=>HA.out ms[k].tn V (B3w.out.trans (hV.mono B3w.out.size)))
        have HR3:=hide (fun V (hV:Below w3.heap.size w3 V)=>HR.out am cm ms[k].bs V (B3w.out.trans (hV.mono B3w.out.size)) (by rw [<- eb];exact (R3.out.below hV (Nat.le_refl _)).kb) hfw.nb hfw.fb)
        have RW:=hide (fun V (hV:Below w3.heap.size w3 V)=>range_below (range_below (range_below (blk_range K1.out) hb K1.out.lt) b3 (by have:=hb.size;omega)) hV (by have:=hb.size;have:=b3.size;omega))
        have hy1:(mgC ms[k] u)[1]?=some (.string ms[k].tn):=rfl
        have hy3:(mgC ms[k] u)[3]?=some (.slice am ms[k].bs.length cm):=by rw [<- eb];rfl
        rw [show mgV ms[k] u=.agg (mgC ms[k] u).toArray from rfl] at HO3
        have Hw3:=hide hw3
        have Z3:=hide J3.out.lt
        clear hat hrl hcell hb hrw b3 zb hw3 hBr Hlo hfw hgw eb R3 hz1
        generalize mgAt bs ns ms[k]=Y at Hno Hyes Hq
        generalize msgB ms[k]=G at HO3 Hq
        generalize realB bs ms[k].bs=H at HR3 Hq
        generalize atB ns ms[k].tn=A at HA3 Hq
        generalize ms[k].tn=tn at hy1 HA3
        generalize ms[k].bs.length=bn at hy3 HR3
        generalize mgC ms[k] u=cs at Hrg H1 IE Hth Hw3 J3 HO3 hy1 hy3
        have RJ:=hide (fun V (hV:Below w3.heap.size w3 V)=>range_below (blk_range J3.out) hV J3.out.lt)
        have HY:=hide (fun V (hV:Below w3.heap.size w3 V)=>(show V.cell? ⟨wr.heap.size,1,none⟩=some (.string tn)/\V.cell? ⟨wr.heap.size,3,none⟩=some (.slice am bn cm) from by
          have a:=RJ.out V hV 1 _ hy1
          have b:=RJ.out V hV 3 _ hy3
          rw [Nat.zero_add] at a b
          exact ⟨a,b⟩))
        have r0:=RW.out w3 (Below.refl _ _)
        obtain ⟨y1,y3⟩:=HY.out w3 (Below.refl _ _)
        clear J3 hy1 hy3
        go_wp2_with (first
          | (refine load_mid 102 _ rfl b0 (off+k * 16) rfl cs _ Hrg.out Tryz.underlying102 rfl IE.out (by rfl) ?_)
          | (refine wpList_store_mid rfl 102 _ _ rfl wr.heap.size 0 cs.toArray rfl rfl Hth.out (by simpa using IE.out) H1.out ?_;rw [Hw3.out])
          | (refine load_mid 36 _ rfl w.heap.size (0) rfl cw _ r0 Tryz.underlying36 rfl IW.out (by rfl) ?_)
          | fail)
        refine (HA3.out w3 (Below.refl _ _)).mono ?_
        rintro e w4 ⟨i,rfl,hA,hb4⟩
        have B4:=hide (B3.out.trans (hb4.mono B3.out.size))
        have C4:=hide hb4
        have RJ4:=hide (RJ.out w4 hb4)
        clear hb4 r0 y1 y3 HA3 Hrg Hth Hw3
        by_cases hi:0<=i
        · rw [hA,decide_eq_true hi,Bool.true_and] at Hq
          have hii:decide (i < 0)=false:=decide_eq_false (by omega)
          clear hA hi
          cases G
          · have hn:=hide (Hno.out (by rw [Hq.out,Bool.false_and]))
            clear Hno Hyes Hq HR3
            go_wp2_with (first
              | (refine load_mid 102 _ rfl wr.heap.size (0) rfl cs _ RJ4.out Tryz.underlying102 rfl IE.out (by rfl) ?_)
              | (go_at_call 123;(with_reducible refine (HO3.out w4 C4.out).mono ?_);rintro e w5 ⟨rfl,hb5⟩;have B5:=B4.out.trans (hb5.mono B4.out.size))
              | fail)
            go_ret
            exact ⟨ret_bool hn.out.symm,B1.out.trans (B5.mono B1.out.size)⟩
          · rw [Bool.true_and] at Hq
            cases H
            · have hn:=hide (Hno.out Hq.out)
              clear Hno Hyes Hq
              go_wp2_with (first
                | (refine load_mid 36 _ rfl w.heap.size (0) rfl cw _ (RW.out w5 c5) Tryz.underlying36 rfl IW.out (by rfl) ?_)
                | (refine load_mid 102 _ rfl wr.heap.size (0) rfl cs _ RJ4.out Tryz.underlying102 rfl IE.out (by rfl) ?_)
                | (go_at_call 123;(with_reducible refine (HO3.out w4 C4.out).mono ?_);rintro e w5 ⟨rfl,hb5⟩;have B5:=B4.out.trans (hb5.mono B4.out.size);have c5:=C4.out.trans (hb5.mono C4.out.size);have y5:=(HY.out w5 c5).2)
                | (go_at_call 121;(with_reducible refine (HR3.out w5 c5).mono ?_);rintro e w6 ⟨rfl,hb6⟩;have B6:=B5.trans (hb6.mono B5.size))
                | fail)
              go_ret
              exact ⟨ret_bool hn.out.symm,B1.out.trans (B6.mono B1.out.size)⟩
            · have Hy:=hide (Hyes.out Hq.out)
              clear Hno Hyes Hq
              go_wp2_with (first
                | (refine load_mid 36 _ rfl w.heap.size (0) rfl cw _ (RW.out w5 c5) Tryz.underlying36 rfl IW.out (by rfl) ?_)
                | (refine load_mid 102 _ rfl wr.heap.size (0) rfl cs _ RJ4.out Tryz.underlying102 rfl IE.out (by rfl) ?_)
                | (go_at_call 123;(with_reducible refine (HO3.out w4 C4.out).mono ?_);rintro e w5 ⟨rfl,hb5⟩;have B5:=B4.out.trans (hb5.mono B4.out.size);have c5:=C4.out.trans (hb5.mono C4.out.size);have y5:=(HY.out w5 c5).2)
                | (go_at_call 121;(with_reducible refine (HR3.out w5 c5).mono ?_);rintro e w6 ⟨rfl,hb6⟩;have B6:=B5.trans (hb6.mono B5.size))
                | fail)
              go_roundw
              case rel=>exact ⟨k+1,by omega,by go_num,Hy.out,B6⟩
              case measure=>simp [intOf];omega
        · rw [hA,decide_eq_false hi,Bool.false_and,Bool.and_false] at Hq
          have hii:decide (i < 0)=true:=decide_eq_true (by omega)
          have hn:=hide (Hno.out Hq.out)
          clear hA hi Hno Hyes Hq HO3 HR3
          go_wp2
          go_ret
          exact ⟨ret_bool hn.out.symm,B1.out.trans (B4.out.mono B1.out.size)⟩
      · have hf:=hide (show X=true from by rw [HX.out];exact allW_yes (fun j hj=>Hlo.out j hj (by omega)))
        go_wp2
        go_ret
        exact ⟨ret_bool hf.out.symm,B1.out.trans (hb.mono B1.out.size)⟩
  · rw [decide_eq_false h0,Bool.false_and] at HX
    have h0i:(400:Int) < (ms.length:Int):=by omega
    go_wp2
    go_ret
    exact ⟨ret_bool HX.out.symm,B1.out⟩
end Go.Proofs.YtckahjabljffjaaGreat
