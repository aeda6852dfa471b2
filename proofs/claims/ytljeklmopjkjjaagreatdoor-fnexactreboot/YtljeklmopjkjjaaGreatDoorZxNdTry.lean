/- What a node does is tried. -/
import Derived.Test.YtljeklmopjkjjaaGreatDoorZxNdPure
import Derived.Test.YtljeklmopjkjjaaGreatDoorZxNdSz
import Derived.Defers
import Derived.Recover
set_option maxRecDepth 20000
set_option maxHeartbeats 8000000
namespace Go.Proofs.YtljeklmopjkjjaaGreatDoor
open Go.RowKit Go.Sort
set_option linter.unusedVariables false
theorem load_nd {ops:Array Oper} {rest:List Oper} {op:Oper} {a:Act} {w:World} {Q:Exit->Act->World->Prop} (x:Operand) (ho:op.op=.load 55 x) (B:Nat) (hx:a.eval x=.pointer (some ⟨B,0,none⟩)) {cs:List Value} {M:Value} (h:Blk w B 55 cs) (hl:cs.length=20) (hM:Value.agg cs.toArray=M)
    (hw:Region.wanted op (yielded ops a.tmps)=true) (hK:wpList Tryz.prog ops Q rest (a.put op.dst M) w):wpList Tryz.prog ops Q (op :: rest) a w:=by
  subst hM
  unfold wpList
  rw [if_pos hw]
  exact .inl (wp_load_mid 55 x ho B 0 hx cs _ (blk_range h) Tryz.underlying55 rfl (by rw [hl];kernel_rfl) hK)
theorem nodI_n (nm:ByteArray) (e be rd vd hr hb tr ld:Int) (aA aS aT aW aX aH aV aG aD aP aQ:Option Addr) (nA nS nT nW nX nH nV nG nD nP nQ cA cS cT cW cX cH cV cG cD cP cQ:Nat) (w:World) (hN:∀ V,Calls Tryz.prog 139 #[.string nm] V fun en w'=>en=.returned (.bool false)/\w'=V) :
    Calls Tryz.prog 106 #[.agg #[.string nm,.int .i64 e,.int .i64 be,.slice aA nA cA,.slice aS nS cS,.slice aT nT cT,.int .i64 rd,.int .i64 vd,.int .i64 hr,.int .i64 hb,.slice aW nW cW,.int .i64 tr,.slice aX nX cX,.slice aH nH cH,.int .i64 ld,.slice aV nV cV,.slice aG nG cG,.slice aD nD cD,.slice aP nP cP,.slice aQ nQ cQ]] w fun en w'=>en=.returned (.bool false)/\Below w.heap.size w w':=by
  obtain ⟨w1,hw1⟩:∃ x,w.alloc (.cells #[.string nm,.int .i64 e,.int .i64 be,.slice aA nA cA,.slice aS nS cS,.slice aT nT cT,.int .i64 rd,.int .i64 vd,.int .i64 hr,.int .i64 hb,.slice aW nW cW,.int .i64 tr,.slice aX nX cX,.slice aH nH cH,.int .i64 ld,.slice aV nV cV,.slice aG nG cG,.slice aD nD cD,.slice aP nP cP,.slice aQ nQ cQ] 55)=x:=⟨_,rfl⟩
  have B1:Below w.heap.size w w1:=by rw [<- hw1];exact (Below.refl _ w).alloc (Nat.le_refl _) _
  have k1:Blk w1 w.heap.size 55 [.string nm,.int .i64 e,.int .i64 be,.slice aA nA cA,.slice aS nS cS,.slice aT nT cT,.int .i64 rd,.int .i64 vd,.int .i64 hr,.int .i64 hb,.slice aW nW cW,.int .i64 tr,.slice aX nX cX,.slice aH nH cH,.int .i64 ld,.slice aV nV cV,.slice aG nG cG,.slice aD nD cD,.slice aP nP cP,.slice aQ nQ cQ]:=by rw [<- hw1];exact Blk.new w _ _
  have x0:=k1.cell 0
  simp only [List.getElem?_cons_zero] at x0
  have K1:=hide k1
  clear k1
  have HN:=hide hN
  clear hN
  go_enter Tryz.func106,Tryz.ntmps106
  go_upto_region 1 with fail
  (try rw [hw1])
  clear hw1
  go_wp2_with (first
      | (go_at_call 139;(with_reducible refine (HN.out _).mono ?_);rintro en w9 ⟨rfl,rfl⟩)
      | fail)
  go_ret
  exact ⟨rfl,B1⟩
theorem nodI_e (nm:ByteArray) (e be rd vd hr hb tr ld:Int) (aA aS aT aW aX aH aV aG aD aP aQ:Option Addr) (nA nS nT nW nX nH nV nG nD nP nQ cA cS cT cW cX cH cV cG cD cP cQ:Nat) (w:World) (hN:∀ V,Calls Tryz.prog 139 #[.string nm] V fun en w'=>en=.returned (.bool true)/\w'=V) (hE:∀ V,Below w.heap.size w V->Calls Tryz.prog 140 #[.agg #[.string nm,.int .i64 e,.int .i64 be,.slice aA nA cA,.slice aS nS cS,.slice aT nT cT,.int .i64 rd,.int .i64 vd,.int .i64 hr,.int .i64 hb,.slice aW nW cW,.int .i64 tr,.slice aX nX cX,.slice aH nH cH,.int .i64 ld,.slice aV nV cV,.slice aG nG cG,.slice aD nD cD,.slice aP nP cP,.slice aQ nQ cQ]] V fun en w'=>en=.returned (.bool false)/\Below V.heap.size V w') :
    Calls Tryz.prog 106 #[.agg #[.string nm,.int .i64 e,.int .i64 be,.slice aA nA cA,.slice aS nS cS,.slice aT nT cT,.int .i64 rd,.int .i64 vd,.int .i64 hr,.int .i64 hb,.slice aW nW cW,.int .i64 tr,.slice aX nX cX,.slice aH nH cH,.int .i64 ld,.slice aV nV cV,.slice aG nG cG,.slice aD nD cD,.slice aP nP cP,.slice aQ nQ cQ]] w fun en w'=>en=.returned (.bool false)/\Below w.heap.size w w':=by
  obtain ⟨w1,hw1⟩:∃ x,w.alloc (.cells #[.string nm,.int .i64 e,.int .i64 be,.slice aA nA cA,.slice aS nS cS,.slice aT nT cT,.int .i64 rd,.int .i64 vd,.int .i64 hr,.int .i64 hb,.slice aW nW cW,.int .i64 tr,.slice aX nX cX,.slice aH nH cH,.int .i64 ld,.slice aV nV cV,.slice aG nG cG,.slice aD nD cD,.slice aP nP cP,.slice aQ nQ cQ] 55)=x:=⟨_,rfl⟩
  have B1:Below w.heap.size w w1:=by rw [<- hw1];exact (Below.refl _ w).alloc (Nat.le_refl _) _
  have k1:Blk w1 w.heap.size 55 [.string nm,.int .i64 e,.int .i64 be,.slice aA nA cA,.slice aS nS cS,.slice aT nT cT,.int .i64 rd,.int .i64 vd,.int .i64 hr,.int .i64 hb,.slice aW nW cW,.int .i64 tr,.slice aX nX cX,.slice aH nH cH,.int .i64 ld,.slice aV nV cV,.slice aG nG cG,.slice aD nD cD,.slice aP nP cP,.slice aQ nQ cQ]:=by rw [<- hw1];exact Blk.new w _ _
  have x0:=k1.cell 0
  simp only [List.getElem?_cons_zero] at x0
  have K1:=hide k1
  clear k1
  have HN:=hide hN
  have HE:=hide hE
  clear hN hE
  go_enter Tryz.func106,Tryz.ntmps106
  go_upto_region 1 with fail
  (try rw [hw1])
  clear hw1
  obtain ⟨M,hM⟩:∃ x,(Value.agg #[.string nm,.int .i64 e,.int .i64 be,.slice aA nA cA,.slice aS nS cS,.slice aT nT cT,.int .i64 rd,.int .i64 vd,.int .i64 hr,.int .i64 hb,.slice aW nW cW,.int .i64 tr,.slice aX nX cX,.slice aH nH cH,.int .i64 ld,.slice aV nV cV,.slice aG nG cG,.slice aD nD cD,.slice aP nP cP,.slice aQ nQ cQ])=x:=⟨_,rfl⟩
  rw [hM] at HE ⊢
  go_wp2_with (first
      | (go_at_call 140;(with_reducible refine (HE.out _ B1).mono ?_);rintro en w2 ⟨rfl,b2⟩;have B2:=B1.trans (b2.mono B1.size);have K2:=hide (K1.out.below b2 K1.out.lt))
      | (refine load_nd _ rfl w.heap.size rfl K1.out rfl hM (by rfl) ?_)
      | (go_at_call 139;(with_reducible refine (HN.out _).mono ?_);rintro en w9 ⟨rfl,rfl⟩)
      | fail)
  go_ret
  exact ⟨rfl,B2⟩
theorem nodI_r (nm:ByteArray) (e be rd vd hr hb tr ld:Int) (aA aS aT aW aX aH aV aG aD aP aQ:Option Addr) (nA nS nT nW nX nH nV nG nD nP nQ cA cS cT cW cX cH cV cG cD cP cQ:Nat) (w:World) (hN:∀ V,Calls Tryz.prog 139 #[.string nm] V fun en w'=>en=.returned (.bool true)/\w'=V) (hE:∀ V,Below w.heap.size w V->Calls Tryz.prog 140 #[.agg #[.string nm,.int .i64 e,.int .i64 be,.slice aA nA cA,.slice aS nS cS,.slice aT nT cT,.int .i64 rd,.int .i64 vd,.int .i64 hr,.int .i64 hb,.slice aW nW cW,.int .i64 tr,.slice aX nX cX,.slice aH nH cH,.int .i64 ld,.slice aV nV cV,.slice aG nG cG,.slice aD nD cD,.slice aP nP cP,.slice aQ nQ cQ]] V fun en w'=>en=.returned (.bool true)/\Below V.heap.size V w') (hR:∀ V,Below w.heap.size w V->Calls Tryz.prog 141 #[.agg #[.string nm,.int .i64 e,.int .i64 be,.slice aA nA cA,.slice aS nS cS,.slice aT nT cT,.int .i64 rd,.int .i64 vd,.int .i64 hr,.int .i64 hb,.slice aW nW cW,.int .i64 tr,.slice aX nX cX,.slice aH nH cH,.int .i64 ld,.slice aV nV cV,.slice aG nG cG,.slice aD nD cD,.slice aP nP cP,.slice aQ nQ cQ]] V fun en w'=>en=.returned (.bool false)/\Below V.heap.size V w') :
    Calls Tryz.prog 106 #[.agg #[.string nm,.int .i64 e,.int .i64 be,.slice aA nA cA,.slice aS nS cS,.slice aT nT cT,.int .i64 rd,.int .i64 vd,.int .i64 hr,.int .i64 hb,.slice aW nW cW,.int .i64 tr,.slice aX nX cX,.slice aH nH cH,.int .i64 ld,.slice aV nV cV,.slice aG nG cG,.slice aD nD cD,.slice aP nP cP,.slice aQ nQ cQ]] w fun en w'=>en=.returned (.bool false)/\Below w.heap.size w w':=by
  obtain ⟨w1,hw1⟩:∃ x,w.alloc (.cells #[.string nm,.int .i64 e,.int .i64 be,.slice aA nA cA,.slice aS nS cS,.slice aT nT cT,.int .i64 rd,.int .i64 vd,.int .i64 hr,.int .i64 hb,.slice aW nW cW,.int .i64 tr,.slice aX nX cX,.slice aH nH cH,.int .i64 ld,.slice aV nV cV,.slice aG nG cG,.slice aD nD cD,.slice aP nP cP,.slice aQ nQ cQ] 55)=x:=⟨_,rfl⟩
  have B1:Below w.heap.size w w1:=by rw [<- hw1];exact (Below.refl _ w).alloc (Nat.le_refl _) _
  have k1:Blk w1 w.heap.size 55 [.string nm,.int .i64 e,.int .i64 be,.slice aA nA cA,.slice aS nS cS,.slice aT nT cT,.int .i64 rd,.int .i64 vd,.int .i64 hr,.int .i64 hb,.slice aW nW cW,.int .i64 tr,.slice aX nX cX,.slice aH nH cH,.int .i64 ld,.slice aV nV cV,.slice aG nG cG,.slice aD nD cD,.slice aP nP cP,.slice aQ nQ cQ]:=by rw [<- hw1];exact Blk.new w _ _
  have x0:=k1.cell 0
  simp only [List.getElem?_cons_zero] at x0
  have K1:=hide k1
  clear k1
  have HN:=hide hN
  have HE:=hide hE
  have HR:=hide hR
  clear hN hE hR
  go_enter Tryz.func106,Tryz.ntmps106
  go_upto_region 1 with fail
  (try rw [hw1])
  clear hw1
  obtain ⟨M,hM⟩:∃ x,(Value.agg #[.string nm,.int .i64 e,.int .i64 be,.slice aA nA cA,.slice aS nS cS,.slice aT nT cT,.int .i64 rd,.int .i64 vd,.int .i64 hr,.int .i64 hb,.slice aW nW cW,.int .i64 tr,.slice aX nX cX,.slice aH nH cH,.int .i64 ld,.slice aV nV cV,.slice aG nG cG,.slice aD nD cD,.slice aP nP cP,.slice aQ nQ cQ])=x:=⟨_,rfl⟩
  rw [hM] at HE HR ⊢
  go_wp2_with (first
      | (go_at_call 141;(with_reducible refine (HR.out _ B2).mono ?_);rintro en w3 ⟨rfl,b3⟩;have B3:=B2.trans (b3.mono B2.size);have K3:=hide (K2.out.below b3 K2.out.lt);have k9:=K3.out;have y3_18:=k9.cell 18;simp only [List.getElem?_cons_zero,List.getElem?_cons_succ] at y3_18;clear k9)
      | (refine load_nd _ rfl w.heap.size rfl K2.out rfl hM (by rfl) ?_)
      | (go_at_call 140;(with_reducible refine (HE.out _ B1).mono ?_);rintro en w2 ⟨rfl,b2⟩;have B2:=B1.trans (b2.mono B1.size);have K2:=hide (K1.out.below b2 K1.out.lt))
      | (refine load_nd _ rfl w.heap.size rfl K1.out rfl hM (by rfl) ?_)
      | (go_at_call 139;(with_reducible refine (HN.out _).mono ?_);rintro en w9 ⟨rfl,rfl⟩)
      | fail)
  go_ret
  exact ⟨rfl,B3⟩
theorem nodI_p (nm:ByteArray) (e be rd vd hr hb tr ld:Int) (aA aS aT aW aX aH aV aG aD aP aQ:Option Addr) (nA nS nT nW nX nH nV nG nD nP nQ cA cS cT cW cX cH cV cG cD cP cQ:Nat) (w:World) (hN:∀ V,Calls Tryz.prog 139 #[.string nm] V fun en w'=>en=.returned (.bool true)/\w'=V) (hE:∀ V,Below w.heap.size w V->Calls Tryz.prog 140 #[.agg #[.string nm,.int .i64 e,.int .i64 be,.slice aA nA cA,.slice aS nS cS,.slice aT nT cT,.int .i64 rd,.int .i64 vd,.int .i64 hr,.int .i64 hb,.slice aW nW cW,.int .i64 tr,.slice aX nX cX,.slice aH nH cH,.int .i64 ld,.slice aV nV cV,.slice aG nG cG,.slice aD nD cD,.slice aP nP cP,.slice aQ nQ cQ]] V fun en w'=>en=.returned (.bool true)/\Below V.heap.size V w') (hR:∀ V,Below w.heap.size w V->Calls Tryz.prog 141 #[.agg #[.string nm,.int .i64 e,.int .i64 be,.slice aA nA cA,.slice aS nS cS,.slice aT nT cT,.int .i64 rd,.int .i64 vd,.int .i64 hr,.int .i64 hb,.slice aW nW cW,.int .i64 tr,.slice aX nX cX,.slice aH nH cH,.int .i64 ld,.slice aV nV cV,.slice aG nG cG,.slice aD nD cD,.slice aP nP cP,.slice aQ nQ cQ]] V fun en w'=>en=.returned (.bool true)/\Below V.heap.size V w') (hP:∀ V,Below w.heap.size w V->Calls Tryz.prog 142 #[.slice aP nP cP] V fun en w'=>en=.returned (.bool false)/\Below V.heap.size V w') :
    Calls Tryz.prog 106 #[.agg #[.string nm,.int .i64 e,.int .i64 be,.slice aA nA cA,.slice aS nS cS,.slice aT nT cT,.int .i64 rd,.int .i64 vd,.int .i64 hr,.int .i64 hb,.slice aW nW cW,.int .i64 tr,.slice aX nX cX,.slice aH nH cH,.int .i64 ld,.slice aV nV cV,.slice aG nG cG,.slice aD nD cD,.slice aP nP cP,.slice aQ nQ cQ]] w fun en w'=>en=.returned (.bool false)/\Below w.heap.size w w':=by
  obtain ⟨w1,hw1⟩:∃ x,w.alloc (.cells #[.string nm,.int .i64 e,.int .i64 be,.slice aA nA cA,.slice aS nS cS,.slice aT nT cT,.int .i64 rd,.int .i64 vd,.int .i64 hr,.int .i64 hb,.slice aW nW cW,.int .i64 tr,.slice aX nX cX,.slice aH nH cH,.int .i64 ld,.slice aV nV cV,.slice aG nG cG,.slice aD nD cD,.slice aP nP cP,.slice aQ nQ cQ] 55)=x:=⟨_,rfl⟩
  have B1:Below w.heap.size w w1:=by rw [<- hw1];exact (Below.refl _ w).alloc (Nat.le_refl _) _
  have k1:Blk w1 w.heap.size 55 [.string nm,.int .i64 e,.int .i64 be,.slice aA nA cA,.slice aS nS cS,.slice aT nT cT,.int .i64 rd,.int .i64 vd,.int .i64 hr,.int .i64 hb,.slice aW nW cW,.int .i64 tr,.slice aX nX cX,.slice aH nH cH,.int .i64 ld,.slice aV nV cV,.slice aG nG cG,.slice aD nD cD,.slice aP nP cP,.slice aQ nQ cQ]:=by rw [<- hw1];exact Blk.new w _ _
  have x0:=k1.cell 0
  simp only [List.getElem?_cons_zero] at x0
  have K1:=hide k1
  clear k1
  have HN:=hide hN
  have HE:=hide hE
  have HR:=hide hR
  have HP:=hide hP
  clear hN hE hR hP
  go_enter Tryz.func106,Tryz.ntmps106
  go_upto_region 1 with fail
  (try rw [hw1])
  clear hw1
  obtain ⟨M,hM⟩:∃ x,(Value.agg #[.string nm,.int .i64 e,.int .i64 be,.slice aA nA cA,.slice aS nS cS,.slice aT nT cT,.int .i64 rd,.int .i64 vd,.int .i64 hr,.int .i64 hb,.slice aW nW cW,.int .i64 tr,.slice aX nX cX,.slice aH nH cH,.int .i64 ld,.slice aV nV cV,.slice aG nG cG,.slice aD nD cD,.slice aP nP cP,.slice aQ nQ cQ])=x:=⟨_,rfl⟩
  rw [hM] at HE HR ⊢
  go_wp2_with (first
      | (go_at_call 142;(with_reducible refine (HP.out _ B3).mono ?_);rintro en w4 ⟨rfl,b4⟩;have B4:=B3.trans (b4.mono B3.size);have K4:=hide (K3.out.below b4 K3.out.lt);have k9:=K4.out;have y4_15:=k9.cell 15;have y4_16:=k9.cell 16;have y4_17:=k9.cell 17;have y4_19:=k9.cell 19;simp only [List.getElem?_cons_zero,List.getElem?_cons_succ] at y4_15 y4_16 y4_17 y4_19;clear k9)
      | (go_at_call 141;(with_reducible refine (HR.out _ B2).mono ?_);rintro en w3 ⟨rfl,b3⟩;have B3:=B2.trans (b3.mono B2.size);have K3:=hide (K2.out.below b3 K2.out.lt);have k9:=K3.out;have y3_18:=k9.cell 18;simp only [List.getElem?_cons_zero,List.getElem?_cons_succ] at y3_18;clear k9)
      | (refine load_nd _ rfl w.heap.size rfl K2.out rfl hM (by rfl) ?_)
      | (go_at_call 140;(with_reducible refine (HE.out _ B1).mono ?_);rintro en w2 ⟨rfl,b2⟩;have B2:=B1.trans (b2.mono B1.size);have K2:=hide (K1.out.below b2 K1.out.lt))
      | (refine load_nd _ rfl w.heap.size rfl K1.out rfl hM (by rfl) ?_)
      | (go_at_call 139;(with_reducible refine (HN.out _).mono ?_);rintro en w9 ⟨rfl,rfl⟩)
      | fail)
  go_ret
  exact ⟨rfl,B4⟩
theorem nodI_v (nm:ByteArray) (e be rd vd hr hb tr ld:Int) (aA aS aT aW aX aH aV aG aD aP aQ:Option Addr) (nA nS nT nW nX nH nV nG nD nP nQ cA cS cT cW cX cH cV cG cD cP cQ:Nat) (w:World) (hN:∀ V,Calls Tryz.prog 139 #[.string nm] V fun en w'=>en=.returned (.bool true)/\w'=V) (hE:∀ V,Below w.heap.size w V->Calls Tryz.prog 140 #[.agg #[.string nm,.int .i64 e,.int .i64 be,.slice aA nA cA,.slice aS nS cS,.slice aT nT cT,.int .i64 rd,.int .i64 vd,.int .i64 hr,.int .i64 hb,.slice aW nW cW,.int .i64 tr,.slice aX nX cX,.slice aH nH cH,.int .i64 ld,.slice aV nV cV,.slice aG nG cG,.slice aD nD cD,.slice aP nP cP,.slice aQ nQ cQ]] V fun en w'=>en=.returned (.bool true)/\Below V.heap.size V w') (hR:∀ V,Below w.heap.size w V->Calls Tryz.prog 141 #[.agg #[.string nm,.int .i64 e,.int .i64 be,.slice aA nA cA,.slice aS nS cS,.slice aT nT cT,.int .i64 rd,.int .i64 vd,.int .i64 hr,.int .i64 hb,.slice aW nW cW,.int .i64 tr,.slice aX nX cX,.slice aH nH cH,.int .i64 ld,.slice aV nV cV,.slice aG nG cG,.slice aD nD cD,.slice aP nP cP,.slice aQ nQ cQ]] V fun en w'=>en=.returned (.bool true)/\Below V.heap.size V w') (hP:∀ V,Below w.heap.size w V->Calls Tryz.prog 142 #[.slice aP nP cP] V fun en w'=>en=.returned (.bool true)/\Below V.heap.size V w') (jV:decide ((nV:Int)<=1000)=false) :
    Calls Tryz.prog 106 #[.agg #[.string nm,.int .i64 e,.int .i64 be,.slice aA nA cA,.slice aS nS cS,.slice aT nT cT,.int .i64 rd,.int .i64 vd,.int .i64 hr,.int .i64 hb,.slice aW nW cW,.int .i64 tr,.slice aX nX cX,.slice aH nH cH,.int .i64 ld,.slice aV nV cV,.slice aG nG cG,.slice aD nD cD,.slice aP nP cP,.slice aQ nQ cQ]] w fun en w'=>en=.returned (.bool false)/\Below w.heap.size w w':=by
  obtain ⟨w1,hw1⟩:∃ x,w.alloc (.cells #[.string nm,.int .i64 e,.int .i64 be,.slice aA nA cA,.slice aS nS cS,.slice aT nT cT,.int .i64 rd,.int .i64 vd,.int .i64 hr,.int .i64 hb,.slice aW nW cW,.int .i64 tr,.slice aX nX cX,.slice aH nH cH,.int .i64 ld,.slice aV nV cV,.slice aG nG cG,.slice aD nD cD,.slice aP nP cP,.slice aQ nQ cQ] 55)=x:=⟨_,rfl⟩
  have B1:Below w.heap.size w w1:=by rw [<- hw1];exact (Below.refl _ w).alloc (Nat.le_refl _) _
  have k1:Blk w1 w.heap.size 55 [.string nm,.int .i64 e,.int .i64 be,.slice aA nA cA,.slice aS nS cS,.slice aT nT cT,.int .i64 rd,.int .i64 vd,.int .i64 hr,.int .i64 hb,.slice aW nW cW,.int .i64 tr,.slice aX nX cX,.slice aH nH cH,.int .i64 ld,.slice aV nV cV,.slice aG nG cG,.slice aD nD cD,.slice aP nP cP,.slice aQ nQ cQ]:=by rw [<- hw1];exact Blk.new w _ _
  have x0:=k1.cell 0
  simp only [List.getElem?_cons_zero] at x0
  have K1:=hide k1
  clear k1
  have HN:=hide hN
  have HE:=hide hE
  have HR:=hide hR
  have HP:=hide hP
  clear hN hE hR hP
  go_enter Tryz.func106,Tryz.ntmps106
  go_upto_region 1 with fail
  (try rw [hw1])
  clear hw1
  obtain ⟨M,hM⟩:∃ x,(Value.agg #[.string nm,.int .i64 e,.int .i64 be,.slice aA nA cA,.slice aS nS cS,.slice aT nT cT,.int .i64 rd,.int .i64 vd,.int .i64 hr,.int .i64 hb,.slice aW nW cW,.int .i64 tr,.slice aX nX cX,.slice aH nH cH,.int .i64 ld,.slice aV nV cV,.slice aG nG cG,.slice aD nD cD,.slice aP nP cP,.slice aQ nQ cQ])=x:=⟨_,rfl⟩
  rw [hM] at HE HR ⊢
  go_wp2_with (first
      | (go_at_call 142;(with_reducible refine (HP.out _ B3).mono ?_);rintro en w4 ⟨rfl,b4⟩;have B4:=B3.trans (b4.mono B3.size);have K4:=hide (K3.out.below b4 K3.out.lt);have k9:=K4.out;have y4_15:=k9.cell 15;have y4_16:=k9.cell 16;have y4_17:=k9.cell 17;have y4_19:=k9.cell 19;simp only [List.getElem?_cons_zero,List.getElem?_cons_succ] at y4_15 y4_16 y4_17 y4_19;clear k9)
      | (go_at_call 141;(with_reducible refine (HR.out _ B2).mono ?_);rintro en w3 ⟨rfl,b3⟩;have B3:=B2.trans (b3.mono B2.size);have K3:=hide (K2.out.below b3 K2.out.lt);have k9:=K3.out;have y3_18:=k9.cell 18;simp only [List.getElem?_cons_zero,List.getElem?_cons_succ] at y3_18;clear k9)
      | (refine load_nd _ rfl w.heap.size rfl K2.out rfl hM (by rfl) ?_)
      | (go_at_call 140;(with_reducible refine (HE.out _ B1).mono ?_);rintro en w2 ⟨rfl,b2⟩;have B2:=B1.trans (b2.mono B1.size);have K2:=hide (K1.out.below b2 K1.out.lt))
      | (refine load_nd _ rfl w.heap.size rfl K1.out rfl hM (by rfl) ?_)
      | (go_at_call 139;(with_reducible refine (HN.out _).mono ?_);rintro en w9 ⟨rfl,rfl⟩)
      | fail)
  go_ret
  exact ⟨rfl,B4⟩
theorem nodI_g (nm:ByteArray) (e be rd vd hr hb tr ld:Int) (aA aS aT aW aX aH aV aG aD aP aQ:Option Addr) (nA nS nT nW nX nH nV nG nD nP nQ cA cS cT cW cX cH cV cG cD cP cQ:Nat) (w:World) (hN:∀ V,Calls Tryz.prog 139 #[.string nm] V fun en w'=>en=.returned (.bool true)/\w'=V) (hE:∀ V,Below w.heap.size w V->Calls Tryz.prog 140 #[.agg #[.string nm,.int .i64 e,.int .i64 be,.slice aA nA cA,.slice aS nS cS,.slice aT nT cT,.int .i64 rd,.int .i64 vd,.int .i64 hr,.int .i64 hb,.slice aW nW cW,.int .i64 tr,.slice aX nX cX,.slice aH nH cH,.int .i64 ld,.slice aV nV cV,.slice aG nG cG,.slice aD nD cD,.slice aP nP cP,.slice aQ nQ cQ]] V fun en w'=>en=.returned (.bool true)/\Below V.heap.size V w') (hR:∀ V,Below w.heap.size w V->Calls Tryz.prog 141 #[.agg #[.string nm,.int .i64 e,.int .i64 be,.slice aA nA cA,.slice aS nS cS,.slice aT nT cT,.int .i64 rd,.int .i64 vd,.int .i64 hr,.int .i64 hb,.slice aW nW cW,.int .i64 tr,.slice aX nX cX,.slice aH nH cH,.int .i64 ld,.slice aV nV cV,.slice aG nG cG,.slice aD nD cD,.slice aP nP cP,.slice aQ nQ cQ]] V fun en w'=>en=.returned (.bool true)/\Below V.heap.size V w') (hP:∀ V,Below w.heap.size w V->Calls Tryz.prog 142 #[.slice aP nP cP] V fun en w'=>en=.returned (.bool true)/\Below V.heap.size V w') (jV:decide ((nV:Int)<=1000)=true) (jG:decide ((nG:Int)<=1000)=false) :
    Calls Tryz.prog 106 #[.agg #[.string nm,.int .i64 e,.int .i64 be,.slice aA nA cA,.slice aS nS cS,.slice aT nT cT,.int .i64 rd,.int .i64 vd,.int .i64 hr,.int .i64 hb,.slice aW nW cW,.int .i64 tr,.slice aX nX cX,.slice aH nH cH,.int .i64 ld,.slice aV nV cV,.slice aG nG cG,.slice aD nD cD,.slice aP nP cP,.slice aQ nQ cQ]] w fun en w'=>en=.returned (.bool false)/\Below w.heap.size w w':=by
  obtain ⟨w1,hw1⟩:∃ x,w.alloc (.cells #[.string nm,.int .i64 e,.int .i64 be,.slice aA nA cA,.slice aS nS cS,.slice aT nT cT,.int .i64 rd,.int .i64 vd,.int .i64 hr,.int .i64 hb,.slice aW nW cW,.int .i64 tr,.slice aX nX cX,.slice aH nH cH,.int .i64 ld,.slice aV nV cV,.slice aG nG cG,.slice aD nD cD,.slice aP nP cP,.slice aQ nQ cQ] 55)=x:=⟨_,rfl⟩
  have B1:Below w.heap.size w w1:=by rw [<- hw1];exact (Below.refl _ w).alloc (Nat.le_refl _) _
  have k1:Blk w1 w.heap.size 55 [.string nm,.int .i64 e,.int .i64 be,.slice aA nA cA,.slice aS nS cS,.slice aT nT cT,.int .i64 rd,.int .i64 vd,.int .i64 hr,.int .i64 hb,.slice aW nW cW,.int .i64 tr,.slice aX nX cX,.slice aH nH cH,.int .i64 ld,.slice aV nV cV,.slice aG nG cG,.slice aD nD cD,.slice aP nP cP,.slice aQ nQ cQ]:=by rw [<- hw1];exact Blk.new w _ _
  have x0:=k1.cell 0
  simp only [List.getElem?_cons_zero] at x0
  have K1:=hide k1
  clear k1
  have HN:=hide hN
  have HE:=hide hE
  have HR:=hide hR
  have HP:=hide hP
  clear hN hE hR hP
  go_enter Tryz.func106,Tryz.ntmps106
  go_upto_region 1 with fail
  (try rw [hw1])
  clear hw1
  obtain ⟨M,hM⟩:∃ x,(Value.agg #[.string nm,.int .i64 e,.int .i64 be,.slice aA nA cA,.slice aS nS cS,.slice aT nT cT,.int .i64 rd,.int .i64 vd,.int .i64 hr,.int .i64 hb,.slice aW nW cW,.int .i64 tr,.slice aX nX cX,.slice aH nH cH,.int .i64 ld,.slice aV nV cV,.slice aG nG cG,.slice aD nD cD,.slice aP nP cP,.slice aQ nQ cQ])=x:=⟨_,rfl⟩
  rw [hM] at HE HR ⊢
  go_wp2_with (first
      | (go_at_call 142;(with_reducible refine (HP.out _ B3).mono ?_);rintro en w4 ⟨rfl,b4⟩;have B4:=B3.trans (b4.mono B3.size);have K4:=hide (K3.out.below b4 K3.out.lt);have k9:=K4.out;have y4_15:=k9.cell 15;have y4_16:=k9.cell 16;have y4_17:=k9.cell 17;have y4_19:=k9.cell 19;simp only [List.getElem?_cons_zero,List.getElem?_cons_succ] at y4_15 y4_16 y4_17 y4_19;clear k9)
      | (go_at_call 141;(with_reducible refine (HR.out _ B2).mono ?_);rintro en w3 ⟨rfl,b3⟩;have B3:=B2.trans (b3.mono B2.size);have K3:=hide (K2.out.below b3 K2.out.lt);have k9:=K3.out;have y3_18:=k9.cell 18;simp only [List.getElem?_cons_zero,List.getElem?_cons_succ] at y3_18;clear k9)
      | (refine load_nd _ rfl w.heap.size rfl K2.out rfl hM (by rfl) ?_)
      | (go_at_call 140;(with_reducible refine (HE.out _ B1).mono ?_);rintro en w2 ⟨rfl,b2⟩;have B2:=B1.trans (b2.mono B1.size);have K2:=hide (K1.out.below b2 K1.out.lt))
      | (refine load_nd _ rfl w.heap.size rfl K1.out rfl hM (by rfl) ?_)
      | (go_at_call 139;(with_reducible refine (HN.out _).mono ?_);rintro en w9 ⟨rfl,rfl⟩)
      | fail)
  go_ret
  exact ⟨rfl,B4⟩
theorem nodI_d (nm:ByteArray) (e be rd vd hr hb tr ld:Int) (aA aS aT aW aX aH aV aG aD aP aQ:Option Addr) (nA nS nT nW nX nH nV nG nD nP nQ cA cS cT cW cX cH cV cG cD cP cQ:Nat) (w:World) (hN:∀ V,Calls Tryz.prog 139 #[.string nm] V fun en w'=>en=.returned (.bool true)/\w'=V) (hE:∀ V,Below w.heap.size w V->Calls Tryz.prog 140 #[.agg #[.string nm,.int .i64 e,.int .i64 be,.slice aA nA cA,.slice aS nS cS,.slice aT nT cT,.int .i64 rd,.int .i64 vd,.int .i64 hr,.int .i64 hb,.slice aW nW cW,.int .i64 tr,.slice aX nX cX,.slice aH nH cH,.int .i64 ld,.slice aV nV cV,.slice aG nG cG,.slice aD nD cD,.slice aP nP cP,.slice aQ nQ cQ]] V fun en w'=>en=.returned (.bool true)/\Below V.heap.size V w') (hR:∀ V,Below w.heap.size w V->Calls Tryz.prog 141 #[.agg #[.string nm,.int .i64 e,.int .i64 be,.slice aA nA cA,.slice aS nS cS,.slice aT nT cT,.int .i64 rd,.int .i64 vd,.int .i64 hr,.int .i64 hb,.slice aW nW cW,.int .i64 tr,.slice aX nX cX,.slice aH nH cH,.int .i64 ld,.slice aV nV cV,.slice aG nG cG,.slice aD nD cD,.slice aP nP cP,.slice aQ nQ cQ]] V fun en w'=>en=.returned (.bool true)/\Below V.heap.size V w') (hP:∀ V,Below w.heap.size w V->Calls Tryz.prog 142 #[.slice aP nP cP] V fun en w'=>en=.returned (.bool true)/\Below V.heap.size V w') (jV:decide ((nV:Int)<=1000)=true) (jG:decide ((nG:Int)<=1000)=true) (jD:decide ((nD:Int)<=200)=false) :
    Calls Tryz.prog 106 #[.agg #[.string nm,.int .i64 e,.int .i64 be,.slice aA nA cA,.slice aS nS cS,.slice aT nT cT,.int .i64 rd,.int .i64 vd,.int .i64 hr,.int .i64 hb,.slice aW nW cW,.int .i64 tr,.slice aX nX cX,.slice aH nH cH,.int .i64 ld,.slice aV nV cV,.slice aG nG cG,.slice aD nD cD,.slice aP nP cP,.slice aQ nQ cQ]] w fun en w'=>en=.returned (.bool false)/\Below w.heap.size w w':=by
  obtain ⟨w1,hw1⟩:∃ x,w.alloc (.cells #[.string nm,.int .i64 e,.int .i64 be,.slice aA nA cA,.slice aS nS cS,.slice aT nT cT,.int .i64 rd,.int .i64 vd,.int .i64 hr,.int .i64 hb,.slice aW nW cW,.int .i64 tr,.slice aX nX cX,.slice aH nH cH,.int .i64 ld,.slice aV nV cV,.slice aG nG cG,.slice aD nD cD,.slice aP nP cP,.slice aQ nQ cQ] 55)=x:=⟨_,rfl⟩
  have B1:Below w.heap.size w w1:=by rw [<- hw1];exact (Below.refl _ w).alloc (Nat.le_refl _) _
  have k1:Blk w1 w.heap.size 55 [.string nm,.int .i64 e,.int .i64 be,.slice aA nA cA,.slice aS nS cS,.slice aT nT cT,.int .i64 rd,.int .i64 vd,.int .i64 hr,.int .i64 hb,.slice aW nW cW,.int .i64 tr,.slice aX nX cX,.slice aH nH cH,.int .i64 ld,.slice aV nV cV,.slice aG nG cG,.slice aD nD cD,.slice aP nP cP,.slice aQ nQ cQ]:=by rw [<- hw1];exact Blk.new w _ _
  have x0:=k1.cell 0
  simp only [List.getElem?_cons_zero] at x0
  have K1:=hide k1
  clear k1
  have HN:=hide hN
  have HE:=hide hE
  have HR:=hide hR
  have HP:=hide hP
  clear hN hE hR hP
  go_enter Tryz.func106,Tryz.ntmps106
  go_upto_region 1 with fail
  (try rw [hw1])
  clear hw1
  obtain ⟨M,hM⟩:∃ x,(Value.agg #[.string nm,.int .i64 e,.int .i64 be,.slice aA nA cA,.slice aS nS cS,.slice aT nT cT,.int .i64 rd,.int .i64 vd,.int .i64 hr,.int .i64 hb,.slice aW nW cW,.int .i64 tr,.slice aX nX cX,.slice aH nH cH,.int .i64 ld,.slice aV nV cV,.slice aG nG cG,.slice aD nD cD,.slice aP nP cP,.slice aQ nQ cQ])=x:=⟨_,rfl⟩
  rw [hM] at HE HR ⊢
  go_wp2_with (first
      | (go_at_call 142;(with_reducible refine (HP.out _ B3).mono ?_);rintro en w4 ⟨rfl,b4⟩;have B4:=B3.trans (b4.mono B3.size);have K4:=hide (K3.out.below b4 K3.out.lt);have k9:=K4.out;have y4_15:=k9.cell 15;have y4_16:=k9.cell 16;have y4_17:=k9.cell 17;have y4_19:=k9.cell 19;simp only [List.getElem?_cons_zero,List.getElem?_cons_succ] at y4_15 y4_16 y4_17 y4_19;clear k9)
      | (go_at_call 141;(with_reducible refine (HR.out _ B2).mono ?_);rintro en w3 ⟨rfl,b3⟩;have B3:=B2.trans (b3.mono B2.size);have K3:=hide (K2.out.below b3 K2.out.lt);have k9:=K3.out;have y3_18:=k9.cell 18;simp only [List.getElem?_cons_zero,List.getElem?_cons_succ] at y3_18;clear k9)
      | (refine load_nd _ rfl w.heap.size rfl K2.out rfl hM (by rfl) ?_)
      | (go_at_call 140;(with_reducible refine (HE.out _ B1).mono ?_);rintro en w2 ⟨rfl,b2⟩;have B2:=B1.trans (b2.mono B1.size);have K2:=hide (K1.out.below b2 K1.out.lt))
      | (refine load_nd _ rfl w.heap.size rfl K1.out rfl hM (by rfl) ?_)
      | (go_at_call 139;(with_reducible refine (HN.out _).mono ?_);rintro en w9 ⟨rfl,rfl⟩)
      | fail)
  go_ret
  exact ⟨rfl,B4⟩
theorem nodI_q (nm:ByteArray) (e be rd vd hr hb tr ld:Int) (aA aS aT aW aX aH aV aG aD aP aQ:Option Addr) (nA nS nT nW nX nH nV nG nD nP nQ cA cS cT cW cX cH cV cG cD cP cQ:Nat) (w:World) (hN:∀ V,Calls Tryz.prog 139 #[.string nm] V fun en w'=>en=.returned (.bool true)/\w'=V) (hE:∀ V,Below w.heap.size w V->Calls Tryz.prog 140 #[.agg #[.string nm,.int .i64 e,.int .i64 be,.slice aA nA cA,.slice aS nS cS,.slice aT nT cT,.int .i64 rd,.int .i64 vd,.int .i64 hr,.int .i64 hb,.slice aW nW cW,.int .i64 tr,.slice aX nX cX,.slice aH nH cH,.int .i64 ld,.slice aV nV cV,.slice aG nG cG,.slice aD nD cD,.slice aP nP cP,.slice aQ nQ cQ]] V fun en w'=>en=.returned (.bool true)/\Below V.heap.size V w') (hR:∀ V,Below w.heap.size w V->Calls Tryz.prog 141 #[.agg #[.string nm,.int .i64 e,.int .i64 be,.slice aA nA cA,.slice aS nS cS,.slice aT nT cT,.int .i64 rd,.int .i64 vd,.int .i64 hr,.int .i64 hb,.slice aW nW cW,.int .i64 tr,.slice aX nX cX,.slice aH nH cH,.int .i64 ld,.slice aV nV cV,.slice aG nG cG,.slice aD nD cD,.slice aP nP cP,.slice aQ nQ cQ]] V fun en w'=>en=.returned (.bool true)/\Below V.heap.size V w') (hP:∀ V,Below w.heap.size w V->Calls Tryz.prog 142 #[.slice aP nP cP] V fun en w'=>en=.returned (.bool true)/\Below V.heap.size V w') (jV:decide ((nV:Int)<=1000)=true) (jG:decide ((nG:Int)<=1000)=true) (jD:decide ((nD:Int)<=200)=true) :
    Calls Tryz.prog 106 #[.agg #[.string nm,.int .i64 e,.int .i64 be,.slice aA nA cA,.slice aS nS cS,.slice aT nT cT,.int .i64 rd,.int .i64 vd,.int .i64 hr,.int .i64 hb,.slice aW nW cW,.int .i64 tr,.slice aX nX cX,.slice aH nH cH,.int .i64 ld,.slice aV nV cV,.slice aG nG cG,.slice aD nD cD,.slice aP nP cP,.slice aQ nQ cQ]] w fun en w'=>en=.returned (.bool (decide ((nQ:Int)<=200)))/\Below w.heap.size w w':=by
  obtain ⟨w1,hw1⟩:∃ x,w.alloc (.cells #[.string nm,.int .i64 e,.int .i64 be,.slice aA nA cA,.slice aS nS cS,.slice aT nT cT,.int .i64 rd,.int .i64 vd,.int .i64 hr,.int .i64 hb,.slice aW nW cW,.int .i64 tr,.slice aX nX cX,.slice aH nH cH,.int .i64 ld,.slice aV nV cV,.slice aG nG cG,.slice aD nD cD,.slice aP nP cP,.slice aQ nQ cQ] 55)=x:=⟨_,rfl⟩
  have B1:Below w.heap.size w w1:=by rw [<- hw1];exact (Below.refl _ w).alloc (Nat.le_refl _) _
  have k1:Blk w1 w.heap.size 55 [.string nm,.int .i64 e,.int .i64 be,.slice aA nA cA,.slice aS nS cS,.slice aT nT cT,.int .i64 rd,.int .i64 vd,.int .i64 hr,.int .i64 hb,.slice aW nW cW,.int .i64 tr,.slice aX nX cX,.slice aH nH cH,.int .i64 ld,.slice aV nV cV,.slice aG nG cG,.slice aD nD cD,.slice aP nP cP,.slice aQ nQ cQ]:=by rw [<- hw1];exact Blk.new w _ _
  have x0:=k1.cell 0
  simp only [List.getElem?_cons_zero] at x0
  have K1:=hide k1
  clear k1
  have HN:=hide hN
  have HE:=hide hE
  have HR:=hide hR
  have HP:=hide hP
  clear hN hE hR hP
  go_enter Tryz.func106,Tryz.ntmps106
  go_upto_region 1 with fail
  (try rw [hw1])
  clear hw1
  obtain ⟨M,hM⟩:∃ x,(Value.agg #[.string nm,.int .i64 e,.int .i64 be,.slice aA nA cA,.slice aS nS cS,.slice aT nT cT,.int .i64 rd,.int .i64 vd,.int .i64 hr,.int .i64 hb,.slice aW nW cW,.int .i64 tr,.slice aX nX cX,.slice aH nH cH,.int .i64 ld,.slice aV nV cV,.slice aG nG cG,.slice aD nD cD,.slice aP nP cP,.slice aQ nQ cQ])=x:=⟨_,rfl⟩
  rw [hM] at HE HR ⊢
  go_wp2_with (first
      | (go_at_call 142;(with_reducible refine (HP.out _ B3).mono ?_);rintro en w4 ⟨rfl,b4⟩;have B4:=B3.trans (b4.mono B3.size);have K4:=hide (K3.out.below b4 K3.out.lt);have k9:=K4.out;have y4_15:=k9.cell 15;have y4_16:=k9.cell 16;have y4_17:=k9.cell 17;have y4_19:=k9.cell 19;simp only [List.getElem?_cons_zero,List.getElem?_cons_succ] at y4_15 y4_16 y4_17 y4_19;clear k9)
      | (go_at_call 141;(with_reducible refine (HR.out _ B2).mono ?_);rintro en w3 ⟨rfl,b3⟩;have B3:=B2.trans (b3.mono B2.size);have K3:=hide (K2.out.below b3 K2.out.lt);have k9:=K3.out;have y3_18:=k9.cell 18;simp only [List.getElem?_cons_zero,List.getElem?_cons_succ] at y3_18;clear k9)
      | (refine load_nd _ rfl w.heap.size rfl K2.out rfl hM (by rfl) ?_)
      | (go_at_call 140;(with_reducible refine (HE.out _ B1).mono ?_);rintro en w2 ⟨rfl,b2⟩;have B2:=B1.trans (b2.mono B1.size);have K2:=hide (K1.out.below b2 K1.out.lt))
      | (refine load_nd _ rfl w.heap.size rfl K1.out rfl hM (by rfl) ?_)
      | (go_at_call 139;(with_reducible refine (HN.out _).mono ?_);rintro en w9 ⟨rfl,rfl⟩)
      | fail)
  go_ret
  exact ⟨rfl,B4⟩
theorem implNodeOk_any (p:Nd) (u:Nv) (w:World) (hr:RdNd w p u) (hf:FewNd p) (hg:FitNd p) :
    Calls Tryz.prog 106 #[noV p u] w fun en w'=>en=.returned (.bool (nodB p))/\Below w.heap.size w w':=by
  have HF:Hid (nodB p=(nmB p.nm && (epkB p.la p.st p.tt p.ep p.be && (rdsB p.st p.rd p.vd p.ld p.hr p.hb p.tr p.hw p.tw p.th && (poolB p.pl && (decide (p.vo.length<=1000) && (decide (p.go.length<=1000) && (decide (p.dn.length<=200) && decide (p.ps.length<=200))))))))):=hide rfl
  generalize nodB p=X at HF ⊢
  obtain ⟨nm,ep,be,la,st,tt,rd,vd,hr,hb,hw,tr,tw,th,ld,vo,go,dn,pl,ps⟩:=p
  obtain ⟨ya,ys,yt,yw,yx,yh,yv,yg,yd,yp,yq⟩:=u
  obtain ⟨hya,hys,hyt,hyw,hyx,hyh,hyv,hyg,hyd,hyp,hyq⟩:=hr
  simp only at *
  obtain ⟨ada,cpa,rfl⟩:=hya.shape
  obtain ⟨ads,cps,rfl⟩:=hys.shape
  obtain ⟨adt,cpt,rfl⟩:=hyt.shape
  obtain ⟨adw,cpw,rfl⟩:=hyw.shape
  obtain ⟨adx,cpx,rfl⟩:=hyx.shape
  obtain ⟨adh,cph,rfl⟩:=hyh.shape
  obtain ⟨adv,cpv,rfl⟩:=hyv.shape
  obtain ⟨adg,cpg,rfl⟩:=hyg.shape
  obtain ⟨add,cpd,rfl⟩:=hyd.shape
  obtain ⟨adp,cpp,rfl⟩:=hyp.shape
  obtain ⟨adq,cpq,rfl⟩:=hyq.shape
  simp only [noV]
  have HN:=hide (fun V=>implNameOk_any nm V hg.znm)
  have HE:=hide (fun V (hV:Below w.heap.size w V)=>implEpochOk_any nm ep be rd vd hr hb tr ld ada ads adt adw adx adh adv adg add adp adq hw.length tw.length th.length vo.length go.length dn.length pl.length ps.length cpa cps cpt cpw cpx cph cpv cpg cpd cpp cpq la st tt V (hya.below hV (Nat.le_refl _)) (hys.below hV (Nat.le_refl _)) (hyt.below hV (Nat.le_refl _)) hf.na hf.ns hf.nt (fun a ha=>⟨(hg.ga a ha).1,hf.fa a ha⟩) hg.gs hf.ft (trS_of hg.gt))
  have HR:=hide (fun (hm:ModV st) V (hV:Below w.heap.size w V)=>implRoundsOk_any nm ep be rd vd hr hb tr ld ada ads adt adw adx adh adv adg add adp adq la.length tt.length vo.length go.length dn.length pl.length ps.length cpa cps cpt cpw cpx cph cpv cpg cpd cpp cpq st hw tw th V (hys.below hV (Nat.le_refl _)) (hyw.below hV (Nat.le_refl _)) (hyx.below hV (Nat.le_refl _)) (hyh.below hV (Nat.le_refl _)) hf.ns hf.nw hf.nx hf.nh hg.gw hg.gx hm)
  have HP:=hide (fun V (hV:Below w.heap.size w V)=>implPoolOk_any (.slice adp pl.length cpp) pl V (hyp.below hV (Nat.le_refl _)) hf.np hg.gp)
  have HM:=hide (show epkB la st tt ep be=true->ModV st from epk_mod)
  generalize nmB nm=N0 at HF HN
  generalize epkB la st tt ep be=E0 at HF HE HM
  generalize rdsB st rd vd ld hr hb tr hw tw th=R0 at HF HR
  generalize poolB pl=P0 at HF HP
  clear hya hys hyt hyw hyx hyh hyv hyg hyd hyp hyq hf hg
  cases N0
  · rw [HF.out,Bool.false_and]
    exact nodI_n nm ep be rd vd hr hb tr ld ada ads adt adw adx adh adv adg add adp adq la.length st.length tt.length hw.length tw.length th.length vo.length go.length dn.length pl.length ps.length cpa cps cpt cpw cpx cph cpv cpg cpd cpp cpq w HN.out
  · rw [Bool.true_and] at HF
    cases E0
    · rw [HF.out,Bool.false_and]
      exact nodI_e nm ep be rd vd hr hb tr ld ada ads adt adw adx adh adv adg add adp adq la.length st.length tt.length hw.length tw.length th.length vo.length go.length dn.length pl.length ps.length cpa cps cpt cpw cpx cph cpv cpg cpd cpp cpq w HN.out HE.out
    · rw [Bool.true_and] at HF
      have HR:=hide (HR.out (HM.out rfl))
      cases R0
      · rw [HF.out,Bool.false_and]
        exact nodI_r nm ep be rd vd hr hb tr ld ada ads adt adw adx adh adv adg add adp adq la.length st.length tt.length hw.length tw.length th.length vo.length go.length dn.length pl.length ps.length cpa cps cpt cpw cpx cph cpv cpg cpd cpp cpq w HN.out HE.out HR.out
      · rw [Bool.true_and] at HF
        cases P0
        · rw [HF.out,Bool.false_and]
          exact nodI_p nm ep be rd vd hr hb tr ld ada ads adt adw adx adh adv adg add adp adq la.length st.length tt.length hw.length tw.length th.length vo.length go.length dn.length pl.length ps.length cpa cps cpt cpw cpx cph cpv cpg cpd cpp cpq w HN.out HE.out HR.out HP.out
        · rw [Bool.true_and] at HF
          by_cases iV:vo.length<=1000
          · rw [decide_eq_true iV,Bool.true_and] at HF
            have jV:decide ((vo.length:Int)<=1000)=true:=by rw [decide_eq_true_iff];omega
            by_cases iG:go.length<=1000
            · rw [decide_eq_true iG,Bool.true_and] at HF
              have jG:decide ((go.length:Int)<=1000)=true:=by rw [decide_eq_true_iff];omega
              by_cases iD:dn.length<=200
              · rw [decide_eq_true iD,Bool.true_and] at HF
                have jD:decide ((dn.length:Int)<=200)=true:=by rw [decide_eq_true_iff];omega
                have HQ:decide ((ps.length:Int)<=200)=decide (ps.length<=200):=by rw [decide_eq_decide];omega
                rw [<- HQ] at HF
                rw [HF.out]
                exact nodI_q nm ep be rd vd hr hb tr ld ada ads adt adw adx adh adv adg add adp adq la.length st.length tt.length hw.length tw.length th.length vo.length go.length dn.length pl.length ps.length cpa cps cpt cpw cpx cph cpv cpg cpd cpp cpq w HN.out HE.out HR.out HP.out jV jG jD
              · rw [decide_eq_false iD,Bool.false_and] at HF
                have jD:decide ((dn.length:Int)<=200)=false:=by rw [decide_eq_false_iff_not];omega
                rw [HF.out]
                exact nodI_d nm ep be rd vd hr hb tr ld ada ads adt adw adx adh adv adg add adp adq la.length st.length tt.length hw.length tw.length th.length vo.length go.length dn.length pl.length ps.length cpa cps cpt cpw cpx cph cpv cpg cpd cpp cpq w HN.out HE.out HR.out HP.out jV jG jD
            · rw [decide_eq_false iG,Bool.false_and] at HF
              have jG:decide ((go.length:Int)<=1000)=false:=by rw [decide_eq_false_iff_not];omega
              rw [HF.out]
              exact nodI_g nm ep be rd vd hr hb tr ld ada ads adt adw adx adh adv adg add adp adq la.length st.length tt.length hw.length tw.length th.length vo.length go.length dn.length pl.length ps.length cpa cps cpt cpw cpx cph cpv cpg cpd cpp cpq w HN.out HE.out HR.out HP.out jV jG
          · rw [decide_eq_false iV,Bool.false_and] at HF
            have jV:decide ((vo.length:Int)<=1000)=false:=by rw [decide_eq_false_iff_not];omega
            rw [HF.out]
            exact nodI_v nm ep be rd vd hr hb tr ld ada ads adt adw adx adh adv adg add adp adq la.length st.length tt.length hw.length tw.length th.length vo.length go.length dn.length pl.length ps.length cpa cps cpt cpw cpx cph cpv cpg cpd cpp cpq w HN.out HE.out HR.out HP.out jV
end Go.Proofs.YtljeklmopjkjjaaGreatDoor
namespace Go.Proofs.YtljeklmopjkjjaaGreatDoor
open Go.RowKit
set_option linter.unusedVariables false
def errV (b0:Addr):Value:=.iface 248 (.pointer (some b0))
def Gc (w:World) (b0:Addr):Prop:=w.cell? ⟨0,0,none⟩=some (errV b0)
theorem Gc.below {w w':World} {b0:Addr} {K:Nat} (h:Gc w b0) (hb:Below K w w') (hK:0 < K):Gc w' b0:=(hb.cell (p:=⟨0,0,none⟩) hK).trans h
theorem implNeed_yes (w:World):Calls Tryz.prog 105 #[.bool true] w fun e w'=>e=.returned (.tuple #[])/\w'=w:=by
  go_enter Tryz.func105,Tryz.ntmps105
  go_wp2
  go_end0
  exact ⟨rfl,rfl⟩
theorem implNeed_no (b0:Addr) (w:World) (h:Gc w b0):Calls Tryz.prog 105 #[.bool false] w fun e w'=>e=.panicked [{ v:=errV b0,recovered:=false }]/\w'=w:=by
  unfold Gc errV at h
  go_enter Tryz.func105,Tryz.ntmps105
  go_wp2
  exact ⟨rfl,rfl,rfl⟩
theorem Tryz.infoT24:(Tryz.prog.info? 92).map (·.size)=some 24:=by kernel_rfl
theorem forget_any (B:Nat) (cs:List Value) (w:World) (h:Blk w B 92 cs) (hl:cs.length=24) :
    Calls Tryz.prog 75 #[.pointer (some ⟨B,0,none⟩)] w fun e w'=>e=.returned (.tuple #[])/\Blk w' B 92 (((cs.set 15 (.slice none 0 0)).set 16 (.slice none 0 0)).set 18 (.slice none 0 0))/\w.grownBy w' (some B):=by
  have c15:=h.cell 15
  have c16:=h.cell 16
  have c18:=h.cell 18
  rw [List.getElem?_eq_getElem (by omega)] at c15 c16 c18
  have f15:=h.frozen 15
  have f16:=h.frozen 16
  have f18:=h.frozen 18
  have HK:=hide (((h.setC 15 (.slice none 0 0)).setC 16 (.slice none 0 0)).setC 18 (.slice none 0 0))
  have HG:=hide (grownS_trans9 (grownS_trans9 (grown_set w B 15 (.slice none 0 0)) (grown_set _ B 16 (.slice none 0 0))) (grown_set _ B 18 (.slice none 0 0)))
  generalize cs[15]'(by omega)=x15 at c15
  generalize cs[16]'(by omega)=x16 at c16
  generalize cs[18]'(by omega)=x18 at c18
  clear h
  go_enter Tryz.func75,Tryz.ntmps75
  go_wp2
  go_end0
  exact ⟨rfl,HK.out,HG.out⟩
theorem rebootDo_any (B:Nat) (cs:List Value) (w:World) (h:Blk w B 92 cs) (hl:cs.length=24) :
    Calls Tryz.prog 74 #[.pointer (some ⟨B,0,none⟩)] w fun e w'=>e=.returned (.tuple #[])/\Blk w' B 92 (((cs.set 15 (.slice none 0 0)).set 16 (.slice none 0 0)).set 18 (.slice none 0 0))/\w.grownBy w' (some B):=by
  have HF:=hide (forget_any B cs w h hl)
  clear h
  go_enter Tryz.func74,Tryz.ntmps74
  go_wp2_with fail
  refine HF.out.mono ?_
  rintro e w1 ⟨rfl,h1,h2⟩
  have H1:=hide h1
  have H2:=hide h2
  clear h1 h2
  go_wp2
  go_end0
  exact ⟨rfl,H1.out,H2.out⟩
theorem tryIdle_any (p1 p2 p3:Addr) (w:World) :
    CallsD Tryz.prog 104 #[.pointer (some p1),.pointer (some p2),.pointer (some p3)] .returning w fun e u' w'=>e=.returned (.tuple #[])/\u'=.returning/\w'=w:=by
  refine callsD_of_wpS Tryz.func104 rfl fun c₀ cs hu=>?_
  apply wpS_seq
  apply wpS_region
  simp [wpOpsS,go_sem,recoverD,hu,Tryz.ntmps104,Exit.thenS]
  refine wpS_cond (t:=false) (by simp [Act.eval,Array.replicate]) ?_
  simp only [Bool.false_eq_true,if_false]
  refine wpS_of_wp (wp_skip ?_)
  cases c₀
  simp_all [bodyPostS,results,Tryz.results104]
theorem tryCatch_any (B1 B2 B3:Nat) (u0 u1 u2 u3 u4 u5 u6 u7 u8 u9 u10 u11 u12 u13 u14 u15 u16 u17 u18 u19:Value) (xs:List Value) (t:Bool) (U:TypeId) (pv:Value) (older:List PanicEntry) (w:World) (h1:Blk w B1 55 [u0,u1,u2,u3,u4,u5,u6,u7,u8,u9,u10,u11,u12,u13,u14,u15,u16,u17,u18,u19]) (ho:([u0,u1,u2,u3,u4,u5,u6,u7,u8,u9,u10,u11,u12,u13,u14,u15,u16,u17,u18,u19,.slice none 0 0,.slice none 0 0,.slice none 0 0,.bool false]:List Value).all (·.oneCell')=true) (h2:Blk w B2 92 xs) (hl:xs.length=24) (h3:Blk w B3 4 [.bool t]) (h12:B1 ≠ B2) (h23:B3 ≠ B2) :
    CallsD Tryz.prog 104 #[.pointer (some ⟨B1,0,none⟩),.pointer (some ⟨B2,0,none⟩),.pointer (some ⟨B3,0,none⟩)] (.panicking ({ v:=.iface U pv,recovered:=false } :: older)) w fun e u' w'=>e=.returned (.tuple #[])/\u'=.panicking ({ v:=.iface U pv,recovered:=true } :: older)/\Blk w' B2 92 [u0,u1,u2,u3,u4,u5,u6,u7,u8,u9,u10,u11,u12,u13,u14,u15,u16,u17,u18,u19,.slice none 0 0,.slice none 0 0,.slice none 0 0,.bool false]/\w'.cell? ⟨B3,0,none⟩=some (.bool false)/\Oth (fun g=>g=B2\/g=B3) w w':=by
  have HL:=hide (blk_range h1)
  obtain ⟨F,hF⟩:∃ x,([u0,u1,u2,u3,u4,u5,u6,u7,u8,u9,u10,u11,u12,u13,u14,u15,u16,u17,u18,u19,.slice none 0 0,.slice none 0 0,.slice none 0 0,.bool false]:List Value)=x:=⟨_,rfl⟩
  have hFl:F.length=24:=by rw [<- hF];rfl
  have HT:=hide (show w.there B2 0 F.toArray.size from by rw [show F.toArray.size=24 from by simpa using hFl];exact h2.there hl)
  have HO:=hide (all_oneCell_toArray (cs:=F) (List.all_eq_true.1 (by rw [<- hF];exact ho)))
  have Hsz:=hide (show (Tryz.prog.info? 92).map (·.size)=some F.toArray.size from by rw [show F.toArray.size=24 from by simpa using hFl];exact Tryz.infoT24)
  obtain ⟨wS,hwS⟩:∃ x,w.setCells B2 0 F.toArray.toList=x:=⟨_,rfl⟩
  have k2:Blk wS B2 92 F:=by rw [<- hwS];exact blk_all h2 (by rw [hl,hFl])
  have k3:Blk wS B3 4 [.bool t]:=by rw [<- hwS];exact h3.sets h23 0 _
  have hO:Oth (fun g=>g=B2\/g=B3) w wS:=by rw [<- hwS];exact Oth.of_grown (putC_grown B2 _ w 0) (fun k e=>by cases e;exact .inl rfl)
  have y3:=k3.cell 0
  have z3:=k3.frozen 0
  simp only [List.getElem?_cons_zero] at y3
  have HwS:=hide hwS
  have HF:=hide hF
  have HK:=hide (show Blk (wS.setCell ⟨B3,0,none⟩ (.bool false)) B2 92 F from k2.otherC B3 0 _ (fun e=>h23 e.symm))
  have HB:=hide (show (wS.setCell ⟨B3,0,none⟩ (.bool false)).cell? ⟨B3,0,none⟩=some (.bool false) from (k3.setC 0 (.bool false)).cell 0)
  have HQ:=hide (hO.set (S:=fun g=>g=B2\/g=B3) (.inr rfl) 0 (.bool false))
  clear h1 h2 h3 k2 k3 hO hwS ho hFl hF
  refine callsD_of_wpS Tryz.func104 rfl fun c₀ cs hu=>?_
  apply wpS_seq
  apply wpS_region
  simp [wpOpsS,go_sem,recoverD,hu,Tryz.ntmps104,Exit.thenS]
  refine wpS_cond (t:=true) (by simp [Act.eval,Array.replicate]) ?_
  simp only [if_true]
  refine wpS_of_wp ?_
  change Code.wp _ _ _ { tmps:=#[.pointer (some ⟨B1,0,none⟩),.pointer (some ⟨B2,0,none⟩),.pointer (some ⟨B3,0,none⟩),.iface U pv,.bool true,undef,undef],defers:=[] } _
  refine wp_region_list ?_
  refine wpList_load_mid rfl 55 _ rfl B1 0 rfl _ _ HL.out Tryz.underlying55 rfl Tryz.infoC20 ?_
  simp only [Act.put,List.setIfInBounds_toArray,List.set_cons_zero,List.set_cons_succ]
  go_wp2_with (refine wpList_store_mid rfl 92 _ _ rfl B2 0 F.toArray rfl (by rw [<- HF.out];rfl) HT.out Hsz.out HO.out ?_;rw [HwS.out])
  have hk:=HK.out
  rw [<- HF.out] at hk
  exact ⟨rfl,_,rfl,.tuple #[],by simp [results,Tryz.results104],rfl,rfl,hk,HB.out,HQ.out⟩
def noT (b:Bool) (p:Nd) (u:Nv):List Value:=(if b=true then (((noC p u).set 15 (.slice none 0 0)).set 16 (.slice none 0 0)).set 18 (.slice none 0 0) else noC p u) ++ [.slice none 0 0,.slice none 0 0,.slice none 0 0,.bool false]
theorem triedReboot_yes (p:Nd) (u:Nv) (b0:Addr) (w:World) (hrd:RdNd w p u) (hfw:FewNd p) (hft:FitNd p) (hge:Gc w b0) (hG:0 < w.heap.size) (hok:nodB p=true) :
    Calls Tryz.prog 39 #[noV p u,.func (.func 74) #[] #[]] w fun e w'=>e=.returned (.tuple #[.agg (noT true p u).toArray,.bool true])/\Below w.heap.size w w':=by
  have HN:=hide (fun V (hV:Below w.heap.size w V)=>implNodeOk_any p u V (hrd.below hV (Nat.le_refl _)) hfw hft)
  rw [hok] at HN
  have hmf:∀ (fn:Fn) (first cap:Array Value) (w:World),(Instr.makeFunc fn first cap).run Tryz.prog w=.ok (.func fn first cap) w:=fun _ _ _ _=>rfl
  have hs:=hrd
  obtain ⟨nm,ep,be,la,st,tt,rd,vd,hr,hb,hw,tr,tw,th,ld,vo,go,dn,pl,ps⟩:=p
  obtain ⟨ya,ys,yt,yw,yx,yh,yv,yg,yd,yp,yq⟩:=u
  obtain ⟨hya,hys,hyt,hyw,hyx,hyh,hyv,hyg,hyd,hyp,hyq⟩:=hs
  simp only at *
  obtain ⟨ada,cpa,rfl⟩:=hya.shape
  obtain ⟨ads,cps,rfl⟩:=hys.shape
  obtain ⟨adt,cpt,rfl⟩:=hyt.shape
  obtain ⟨adw,cpw,rfl⟩:=hyw.shape
  obtain ⟨adx,cpx,rfl⟩:=hyx.shape
  obtain ⟨adh,cph,rfl⟩:=hyh.shape
  obtain ⟨adv,cpv,rfl⟩:=hyv.shape
  obtain ⟨adg,cpg,rfl⟩:=hyg.shape
  obtain ⟨add,cpd,rfl⟩:=hyd.shape
  obtain ⟨adp,cpp,rfl⟩:=hyp.shape
  obtain ⟨adq,cpq,rfl⟩:=hyq.shape
  have HT:=hide (show noT true ⟨nm,ep,be,la,st,tt,rd,vd,hr,hb,hw,tr,tw,th,ld,vo,go,dn,pl,ps⟩ ⟨.slice ada la.length cpa,.slice ads st.length cps,.slice adt tt.length cpt,.slice adw hw.length cpw,.slice adx tw.length cpx,.slice adh th.length cph,.slice adv vo.length cpv,.slice adg go.length cpg,.slice add dn.length cpd,.slice adp pl.length cpp,.slice adq ps.length cpq⟩=[.string nm,.int .i64 ep,.int .i64 be,.slice ada la.length cpa,.slice ads st.length cps,.slice adt tt.length cpt,.int .i64 rd,.int .i64 vd,.int .i64 hr,.int .i64 hb,.slice adw hw.length cpw,.int .i64 tr,.slice adx tw.length cpx,.slice adh th.length cph,.int .i64 ld,.slice none 0 0,.slice none 0 0,.slice add dn.length cpd,.slice none 0 0,.slice adq ps.length cpq,.slice none 0 0,.slice none 0 0,.slice none 0 0,.bool false] from rfl)
  rw [HT.out]
  clear hrd hfw hft hok HT hya hys hyt hyw hyx hyh hyv hyg hyd hyp hyq
  simp only [noV] at *
  obtain ⟨S0,hS0⟩:∃ x,((w.alloc (.cells #[.string nm,.int .i64 ep,.int .i64 be,.slice ada la.length cpa,.slice ads st.length cps,.slice adt tt.length cpt,.int .i64 rd,.int .i64 vd,.int .i64 hr,.int .i64 hb,.slice adw hw.length cpw,.int .i64 tr,.slice adx tw.length cpx,.slice adh th.length cph,.int .i64 ld,.slice adv vo.length cpv,.slice adg go.length cpg,.slice add dn.length cpd,.slice adp pl.length cpp,.slice adq ps.length cpq] 55)).alloc (.cells #[.string { data:=#[] },.int .i64 0,.int .i64 0,.slice none 0 0,.slice none 0 0,.slice none 0 0,.int .i64 0,.int .i64 0,.int .i64 0,.int .i64 0,.slice none 0 0,.int .i64 0,.slice none 0 0,.slice none 0 0,.int .i64 0,.slice none 0 0,.slice none 0 0,.slice none 0 0,.slice none 0 0,.slice none 0 0,.slice none 0 0,.slice none 0 0,.slice none 0 0,.bool false] 92)).alloc (.cells #[.bool false] 4)=x:=⟨_,rfl⟩
  have b0':Below w.heap.size w S0:=by rw [<- hS0];exact (((Below.refl _ w).alloc (Nat.le_refl _) _).alloc (by simp) _).alloc (by simp;omega) _
  have K0:=hide (show Blk S0 w.heap.size 55 [.string nm,.int .i64 ep,.int .i64 be,.slice ada la.length cpa,.slice ads st.length cps,.slice adt tt.length cpt,.int .i64 rd,.int .i64 vd,.int .i64 hr,.int .i64 hb,.slice adw hw.length cpw,.int .i64 tr,.slice adx tw.length cpx,.slice adh th.length cph,.int .i64 ld,.slice adv vo.length cpv,.slice adg go.length cpg,.slice add dn.length cpd,.slice adp pl.length cpp,.slice adq ps.length cpq] from by rw [<- hS0];exact (Blk.new w _ _).below (((Below.refl (w.heap.size+1) _).alloc (by simp) _).alloc (by simp) _) (by omega))
  have X0:=hide (show Blk S0 (w.heap.size+1) 92 [.string { data:=#[] },.int .i64 0,.int .i64 0,.slice none 0 0,.slice none 0 0,.slice none 0 0,.int .i64 0,.int .i64 0,.int .i64 0,.int .i64 0,.slice none 0 0,.int .i64 0,.slice none 0 0,.slice none 0 0,.int .i64 0,.slice none 0 0,.slice none 0 0,.slice none 0 0,.slice none 0 0,.slice none 0 0,.slice none 0 0,.slice none 0 0,.slice none 0 0,.bool false] from by rw [<- hS0];exact (Blk.newR _ _ [.string { data:=#[] },.int .i64 0,.int .i64 0,.slice none 0 0,.slice none 0 0,.slice none 0 0,.int .i64 0,.int .i64 0,.int .i64 0,.int .i64 0,.slice none 0 0,.int .i64 0,.slice none 0 0,.slice none 0 0,.int .i64 0,.slice none 0 0,.slice none 0 0,.slice none 0 0,.slice none 0 0,.slice none 0 0,.slice none 0 0,.slice none 0 0,.slice none 0 0,.bool false] _ (by simp)).below ((Below.refl (w.heap.size+2) _).alloc (by simp) _) (by omega))
  have Y0:=hide (show Blk S0 (w.heap.size+2) 4 [.bool false] from by rw [<- hS0];exact Blk.newR _ _ [.bool false] _ (by simp))
  have B0:=hide b0'
  have HL:=hide (blk_range K0.out)
  clear b0'
  go_enter_defers Tryz.func39,Tryz.ntmps39
  go_upto_region 2 with fail
  (try rw [hS0])
  clear hS0
  go_wp2_with (first
    | (refine wpList_load_mid rfl 55 _ rfl w.heap.size 0 rfl [.string nm,.int .i64 ep,.int .i64 be,.slice ada la.length cpa,.slice ads st.length cps,.slice adt tt.length cpt,.int .i64 rd,.int .i64 vd,.int .i64 hr,.int .i64 hb,.slice adw hw.length cpw,.int .i64 tr,.slice adx tw.length cpx,.slice adh th.length cph,.int .i64 ld,.slice adv vo.length cpv,.slice adg go.length cpg,.slice add dn.length cpd,.slice adp pl.length cpp,.slice adq ps.length cpq] _ HL.out Tryz.underlying55 rfl Tryz.infoC20 ?_)
    | fail)
  refine (HN.out S0 B0.out).mono ?_
  rintro e w2 ⟨rfl,hb2⟩
  have K2:=hide (K0.out.below hb2 K0.out.lt)
  have X2:=hide (X0.out.below hb2 X0.out.lt)
  have Y2:=hide (Y0.out.below hb2 Y0.out.lt)
  have B2:=hide (B0.out.trans (hb2.mono B0.out.size))
  clear hb2 K0 X0 Y0 B0 HL HN
  have HL:=hide (blk_range K2.out)
  go_wp2_with fail
  refine (implNeed_yes w2).mono ?_
  rintro e w2 ⟨rfl,rfl⟩
  obtain ⟨F,hF⟩:∃ x,([.string nm,.int .i64 ep,.int .i64 be,.slice ada la.length cpa,.slice ads st.length cps,.slice adt tt.length cpt,.int .i64 rd,.int .i64 vd,.int .i64 hr,.int .i64 hb,.slice adw hw.length cpw,.int .i64 tr,.slice adx tw.length cpx,.slice adh th.length cph,.int .i64 ld,.slice adv vo.length cpv,.slice adg go.length cpg,.slice add dn.length cpd,.slice adp pl.length cpp,.slice adq ps.length cpq,.slice none 0 0,.slice none 0 0,.slice none 0 0,.bool false]:List Value)=x:=⟨_,rfl⟩
  have hFl:F.length=24:=by rw [<- hF];rfl
  have OF:=hide (all_oneCell_toArray (cs:=F) (List.all_eq_true.1 (by rw [<- hF];rfl)))
  have ZF:=hide (show (Tryz.prog.info? 92).map (·.size)=some F.toArray.size from by rw [show F.toArray.size=24 from by simpa using hFl];exact Tryz.infoT24)
  have YF:=hide (show (Tryz.prog.info? 92).map (·.size)=some F.length from by rw [hFl];exact Tryz.infoT24)
  have HF:=hide hF
  have HTh:=hide (show w2.there (w.heap.size+1) 0 F.toArray.size from by rw [show F.toArray.size=24 from by simpa using hFl];exact X2.out.there rfl)
  obtain ⟨w3,hw3⟩:∃ x,w2.setCells (w.heap.size+1) 0 F.toArray.toList=x:=⟨_,rfl⟩
  have X3:=hide (show Blk w3 (w.heap.size+1) 92 F from by rw [<- hw3];exact blk_all X2.out (by rw [hFl];rfl))
  have K3:=hide (show Blk w3 w.heap.size 55 [.string nm,.int .i64 ep,.int .i64 be,.slice ada la.length cpa,.slice ads st.length cps,.slice adt tt.length cpt,.int .i64 rd,.int .i64 vd,.int .i64 hr,.int .i64 hb,.slice adw hw.length cpw,.int .i64 tr,.slice adx tw.length cpx,.slice adh th.length cph,.int .i64 ld,.slice adv vo.length cpv,.slice adg go.length cpg,.slice add dn.length cpd,.slice adp pl.length cpp,.slice adq ps.length cpq] from by rw [<- hw3];exact K2.out.sets (by omega) 0 _)
  have Y3:=hide (show Blk w3 (w.heap.size+2) 4 [.bool false] from by rw [<- hw3];exact Y2.out.sets (by omega) 0 _)
  have B3:=hide (show Below w.heap.size w w3 from by rw [<- hw3];exact B2.out.trans (putC_below (B:=w.heap.size) (by omega) _ _ 0))
  have Hw3:=hide hw3
  clear hF hw3 X2 Y2 B2 K2
  go_upto_region 4 with (first
    | (refine wpList_load_mid rfl 55 _ rfl w.heap.size 0 rfl [.string nm,.int .i64 ep,.int .i64 be,.slice ada la.length cpa,.slice ads st.length cps,.slice adt tt.length cpt,.int .i64 rd,.int .i64 vd,.int .i64 hr,.int .i64 hb,.slice adw hw.length cpw,.int .i64 tr,.slice adx tw.length cpx,.slice adh th.length cph,.int .i64 ld,.slice adv vo.length cpv,.slice adg go.length cpg,.slice add dn.length cpd,.slice adp pl.length cpp,.slice adq ps.length cpq] _ HL.out Tryz.underlying55 rfl Tryz.infoC20 ?_)
    | (refine wpList_store_mid rfl 92 _ _ rfl (w.heap.size+1) 0 F.toArray rfl (by rw [<- HF.out];rfl) HTh.out ZF.out OF.out ?_;rw [Hw3.out])
    | fail)
  clear HL HTh ZF OF YF Hw3 K3
  obtain ⟨G,hG⟩:∃ x,([.string nm,.int .i64 ep,.int .i64 be,.slice ada la.length cpa,.slice ads st.length cps,.slice adt tt.length cpt,.int .i64 rd,.int .i64 vd,.int .i64 hr,.int .i64 hb,.slice adw hw.length cpw,.int .i64 tr,.slice adx tw.length cpx,.slice adh th.length cph,.int .i64 ld,.slice none 0 0,.slice none 0 0,.slice add dn.length cpd,.slice none 0 0,.slice adq ps.length cpq,.slice none 0 0,.slice none 0 0,.slice none 0 0,.bool false]:List Value)=x:=⟨_,rfl⟩
  have hGl:G.length=24:=by rw [<- hG];rfl
  have OG:=hide (all_oneCell_toArray (cs:=G) (List.all_eq_true.1 (by rw [<- hG];rfl)))
  have ZG:=hide (show (Tryz.prog.info? 92).map (·.size)=some G.toArray.size from by rw [show G.toArray.size=24 from by simpa using hGl];exact Tryz.infoT24)
  have YG:=hide (show (Tryz.prog.info? 92).map (·.size)=some G.length from by rw [hGl];exact Tryz.infoT24)
  have HGq:=hide (show ((F.set 15 (.slice none 0 0)).set 16 (.slice none 0 0)).set 18 (.slice none 0 0)=G from by rw [<- HF.out,<- hG];rfl)
  have HGl:=hide hGl
  have HGe:=hide hG
  clear hG hGl
  go_wp2_with fail
  refine (rebootDo_any (w.heap.size+1) F w3 X3.out hFl).mono ?_
  rintro e w5 ⟨rfl,k5,g5⟩
  rw [HGq.out] at k5
  have o5:=Oth.of_grown (S:=fun x=>x=w.heap.size+1) g5 (fun k e=>by cases e;rfl)
  have y5:Blk w5 (w.heap.size+2) 4 [.bool false]:=(o5.block _ Y3.out.lt (by omega)).trans Y3.out
  have z5:Below w.heap.size w w5:=B3.out.trans ((Below.refl w.heap.size w3).grown g5 B3.out.size (fun k hk=>by cases hk;omega))
  have HL:=hide (blk_range k5)
  have HTh:=hide (show w5.there (w.heap.size+1) 0 G.toArray.size from by rw [show G.toArray.size=24 from by simpa using HGl.out];exact k5.there HGl.out)
  obtain ⟨w6,hw6⟩:∃ x,w5.setCells (w.heap.size+1) 0 G.toArray.toList=x:=⟨_,rfl⟩
  have X6:=hide (show Blk w6 (w.heap.size+1) 92 G from by rw [<- hw6];exact blk_all k5 (by simp))
  have y6:Blk w6 (w.heap.size+2) 4 [.bool false]:=by rw [<- hw6];exact y5.sets (by omega) 0 _
  have B6:=hide (show Below w.heap.size w w6 from by rw [<- hw6];exact z5.trans (putC_below (B:=w.heap.size) (by omega) _ _ 0))
  have c6:=y6.cell 0
  have f6:=y6.frozen 0
  simp only [List.getElem?_cons_zero] at c6
  obtain ⟨w7,hw7⟩:∃ x,w6.setCell ⟨w.heap.size+1+1,0,none⟩ (.bool true)=x:=⟨_,rfl⟩
  have X7:=hide (show Blk w7 (w.heap.size+1) 92 G from by rw [<- hw7];exact X6.out.otherC (w.heap.size+2) 0 _ (by omega))
  have C7:=hide (show w7.cell? ⟨w.heap.size+1+1,0,none⟩=some (.bool true) from by rw [<- hw7];exact (y6.setC 0 (.bool true)).cell 0)
  have B7:=hide (show Below w.heap.size w w7 from by rw [<- hw7];exact B6.out.setCell (p:=⟨w.heap.size+2,0,none⟩) (show w.heap.size<=w.heap.size+2 by omega) (.bool true))
  have Hw6:=hide hw6
  clear k5 g5 o5 y5 z5 hw6 y6 X3 Y3 B3 HGq HF
  go_wp2_with (first
    | (refine wpList_load_mid rfl 92 _ rfl (w.heap.size+1) 0 rfl G _ HL.out Tryz.underlying92 rfl YG.out ?_)
    | (refine wpList_store_mid rfl 92 _ _ rfl (w.heap.size+1) 0 G.toArray rfl rfl HTh.out ZG.out OG.out ?_;rw [Hw6.out])
    | fail)
  (try rw [hw7])
  have hl:=run_loadVar_mid (P:=Tryz.prog) w7 (w.heap.size+1) 0 92 G _ (blk_range X7.out) Tryz.underlying92 rfl YG.out
  have c7:=C7.out
  have h7:Sem.run Tryz.prog (loadVar 4 ⟨w.heap.size+1+1,0,none⟩) w7=.ok (.bool true) w7:=by simp [go_sem,c7]
  have hpost:Ending.returned (Value.tuple #[.agg G.toArray,.bool true])=Ending.returned (Value.tuple #[.agg #[.string nm,.int .i64 ep,.int .i64 be,.slice ada la.length cpa,.slice ads st.length cps,.slice adt tt.length cpt,.int .i64 rd,.int .i64 vd,.int .i64 hr,.int .i64 hb,.slice adw hw.length cpw,.int .i64 tr,.slice adx tw.length cpx,.slice adh th.length cph,.int .i64 ld,.slice none 0 0,.slice none 0 0,.slice add dn.length cpd,.slice none 0 0,.slice adq ps.length cpq,.slice none 0 0,.slice none 0 0,.slice none 0 0,.bool false],.bool true])/\Below w.heap.size w w7:=⟨by rw [<- HGe.out],B7.out⟩
  have Hpost:=hide hpost
  clear hpost HL HTh OG ZG YG X6 X7 C7 B6 B7 HGe Hw6 c6 f6 hw7 c7
  refine leaves_cons (f:=104) (args:=#[.pointer (some ⟨w.heap.size,0,none⟩),.pointer (some ⟨w.heap.size+1,0,none⟩),.pointer (some ⟨w.heap.size+1+1,0,none⟩)]) (by simp) (by simp [go_sem]) ?_
  refine (tryIdle_any ⟨w.heap.size,0,none⟩ ⟨w.heap.size+1,0,none⟩ ⟨w.heap.size+1+1,0,none⟩ _).mono ?_
  rintro e u' w'' ⟨rfl,rfl,rfl⟩
  refine ⟨.tuple #[.agg G.toArray,.bool true],?_,Hpost.out⟩
  simp [results,Tryz.f39,asAddr,hl,h7]
theorem triedReboot_no (p:Nd) (u:Nv) (b0:Addr) (w:World) (hrd:RdNd w p u) (hfw:FewNd p) (hft:FitNd p) (hge:Gc w b0) (hG:0 < w.heap.size) (hok:nodB p=false) :
    Calls Tryz.prog 39 #[noV p u,.func (.func 74) #[] #[]] w fun e w'=>e=.returned (.tuple #[.agg (noT false p u).toArray,.bool false])/\Below w.heap.size w w':=by
  have HN:=hide (fun V (hV:Below w.heap.size w V)=>implNodeOk_any p u V (hrd.below hV (Nat.le_refl _)) hfw hft)
  rw [hok] at HN
  have hmf:∀ (fn:Fn) (first cap:Array Value) (w:World),(Instr.makeFunc fn first cap).run Tryz.prog w=.ok (.func fn first cap) w:=fun _ _ _ _=>rfl
  have hs:=hrd
  obtain ⟨nm,ep,be,la,st,tt,rd,vd,hr,hb,hw,tr,tw,th,ld,vo,go,dn,pl,ps⟩:=p
  obtain ⟨ya,ys,yt,yw,yx,yh,yv,yg,yd,yp,yq⟩:=u
  obtain ⟨hya,hys,hyt,hyw,hyx,hyh,hyv,hyg,hyd,hyp,hyq⟩:=hs
  simp only at *
  obtain ⟨ada,cpa,rfl⟩:=hya.shape
  obtain ⟨ads,cps,rfl⟩:=hys.shape
  obtain ⟨adt,cpt,rfl⟩:=hyt.shape
  obtain ⟨adw,cpw,rfl⟩:=hyw.shape
  obtain ⟨adx,cpx,rfl⟩:=hyx.shape
  obtain ⟨adh,cph,rfl⟩:=hyh.shape
  obtain ⟨adv,cpv,rfl⟩:=hyv.shape
  obtain ⟨adg,cpg,rfl⟩:=hyg.shape
  obtain ⟨add,cpd,rfl⟩:=hyd.shape
  obtain ⟨adp,cpp,rfl⟩:=hyp.shape
  obtain ⟨adq,cpq,rfl⟩:=hyq.shape
  have HT:=hide (show noT false ⟨nm,ep,be,la,st,tt,rd,vd,hr,hb,hw,tr,tw,th,ld,vo,go,dn,pl,ps⟩ ⟨.slice ada la.length cpa,.slice ads st.length cps,.slice adt tt.length cpt,.slice adw hw.length cpw,.slice adx tw.length cpx,.slice adh th.length cph,.slice adv vo.length cpv,.slice adg go.length cpg,.slice add dn.length cpd,.slice adp pl.length cpp,.slice adq ps.length cpq⟩=[.string nm,.int .i64 ep,.int .i64 be,.slice ada la.length cpa,.slice ads st.length cps,.slice adt tt.length cpt,.int .i64 rd,.int .i64 vd,.int .i64 hr,.int .i64 hb,.slice adw hw.length cpw,.int .i64 tr,.slice adx tw.length cpx,.slice adh th.length cph,.int .i64 ld,.slice adv vo.length cpv,.slice adg go.length cpg,.slice add dn.length cpd,.slice adp pl.length cpp,.slice adq ps.length cpq,.slice none 0 0,.slice none 0 0,.slice none 0 0,.bool false] from rfl)
  rw [HT.out]
  clear hrd hfw hft hok HT hya hys hyt hyw hyx hyh hyv hyg hyd hyp hyq
  simp only [noV] at *
  obtain ⟨S0,hS0⟩:∃ x,((w.alloc (.cells #[.string nm,.int .i64 ep,.int .i64 be,.slice ada la.length cpa,.slice ads st.length cps,.slice adt tt.length cpt,.int .i64 rd,.int .i64 vd,.int .i64 hr,.int .i64 hb,.slice adw hw.length cpw,.int .i64 tr,.slice adx tw.length cpx,.slice adh th.length cph,.int .i64 ld,.slice adv vo.length cpv,.slice adg go.length cpg,.slice add dn.length cpd,.slice adp pl.length cpp,.slice adq ps.length cpq] 55)).alloc (.cells #[.string { data:=#[] },.int .i64 0,.int .i64 0,.slice none 0 0,.slice none 0 0,.slice none 0 0,.int .i64 0,.int .i64 0,.int .i64 0,.int .i64 0,.slice none 0 0,.int .i64 0,.slice none 0 0,.slice none 0 0,.int .i64 0,.slice none 0 0,.slice none 0 0,.slice none 0 0,.slice none 0 0,.slice none 0 0,.slice none 0 0,.slice none 0 0,.slice none 0 0,.bool false] 92)).alloc (.cells #[.bool false] 4)=x:=⟨_,rfl⟩
  have b0':Below w.heap.size w S0:=by rw [<- hS0];exact (((Below.refl _ w).alloc (Nat.le_refl _) _).alloc (by simp) _).alloc (by simp;omega) _
  have K0:=hide (show Blk S0 w.heap.size 55 [.string nm,.int .i64 ep,.int .i64 be,.slice ada la.length cpa,.slice ads st.length cps,.slice adt tt.length cpt,.int .i64 rd,.int .i64 vd,.int .i64 hr,.int .i64 hb,.slice adw hw.length cpw,.int .i64 tr,.slice adx tw.length cpx,.slice adh th.length cph,.int .i64 ld,.slice adv vo.length cpv,.slice adg go.length cpg,.slice add dn.length cpd,.slice adp pl.length cpp,.slice adq ps.length cpq] from by rw [<- hS0];exact (Blk.new w _ _).below (((Below.refl (w.heap.size+1) _).alloc (by simp) _).alloc (by simp) _) (by omega))
  have X0:=hide (show Blk S0 (w.heap.size+1) 92 [.string { data:=#[] },.int .i64 0,.int .i64 0,.slice none 0 0,.slice none 0 0,.slice none 0 0,.int .i64 0,.int .i64 0,.int .i64 0,.int .i64 0,.slice none 0 0,.int .i64 0,.slice none 0 0,.slice none 0 0,.int .i64 0,.slice none 0 0,.slice none 0 0,.slice none 0 0,.slice none 0 0,.slice none 0 0,.slice none 0 0,.slice none 0 0,.slice none 0 0,.bool false] from by rw [<- hS0];exact (Blk.newR _ _ [.string { data:=#[] },.int .i64 0,.int .i64 0,.slice none 0 0,.slice none 0 0,.slice none 0 0,.int .i64 0,.int .i64 0,.int .i64 0,.int .i64 0,.slice none 0 0,.int .i64 0,.slice none 0 0,.slice none 0 0,.int .i64 0,.slice none 0 0,.slice none 0 0,.slice none 0 0,.slice none 0 0,.slice none 0 0,.slice none 0 0,.slice none 0 0,.slice none 0 0,.bool false] _ (by simp)).below ((Below.refl (w.heap.size+2) _).alloc (by simp) _) (by omega))
  have Y0:=hide (show Blk S0 (w.heap.size+2) 4 [.bool false] from by rw [<- hS0];exact Blk.newR _ _ [.bool false] _ (by simp))
  have B0:=hide b0'
  have HL:=hide (blk_range K0.out)
  clear b0'
  go_enter_defers Tryz.func39,Tryz.ntmps39
  go_upto_region 2 with fail
  (try rw [hS0])
  clear hS0
  go_wp2_with (first
    | (refine wpList_load_mid rfl 55 _ rfl w.heap.size 0 rfl [.string nm,.int .i64 ep,.int .i64 be,.slice ada la.length cpa,.slice ads st.length cps,.slice adt tt.length cpt,.int .i64 rd,.int .i64 vd,.int .i64 hr,.int .i64 hb,.slice adw hw.length cpw,.int .i64 tr,.slice adx tw.length cpx,.slice adh th.length cph,.int .i64 ld,.slice adv vo.length cpv,.slice adg go.length cpg,.slice add dn.length cpd,.slice adp pl.length cpp,.slice adq ps.length cpq] _ HL.out Tryz.underlying55 rfl Tryz.infoC20 ?_)
    | fail)
  refine (HN.out S0 B0.out).mono ?_
  rintro e w2 ⟨rfl,hb2⟩
  have K2:=hide (K0.out.below hb2 K0.out.lt)
  have X2:=hide (X0.out.below hb2 X0.out.lt)
  have Y2:=hide (Y0.out.below hb2 Y0.out.lt)
  have B2:=hide (B0.out.trans (hb2.mono B0.out.size))
  clear hb2 K0 X0 Y0 B0 HL HN
  have HL:=hide (blk_range K2.out)
  go_wp2_with fail
  refine (implNeed_no b0 w2 (hge.below B2.out hG)).mono ?_
  rintro e w2 ⟨rfl,rfl⟩
  go_wp2
  refine leaves_cons (f:=104) (args:=#[.pointer (some ⟨w.heap.size,0,none⟩),.pointer (some ⟨w.heap.size+1,0,none⟩),.pointer (some ⟨w.heap.size+1+1,0,none⟩)]) (by simp) (by simp [go_sem]) ?_
  refine (tryCatch_any w.heap.size (w.heap.size+1) (w.heap.size+1+1) (.string nm) (.int .i64 ep) (.int .i64 be) (.slice ada la.length cpa) (.slice ads st.length cps) (.slice adt tt.length cpt) (.int .i64 rd) (.int .i64 vd) (.int .i64 hr) (.int .i64 hb) (.slice adw hw.length cpw) (.int .i64 tr) (.slice adx tw.length cpx) (.slice adh th.length cph) (.int .i64 ld) (.slice adv vo.length cpv) (.slice adg go.length cpg) (.slice add dn.length cpd) (.slice adp pl.length cpp) (.slice adq ps.length cpq) [.string { data:=#[] },.int .i64 0,.int .i64 0,.slice none 0 0,.slice none 0 0,.slice none 0 0,.int .i64 0,.int .i64 0,.int .i64 0,.int .i64 0,.slice none 0 0,.int .i64 0,.slice none 0 0,.slice none 0 0,.int .i64 0,.slice none 0 0,.slice none 0 0,.slice none 0 0,.slice none 0 0,.slice none 0 0,.slice none 0 0,.slice none 0 0,.slice none 0 0,.bool false] false 248 (.pointer (some b0)) [] w2 K2.out rfl X2.out rfl Y2.out (by omega) (by omega)).mono ?_
  rintro e u' w'' ⟨rfl,rfl,k2,c2,o2⟩
  obtain ⟨G,hG2⟩:∃ x,([.string nm,.int .i64 ep,.int .i64 be,.slice ada la.length cpa,.slice ads st.length cps,.slice adt tt.length cpt,.int .i64 rd,.int .i64 vd,.int .i64 hr,.int .i64 hb,.slice adw hw.length cpw,.int .i64 tr,.slice adx tw.length cpx,.slice adh th.length cph,.int .i64 ld,.slice adv vo.length cpv,.slice adg go.length cpg,.slice add dn.length cpd,.slice adp pl.length cpp,.slice adq ps.length cpq,.slice none 0 0,.slice none 0 0,.slice none 0 0,.bool false]:List Value)=x:=⟨_,rfl⟩
  have hGl:G.length=24:=by rw [<- hG2];rfl
  rw [hG2] at k2
  have hl:=run_loadVar_mid (P:=Tryz.prog) w'' (w.heap.size+1) 0 92 G _ (blk_range k2) Tryz.underlying92 rfl (by rw [hGl];exact Tryz.infoT24)
  have h7:Sem.run Tryz.prog (loadVar 4 ⟨w.heap.size+1+1,0,none⟩) w''=.ok (.bool false) w'':=by simp [go_sem,c2]
  have hB:=B2.out.trans (o2.below (B:=w.heap.size) (fun k e=>by rcases e with rfl | rfl <;> omega) B2.out.size)
  have hpost:Ending.returned (Value.tuple #[.agg G.toArray,.bool false])=Ending.returned (Value.tuple #[.agg #[.string nm,.int .i64 ep,.int .i64 be,.slice ada la.length cpa,.slice ads st.length cps,.slice adt tt.length cpt,.int .i64 rd,.int .i64 vd,.int .i64 hr,.int .i64 hb,.slice adw hw.length cpw,.int .i64 tr,.slice adx tw.length cpx,.slice adh th.length cph,.int .i64 ld,.slice adv vo.length cpv,.slice adg go.length cpg,.slice add dn.length cpd,.slice adp pl.length cpp,.slice adq ps.length cpq,.slice none 0 0,.slice none 0 0,.slice none 0 0,.bool false],.bool false])/\Below w.heap.size w w'':=⟨by rw [<- hG2],hB⟩
  have Hpost:=hide hpost
  clear hpost hB k2 c2 o2 hG2 hGl K2 X2 Y2 B2 HL
  refine ⟨.tuple #[.agg G.toArray,.bool false],?_,Hpost.out⟩
  simp [results,Tryz.f39,asAddr,hl,h7]
end Go.Proofs.YtljeklmopjkjjaaGreatDoor
