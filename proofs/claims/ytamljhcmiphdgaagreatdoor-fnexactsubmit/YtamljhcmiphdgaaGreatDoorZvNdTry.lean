/- What a node does is tried. -/
import Derived.Test.YtamljhcmiphdgaaGreatDoorZvNdPure
import Derived.Test.YtamljhcmiphdgaaGreatDoorZvAcOpen
import Derived.Defers
import Derived.Recover
set_option maxRecDepth 20000
set_option maxHeartbeats 4000000
namespace Go.Proofs.YtamljhcmiphdgaaGreatDoor
open Go.RowKit Go.Sort
set_option linter.unusedVariables false
theorem J_ {ops:Array Oper} {rest:List Oper} {op:Oper} {a:Act} {w:World} {Q:Exit->Act->World->Prop} (x:Operand) (ho:op.op=.load 55 x) (B:Nat) (hx:a.eval x=.pointer (some ⟨B,0,none⟩)) {cs:List Value} {M:Value} (h:Blk w B 55 cs) (hl:cs.length=20) (hM:Value.agg cs.toArray=M)
  (hw:Region.wanted op (yielded ops a.tmps)=true) (hK:wpList Tryz.prog ops Q rest (a.put op.dst M) w):wpList Tryz.prog ops Q (op :: rest) a w:=by
 subst hM
 unfold wpList
 rw [if_pos hw]
 exact .inl (wp_load_mid 55 x ho B 0 hx cs _ (c_ h) Tryz.underlying55 rfl (by rw [hl];kernel_rfl) hK)
theorem nodI_n (nm:ByteArray) (e be rd vd hr hb tr ld:Int) (aA aS aT aW aX aH aV aG aD aP aQ:Option Addr) (nA nS nT nW nX nH nV nG nD nP nQ cA cS cT cW cX cH cV cG cD cP cQ:Nat) (w:World) (hN:∀ V,Calls Tryz.prog 133 #[.string nm] V fun en w'=>en=.returned (.bool false)/\w'=V) :
  Calls Tryz.prog 100 #[.agg #[.string nm,.int .i64 e,.int .i64 be,.slice aA nA cA,.slice aS nS cS,.slice aT nT cT,.int .i64 rd,.int .i64 vd,.int .i64 hr,.int .i64 hb,.slice aW nW cW,.int .i64 tr,.slice aX nX cX,.slice aH nH cH,.int .i64 ld,.slice aV nV cV,.slice aG nG cG,.slice aD nD cD,.slice aP nP cP,.slice aQ nQ cQ]] w fun en w'=>en=.returned (.bool false)/\Below w.heap.size w w':=by
 obtain ⟨w1,hw1⟩:∃ x,w.alloc (.cells #[.string nm,.int .i64 e,.int .i64 be,.slice aA nA cA,.slice aS nS cS,.slice aT nT cT,.int .i64 rd,.int .i64 vd,.int .i64 hr,.int .i64 hb,.slice aW nW cW,.int .i64 tr,.slice aX nX cX,.slice aH nH cH,.int .i64 ld,.slice aV nV cV,.slice aG nG cG,.slice aD nD cD,.slice aP nP cP,.slice aQ nQ cQ] 55)=x:=⟨_,rfl⟩
 have B1:Below w.heap.size w w1:=by rw [<- hw1];exact (br_ _ w).alloc (nr_ _) _
 have k1:Blk w1 w.heap.size 55 [.string nm,.int .i64 e,.int .i64 be,.slice aA nA cA,.slice aS nS cS,.slice aT nT cT,.int .i64 rd,.int .i64 vd,.int .i64 hr,.int .i64 hb,.slice aW nW cW,.int .i64 tr,.slice aX nX cX,.slice aH nH cH,.int .i64 ld,.slice aV nV cV,.slice aG nG cG,.slice aD nD cD,.slice aP nP cP,.slice aQ nQ cQ]:=by rw [<- hw1];exact Blk.new w _ _
 have x0:=k1.cell 0
 simp only [gz_] at x0
 have K1:=a_ k1
 clear k1
 have HN:=a_ hN
 clear hN
 go_enter Tryz.func100,Tryz.ntmps100
 go_upto_region 1 with fail
 (try rw [hw1])
 clear hw1
 go_wp2_with (first
   | (go_at_call 133;(with_reducible refine (HN.out _).mono ?_);rintro en w9 ⟨rfl,rfl⟩)
   | fail)
 go_ret
 exact ⟨rfl,B1⟩
theorem nodI_e (nm:ByteArray) (e be rd vd hr hb tr ld:Int) (aA aS aT aW aX aH aV aG aD aP aQ:Option Addr) (nA nS nT nW nX nH nV nG nD nP nQ cA cS cT cW cX cH cV cG cD cP cQ:Nat) (w:World) (hN:∀ V,Calls Tryz.prog 133 #[.string nm] V fun en w'=>en=.returned (.bool true)/\w'=V) (hE:∀ V,Below w.heap.size w V->Calls Tryz.prog 134 #[.agg #[.string nm,.int .i64 e,.int .i64 be,.slice aA nA cA,.slice aS nS cS,.slice aT nT cT,.int .i64 rd,.int .i64 vd,.int .i64 hr,.int .i64 hb,.slice aW nW cW,.int .i64 tr,.slice aX nX cX,.slice aH nH cH,.int .i64 ld,.slice aV nV cV,.slice aG nG cG,.slice aD nD cD,.slice aP nP cP,.slice aQ nQ cQ]] V fun en w'=>en=.returned (.bool false)/\Below V.heap.size V w') :
  Calls Tryz.prog 100 #[.agg #[.string nm,.int .i64 e,.int .i64 be,.slice aA nA cA,.slice aS nS cS,.slice aT nT cT,.int .i64 rd,.int .i64 vd,.int .i64 hr,.int .i64 hb,.slice aW nW cW,.int .i64 tr,.slice aX nX cX,.slice aH nH cH,.int .i64 ld,.slice aV nV cV,.slice aG nG cG,.slice aD nD cD,.slice aP nP cP,.slice aQ nQ cQ]] w fun en w'=>en=.returned (.bool false)/\Below w.heap.size w w':=by
 obtain ⟨w1,hw1⟩:∃ x,w.alloc (.cells #[.string nm,.int .i64 e,.int .i64 be,.slice aA nA cA,.slice aS nS cS,.slice aT nT cT,.int .i64 rd,.int .i64 vd,.int .i64 hr,.int .i64 hb,.slice aW nW cW,.int .i64 tr,.slice aX nX cX,.slice aH nH cH,.int .i64 ld,.slice aV nV cV,.slice aG nG cG,.slice aD nD cD,.slice aP nP cP,.slice aQ nQ cQ] 55)=x:=⟨_,rfl⟩
 have B1:Below w.heap.size w w1:=by rw [<- hw1];exact (br_ _ w).alloc (nr_ _) _
 have k1:Blk w1 w.heap.size 55 [.string nm,.int .i64 e,.int .i64 be,.slice aA nA cA,.slice aS nS cS,.slice aT nT cT,.int .i64 rd,.int .i64 vd,.int .i64 hr,.int .i64 hb,.slice aW nW cW,.int .i64 tr,.slice aX nX cX,.slice aH nH cH,.int .i64 ld,.slice aV nV cV,.slice aG nG cG,.slice aD nD cD,.slice aP nP cP,.slice aQ nQ cQ]:=by rw [<- hw1];exact Blk.new w _ _
 have x0:=k1.cell 0
 simp only [gz_] at x0
 have K1:=a_ k1
 clear k1
 have HN:=a_ hN
 have HE:=a_ hE
 clear hN hE
 go_enter Tryz.func100,Tryz.ntmps100
 go_upto_region 1 with fail
 (try rw [hw1])
 clear hw1
 obtain ⟨M,hM⟩:∃ x,(Value.agg #[.string nm,.int .i64 e,.int .i64 be,.slice aA nA cA,.slice aS nS cS,.slice aT nT cT,.int .i64 rd,.int .i64 vd,.int .i64 hr,.int .i64 hb,.slice aW nW cW,.int .i64 tr,.slice aX nX cX,.slice aH nH cH,.int .i64 ld,.slice aV nV cV,.slice aG nG cG,.slice aD nD cD,.slice aP nP cP,.slice aQ nQ cQ])=x:=⟨_,rfl⟩
 rw [hM] at HE ⊢
 go_wp2_with (first
   | (go_at_call 134;(with_reducible refine (HE.out _ B1).mono ?_);rintro en w2 ⟨rfl,b2⟩;have B2:=B1.trans (b2.mono B1.size);have K2:=a_ (K1.out.below b2 K1.out.lt))
   | (refine J_ _ rfl w.heap.size rfl K1.out rfl hM (by rfl) ?_)
   | (go_at_call 133;(with_reducible refine (HN.out _).mono ?_);rintro en w9 ⟨rfl,rfl⟩)
   | fail)
 go_ret
 exact ⟨rfl,B2⟩
theorem nodI_r (nm:ByteArray) (e be rd vd hr hb tr ld:Int) (aA aS aT aW aX aH aV aG aD aP aQ:Option Addr) (nA nS nT nW nX nH nV nG nD nP nQ cA cS cT cW cX cH cV cG cD cP cQ:Nat) (w:World) (hN:∀ V,Calls Tryz.prog 133 #[.string nm] V fun en w'=>en=.returned (.bool true)/\w'=V) (hE:∀ V,Below w.heap.size w V->Calls Tryz.prog 134 #[.agg #[.string nm,.int .i64 e,.int .i64 be,.slice aA nA cA,.slice aS nS cS,.slice aT nT cT,.int .i64 rd,.int .i64 vd,.int .i64 hr,.int .i64 hb,.slice aW nW cW,.int .i64 tr,.slice aX nX cX,.slice aH nH cH,.int .i64 ld,.slice aV nV cV,.slice aG nG cG,.slice aD nD cD,.slice aP nP cP,.slice aQ nQ cQ]] V fun en w'=>en=.returned (.bool true)/\Below V.heap.size V w') (hR:∀ V,Below w.heap.size w V->Calls Tryz.prog 135 #[.agg #[.string nm,.int .i64 e,.int .i64 be,.slice aA nA cA,.slice aS nS cS,.slice aT nT cT,.int .i64 rd,.int .i64 vd,.int .i64 hr,.int .i64 hb,.slice aW nW cW,.int .i64 tr,.slice aX nX cX,.slice aH nH cH,.int .i64 ld,.slice aV nV cV,.slice aG nG cG,.slice aD nD cD,.slice aP nP cP,.slice aQ nQ cQ]] V fun en w'=>en=.returned (.bool false)/\Below V.heap.size V w') :
  Calls Tryz.prog 100 #[.agg #[.string nm,.int .i64 e,.int .i64 be,.slice aA nA cA,.slice aS nS cS,.slice aT nT cT,.int .i64 rd,.int .i64 vd,.int .i64 hr,.int .i64 hb,.slice aW nW cW,.int .i64 tr,.slice aX nX cX,.slice aH nH cH,.int .i64 ld,.slice aV nV cV,.slice aG nG cG,.slice aD nD cD,.slice aP nP cP,.slice aQ nQ cQ]] w fun en w'=>en=.returned (.bool false)/\Below w.heap.size w w':=by
 obtain ⟨w1,hw1⟩:∃ x,w.alloc (.cells #[.string nm,.int .i64 e,.int .i64 be,.slice aA nA cA,.slice aS nS cS,.slice aT nT cT,.int .i64 rd,.int .i64 vd,.int .i64 hr,.int .i64 hb,.slice aW nW cW,.int .i64 tr,.slice aX nX cX,.slice aH nH cH,.int .i64 ld,.slice aV nV cV,.slice aG nG cG,.slice aD nD cD,.slice aP nP cP,.slice aQ nQ cQ] 55)=x:=⟨_,rfl⟩
 have B1:Below w.heap.size w w1:=by rw [<- hw1];exact (br_ _ w).alloc (nr_ _) _
 have k1:Blk w1 w.heap.size 55 [.string nm,.int .i64 e,.int .i64 be,.slice aA nA cA,.slice aS nS cS,.slice aT nT cT,.int .i64 rd,.int .i64 vd,.int .i64 hr,.int .i64 hb,.slice aW nW cW,.int .i64 tr,.slice aX nX cX,.slice aH nH cH,.int .i64 ld,.slice aV nV cV,.slice aG nG cG,.slice aD nD cD,.slice aP nP cP,.slice aQ nQ cQ]:=by rw [<- hw1];exact Blk.new w _ _
 have x0:=k1.cell 0
 simp only [gz_] at x0
 have K1:=a_ k1
 clear k1
 have HN:=a_ hN
 have HE:=a_ hE
 have HR:=a_ hR
 clear hN hE hR
 go_enter Tryz.func100,Tryz.ntmps100
 go_upto_region 1 with fail
 (try rw [hw1])
 clear hw1
 obtain ⟨M,hM⟩:∃ x,(Value.agg #[.string nm,.int .i64 e,.int .i64 be,.slice aA nA cA,.slice aS nS cS,.slice aT nT cT,.int .i64 rd,.int .i64 vd,.int .i64 hr,.int .i64 hb,.slice aW nW cW,.int .i64 tr,.slice aX nX cX,.slice aH nH cH,.int .i64 ld,.slice aV nV cV,.slice aG nG cG,.slice aD nD cD,.slice aP nP cP,.slice aQ nQ cQ])=x:=⟨_,rfl⟩
 rw [hM] at HE HR ⊢
 go_wp2_with (first
   | (go_at_call 135;(with_reducible refine (HR.out _ B2).mono ?_);rintro en w3 ⟨rfl,b3⟩;have B3:=B2.trans (b3.mono B2.size);have K3:=a_ (K2.out.below b3 K2.out.lt);have k9:=K3.out;have y3_18:=k9.cell 18;simp only [gz_,gs_] at y3_18;clear k9)
   | (refine J_ _ rfl w.heap.size rfl K2.out rfl hM (by rfl) ?_)
   | (go_at_call 134;(with_reducible refine (HE.out _ B1).mono ?_);rintro en w2 ⟨rfl,b2⟩;have B2:=B1.trans (b2.mono B1.size);have K2:=a_ (K1.out.below b2 K1.out.lt))
   | (refine J_ _ rfl w.heap.size rfl K1.out rfl hM (by rfl) ?_)
   | (go_at_call 133;(with_reducible refine (HN.out _).mono ?_);rintro en w9 ⟨rfl,rfl⟩)
   | fail)
 go_ret
 exact ⟨rfl,B3⟩
theorem nodI_p (nm:ByteArray) (e be rd vd hr hb tr ld:Int) (aA aS aT aW aX aH aV aG aD aP aQ:Option Addr) (nA nS nT nW nX nH nV nG nD nP nQ cA cS cT cW cX cH cV cG cD cP cQ:Nat) (w:World) (hN:∀ V,Calls Tryz.prog 133 #[.string nm] V fun en w'=>en=.returned (.bool true)/\w'=V) (hE:∀ V,Below w.heap.size w V->Calls Tryz.prog 134 #[.agg #[.string nm,.int .i64 e,.int .i64 be,.slice aA nA cA,.slice aS nS cS,.slice aT nT cT,.int .i64 rd,.int .i64 vd,.int .i64 hr,.int .i64 hb,.slice aW nW cW,.int .i64 tr,.slice aX nX cX,.slice aH nH cH,.int .i64 ld,.slice aV nV cV,.slice aG nG cG,.slice aD nD cD,.slice aP nP cP,.slice aQ nQ cQ]] V fun en w'=>en=.returned (.bool true)/\Below V.heap.size V w') (hR:∀ V,Below w.heap.size w V->Calls Tryz.prog 135 #[.agg #[.string nm,.int .i64 e,.int .i64 be,.slice aA nA cA,.slice aS nS cS,.slice aT nT cT,.int .i64 rd,.int .i64 vd,.int .i64 hr,.int .i64 hb,.slice aW nW cW,.int .i64 tr,.slice aX nX cX,.slice aH nH cH,.int .i64 ld,.slice aV nV cV,.slice aG nG cG,.slice aD nD cD,.slice aP nP cP,.slice aQ nQ cQ]] V fun en w'=>en=.returned (.bool true)/\Below V.heap.size V w') (hP:∀ V,Below w.heap.size w V->Calls Tryz.prog 136 #[.slice aP nP cP] V fun en w'=>en=.returned (.bool false)/\Below V.heap.size V w') :
  Calls Tryz.prog 100 #[.agg #[.string nm,.int .i64 e,.int .i64 be,.slice aA nA cA,.slice aS nS cS,.slice aT nT cT,.int .i64 rd,.int .i64 vd,.int .i64 hr,.int .i64 hb,.slice aW nW cW,.int .i64 tr,.slice aX nX cX,.slice aH nH cH,.int .i64 ld,.slice aV nV cV,.slice aG nG cG,.slice aD nD cD,.slice aP nP cP,.slice aQ nQ cQ]] w fun en w'=>en=.returned (.bool false)/\Below w.heap.size w w':=by
 obtain ⟨w1,hw1⟩:∃ x,w.alloc (.cells #[.string nm,.int .i64 e,.int .i64 be,.slice aA nA cA,.slice aS nS cS,.slice aT nT cT,.int .i64 rd,.int .i64 vd,.int .i64 hr,.int .i64 hb,.slice aW nW cW,.int .i64 tr,.slice aX nX cX,.slice aH nH cH,.int .i64 ld,.slice aV nV cV,.slice aG nG cG,.slice aD nD cD,.slice aP nP cP,.slice aQ nQ cQ] 55)=x:=⟨_,rfl⟩
 have B1:Below w.heap.size w w1:=by rw [<- hw1];exact (br_ _ w).alloc (nr_ _) _
 have k1:Blk w1 w.heap.size 55 [.string nm,.int .i64 e,.int .i64 be,.slice aA nA cA,.slice aS nS cS,.slice aT nT cT,.int .i64 rd,.int .i64 vd,.int .i64 hr,.int .i64 hb,.slice aW nW cW,.int .i64 tr,.slice aX nX cX,.slice aH nH cH,.int .i64 ld,.slice aV nV cV,.slice aG nG cG,.slice aD nD cD,.slice aP nP cP,.slice aQ nQ cQ]:=by rw [<- hw1];exact Blk.new w _ _
 have x0:=k1.cell 0
 simp only [gz_] at x0
 have K1:=a_ k1
 clear k1
 have HN:=a_ hN
 have HE:=a_ hE
 have HR:=a_ hR
 have HP:=a_ hP
 clear hN hE hR hP
 go_enter Tryz.func100,Tryz.ntmps100
 go_upto_region 1 with fail
 (try rw [hw1])
 clear hw1
 obtain ⟨M,hM⟩:∃ x,(Value.agg #[.string nm,.int .i64 e,.int .i64 be,.slice aA nA cA,.slice aS nS cS,.slice aT nT cT,.int .i64 rd,.int .i64 vd,.int .i64 hr,.int .i64 hb,.slice aW nW cW,.int .i64 tr,.slice aX nX cX,.slice aH nH cH,.int .i64 ld,.slice aV nV cV,.slice aG nG cG,.slice aD nD cD,.slice aP nP cP,.slice aQ nQ cQ])=x:=⟨_,rfl⟩
 rw [hM] at HE HR ⊢
 go_wp2_with (first
   | (go_at_call 136;(with_reducible refine (HP.out _ B3).mono ?_);rintro en w4 ⟨rfl,b4⟩;have B4:=B3.trans (b4.mono B3.size);have K4:=a_ (K3.out.below b4 K3.out.lt);have k9:=K4.out;have y4_15:=k9.cell 15;have y4_16:=k9.cell 16;have y4_17:=k9.cell 17;have y4_19:=k9.cell 19;simp only [gz_,gs_] at y4_15 y4_16 y4_17 y4_19;clear k9)
   | (go_at_call 135;(with_reducible refine (HR.out _ B2).mono ?_);rintro en w3 ⟨rfl,b3⟩;have B3:=B2.trans (b3.mono B2.size);have K3:=a_ (K2.out.below b3 K2.out.lt);have k9:=K3.out;have y3_18:=k9.cell 18;simp only [gz_,gs_] at y3_18;clear k9)
   | (refine J_ _ rfl w.heap.size rfl K2.out rfl hM (by rfl) ?_)
   | (go_at_call 134;(with_reducible refine (HE.out _ B1).mono ?_);rintro en w2 ⟨rfl,b2⟩;have B2:=B1.trans (b2.mono B1.size);have K2:=a_ (K1.out.below b2 K1.out.lt))
   | (refine J_ _ rfl w.heap.size rfl K1.out rfl hM (by rfl) ?_)
   | (go_at_call 133;(with_reducible refine (HN.out _).mono ?_);rintro en w9 ⟨rfl,rfl⟩)
   | fail)
 go_ret
 exact ⟨rfl,B4⟩
theorem nodI_v (nm:ByteArray) (e be rd vd hr hb tr ld:Int) (aA aS aT aW aX aH aV aG aD aP aQ:Option Addr) (nA nS nT nW nX nH nV nG nD nP nQ cA cS cT cW cX cH cV cG cD cP cQ:Nat) (w:World) (hN:∀ V,Calls Tryz.prog 133 #[.string nm] V fun en w'=>en=.returned (.bool true)/\w'=V) (hE:∀ V,Below w.heap.size w V->Calls Tryz.prog 134 #[.agg #[.string nm,.int .i64 e,.int .i64 be,.slice aA nA cA,.slice aS nS cS,.slice aT nT cT,.int .i64 rd,.int .i64 vd,.int .i64 hr,.int .i64 hb,.slice aW nW cW,.int .i64 tr,.slice aX nX cX,.slice aH nH cH,.int .i64 ld,.slice aV nV cV,.slice aG nG cG,.slice aD nD cD,.slice aP nP cP,.slice aQ nQ cQ]] V fun en w'=>en=.returned (.bool true)/\Below V.heap.size V w') (hR:∀ V,Below w.heap.size w V->Calls Tryz.prog 135 #[.agg #[.string nm,.int .i64 e,.int .i64 be,.slice aA nA cA,.slice aS nS cS,.slice aT nT cT,.int .i64 rd,.int .i64 vd,.int .i64 hr,.int .i64 hb,.slice aW nW cW,.int .i64 tr,.slice aX nX cX,.slice aH nH cH,.int .i64 ld,.slice aV nV cV,.slice aG nG cG,.slice aD nD cD,.slice aP nP cP,.slice aQ nQ cQ]] V fun en w'=>en=.returned (.bool true)/\Below V.heap.size V w') (hP:∀ V,Below w.heap.size w V->Calls Tryz.prog 136 #[.slice aP nP cP] V fun en w'=>en=.returned (.bool true)/\Below V.heap.size V w') (jV:decide ((nV:Int)<=1000)=false) :
  Calls Tryz.prog 100 #[.agg #[.string nm,.int .i64 e,.int .i64 be,.slice aA nA cA,.slice aS nS cS,.slice aT nT cT,.int .i64 rd,.int .i64 vd,.int .i64 hr,.int .i64 hb,.slice aW nW cW,.int .i64 tr,.slice aX nX cX,.slice aH nH cH,.int .i64 ld,.slice aV nV cV,.slice aG nG cG,.slice aD nD cD,.slice aP nP cP,.slice aQ nQ cQ]] w fun en w'=>en=.returned (.bool false)/\Below w.heap.size w w':=by
 obtain ⟨w1,hw1⟩:∃ x,w.alloc (.cells #[.string nm,.int .i64 e,.int .i64 be,.slice aA nA cA,.slice aS nS cS,.slice aT nT cT,.int .i64 rd,.int .i64 vd,.int .i64 hr,.int .i64 hb,.slice aW nW cW,.int .i64 tr,.slice aX nX cX,.slice aH nH cH,.int .i64 ld,.slice aV nV cV,.slice aG nG cG,.slice aD nD cD,.slice aP nP cP,.slice aQ nQ cQ] 55)=x:=⟨_,rfl⟩
 have B1:Below w.heap.size w w1:=by rw [<- hw1];exact (br_ _ w).alloc (nr_ _) _
 have k1:Blk w1 w.heap.size 55 [.string nm,.int .i64 e,.int .i64 be,.slice aA nA cA,.slice aS nS cS,.slice aT nT cT,.int .i64 rd,.int .i64 vd,.int .i64 hr,.int .i64 hb,.slice aW nW cW,.int .i64 tr,.slice aX nX cX,.slice aH nH cH,.int .i64 ld,.slice aV nV cV,.slice aG nG cG,.slice aD nD cD,.slice aP nP cP,.slice aQ nQ cQ]:=by rw [<- hw1];exact Blk.new w _ _
 have x0:=k1.cell 0
 simp only [gz_] at x0
 have K1:=a_ k1
 clear k1
 have HN:=a_ hN
 have HE:=a_ hE
 have HR:=a_ hR
 have HP:=a_ hP
 clear hN hE hR hP
 go_enter Tryz.func100,Tryz.ntmps100
 go_upto_region 1 with fail
 (try rw [hw1])
 clear hw1
 obtain ⟨M,hM⟩:∃ x,(Value.agg #[.string nm,.int .i64 e,.int .i64 be,.slice aA nA cA,.slice aS nS cS,.slice aT nT cT,.int .i64 rd,.int .i64 vd,.int .i64 hr,.int .i64 hb,.slice aW nW cW,.int .i64 tr,.slice aX nX cX,.slice aH nH cH,.int .i64 ld,.slice aV nV cV,.slice aG nG cG,.slice aD nD cD,.slice aP nP cP,.slice aQ nQ cQ])=x:=⟨_,rfl⟩
 rw [hM] at HE HR ⊢
 go_wp2_with (first
   | (go_at_call 136;(with_reducible refine (HP.out _ B3).mono ?_);rintro en w4 ⟨rfl,b4⟩;have B4:=B3.trans (b4.mono B3.size);have K4:=a_ (K3.out.below b4 K3.out.lt);have k9:=K4.out;have y4_15:=k9.cell 15;have y4_16:=k9.cell 16;have y4_17:=k9.cell 17;have y4_19:=k9.cell 19;simp only [gz_,gs_] at y4_15 y4_16 y4_17 y4_19;clear k9)
   | (go_at_call 135;(with_reducible refine (HR.out _ B2).mono ?_);rintro en w3 ⟨rfl,b3⟩;have B3:=B2.trans (b3.mono B2.size);have K3:=a_ (K2.out.below b3 K2.out.lt);have k9:=K3.out;have y3_18:=k9.cell 18;simp only [gz_,gs_] at y3_18;clear k9)
   | (refine J_ _ rfl w.heap.size rfl K2.out rfl hM (by rfl) ?_)
   | (go_at_call 134;(with_reducible refine (HE.out _ B1).mono ?_);rintro en w2 ⟨rfl,b2⟩;have B2:=B1.trans (b2.mono B1.size);have K2:=a_ (K1.out.below b2 K1.out.lt))
   | (refine J_ _ rfl w.heap.size rfl K1.out rfl hM (by rfl) ?_)
   | (go_at_call 133;(with_reducible refine (HN.out _).mono ?_);rintro en w9 ⟨rfl,rfl⟩)
   | fail)
 go_ret
 exact ⟨rfl,B4⟩
theorem nodI_g (nm:ByteArray) (e be rd vd hr hb tr ld:Int) (aA aS aT aW aX aH aV aG aD aP aQ:Option Addr) (nA nS nT nW nX nH nV nG nD nP nQ cA cS cT cW cX cH cV cG cD cP cQ:Nat) (w:World) (hN:∀ V,Calls Tryz.prog 133 #[.string nm] V fun en w'=>en=.returned (.bool true)/\w'=V) (hE:∀ V,Below w.heap.size w V->Calls Tryz.prog 134 #[.agg #[.string nm,.int .i64 e,.int .i64 be,.slice aA nA cA,.slice aS nS cS,.slice aT nT cT,.int .i64 rd,.int .i64 vd,.int .i64 hr,.int .i64 hb,.slice aW nW cW,.int .i64 tr,.slice aX nX cX,.slice aH nH cH,.int .i64 ld,.slice aV nV cV,.slice aG nG cG,.slice aD nD cD,.slice aP nP cP,.slice aQ nQ cQ]] V fun en w'=>en=.returned (.bool true)/\Below V.heap.size V w') (hR:∀ V,Below w.heap.size w V->Calls Tryz.prog 135 #[.agg #[.string nm,.int .i64 e,.int .i64 be,.slice aA nA cA,.slice aS nS cS,.slice aT nT cT,.int .i64 rd,.int .i64 vd,.int .i64 hr,.int .i64 hb,.slice aW nW cW,.int .i64 tr,.slice aX nX cX,.slice aH nH cH,.int .i64 ld,.slice aV nV cV,.slice aG nG cG,.slice aD nD cD,.slice aP nP cP,.slice aQ nQ cQ]] V fun en w'=>en=.returned (.bool true)/\Below V.heap.size V w') (hP:∀ V,Below w.heap.size w V->Calls Tryz.prog 136 #[.slice aP nP cP] V fun en w'=>en=.returned (.bool true)/\Below V.heap.size V w') (jV:decide ((nV:Int)<=1000)=true) (jG:decide ((nG:Int)<=1000)=false) :
  Calls Tryz.prog 100 #[.agg #[.string nm,.int .i64 e,.int .i64 be,.slice aA nA cA,.slice aS nS cS,.slice aT nT cT,.int .i64 rd,.int .i64 vd,.int .i64 hr,.int .i64 hb,.slice aW nW cW,.int .i64 tr,.slice aX nX cX,.slice aH nH cH,.int .i64 ld,.slice aV nV cV,.slice aG nG cG,.slice aD nD cD,.slice aP nP cP,.slice aQ nQ cQ]] w fun en w'=>en=.returned (.bool false)/\Below w.heap.size w w':=by
 obtain ⟨w1,hw1⟩:∃ x,w.alloc (.cells #[.string nm,.int .i64 e,.int .i64 be,.slice aA nA cA,.slice aS nS cS,.slice aT nT cT,.int .i64 rd,.int .i64 vd,.int .i64 hr,.int .i64 hb,.slice aW nW cW,.int .i64 tr,.slice aX nX cX,.slice aH nH cH,.int .i64 ld,.slice aV nV cV,.slice aG nG cG,.slice aD nD cD,.slice aP nP cP,.slice aQ nQ cQ] 55)=x:=⟨_,rfl⟩
 have B1:Below w.heap.size w w1:=by rw [<- hw1];exact (br_ _ w).alloc (nr_ _) _
 have k1:Blk w1 w.heap.size 55 [.string nm,.int .i64 e,.int .i64 be,.slice aA nA cA,.slice aS nS cS,.slice aT nT cT,.int .i64 rd,.int .i64 vd,.int .i64 hr,.int .i64 hb,.slice aW nW cW,.int .i64 tr,.slice aX nX cX,.slice aH nH cH,.int .i64 ld,.slice aV nV cV,.slice aG nG cG,.slice aD nD cD,.slice aP nP cP,.slice aQ nQ cQ]:=by rw [<- hw1];exact Blk.new w _ _
 have x0:=k1.cell 0
 simp only [gz_] at x0
 have K1:=a_ k1
 clear k1
 have HN:=a_ hN
 have HE:=a_ hE
 have HR:=a_ hR
 have HP:=a_ hP
 clear hN hE hR hP
 go_enter Tryz.func100,Tryz.ntmps100
 go_upto_region 1 with fail
 (try rw [hw1])
 clear hw1
 obtain ⟨M,hM⟩:∃ x,(Value.agg #[.string nm,.int .i64 e,.int .i64 be,.slice aA nA cA,.slice aS nS cS,.slice aT nT cT,.int .i64 rd,.int .i64 vd,.int .i64 hr,.int .i64 hb,.slice aW nW cW,.int .i64 tr,.slice aX nX cX,.slice aH nH cH,.int .i64 ld,.slice aV nV cV,.slice aG nG cG,.slice aD nD cD,.slice aP nP cP,.slice aQ nQ cQ])=x:=⟨_,rfl⟩
 rw [hM] at HE HR ⊢
 go_wp2_with (first
   | (go_at_call 136;(with_reducible refine (HP.out _ B3).mono ?_);rintro en w4 ⟨rfl,b4⟩;have B4:=B3.trans (b4.mono B3.size);have K4:=a_ (K3.out.below b4 K3.out.lt);have k9:=K4.out;have y4_15:=k9.cell 15;have y4_16:=k9.cell 16;have y4_17:=k9.cell 17;have y4_19:=k9.cell 19;simp only [gz_,gs_] at y4_15 y4_16 y4_17 y4_19;clear k9)
   | (go_at_call 135;(with_reducible refine (HR.out _ B2).mono ?_);rintro en w3 ⟨rfl,b3⟩;have B3:=B2.trans (b3.mono B2.size);have K3:=a_ (K2.out.below b3 K2.out.lt);have k9:=K3.out;have y3_18:=k9.cell 18;simp only [gz_,gs_] at y3_18;clear k9)
   | (refine J_ _ rfl w.heap.size rfl K2.out rfl hM (by rfl) ?_)
   | (go_at_call 134;(with_reducible refine (HE.out _ B1).mono ?_);rintro en w2 ⟨rfl,b2⟩;have B2:=B1.trans (b2.mono B1.size);have K2:=a_ (K1.out.below b2 K1.out.lt))
   | (refine J_ _ rfl w.heap.size rfl K1.out rfl hM (by rfl) ?_)
   | (go_at_call 133;(with_reducible refine (HN.out _).mono ?_);rintro en w9 ⟨rfl,rfl⟩)
   | fail)
 go_ret
 exact ⟨rfl,B4⟩
theorem nodI_d (nm:ByteArray) (e be rd vd hr hb tr ld:Int) (aA aS aT aW aX aH aV aG aD aP aQ:Option Addr) (nA nS nT nW nX nH nV nG nD nP nQ cA cS cT cW cX cH cV cG cD cP cQ:Nat) (w:World) (hN:∀ V,Calls Tryz.prog 133 #[.string nm] V fun en w'=>en=.returned (.bool true)/\w'=V) (hE:∀ V,Below w.heap.size w V->Calls Tryz.prog 134 #[.agg #[.string nm,.int .i64 e,.int .i64 be,.slice aA nA cA,.slice aS nS cS,.slice aT nT cT,.int .i64 rd,.int .i64 vd,.int .i64 hr,.int .i64 hb,.slice aW nW cW,.int .i64 tr,.slice aX nX cX,.slice aH nH cH,.int .i64 ld,.slice aV nV cV,.slice aG nG cG,.slice aD nD cD,.slice aP nP cP,.slice aQ nQ cQ]] V fun en w'=>en=.returned (.bool true)/\Below V.heap.size V w') (hR:∀ V,Below w.heap.size w V->Calls Tryz.prog 135 #[.agg #[.string nm,.int .i64 e,.int .i64 be,.slice aA nA cA,.slice aS nS cS,.slice aT nT cT,.int .i64 rd,.int .i64 vd,.int .i64 hr,.int .i64 hb,.slice aW nW cW,.int .i64 tr,.slice aX nX cX,.slice aH nH cH,.int .i64 ld,.slice aV nV cV,.slice aG nG cG,.slice aD nD cD,.slice aP nP cP,.slice aQ nQ cQ]] V fun en w'=>en=.returned (.bool true)/\Below V.heap.size V w') (hP:∀ V,Below w.heap.size w V->Calls Tryz.prog 136 #[.slice aP nP cP] V fun en w'=>en=.returned (.bool true)/\Below V.heap.size V w') (jV:decide ((nV:Int)<=1000)=true) (jG:decide ((nG:Int)<=1000)=true) (jD:decide ((nD:Int)<=200)=false) :
  Calls Tryz.prog 100 #[.agg #[.string nm,.int .i64 e,.int .i64 be,.slice aA nA cA,.slice aS nS cS,.slice aT nT cT,.int .i64 rd,.int .i64 vd,.int .i64 hr,.int .i64 hb,.slice aW nW cW,.int .i64 tr,.slice aX nX cX,.slice aH nH cH,.int .i64 ld,.slice aV nV cV,.slice aG nG cG,.slice aD nD cD,.slice aP nP cP,.slice aQ nQ cQ]] w fun en w'=>en=.returned (.bool false)/\Below w.heap.size w w':=by
 obtain ⟨w1,hw1⟩:∃ x,w.alloc (.cells #[.string nm,.int .i64 e,.int .i64 be,.slice aA nA cA,.slice aS nS cS,.slice aT nT cT,.int .i64 rd,.int .i64 vd,.int .i64 hr,.int .i64 hb,.slice aW nW cW,.int .i64 tr,.slice aX nX cX,.slice aH nH cH,.int .i64 ld,.slice aV nV cV,.slice aG nG cG,.slice aD nD cD,.slice aP nP cP,.slice aQ nQ cQ] 55)=x:=⟨_,rfl⟩
 have B1:Below w.heap.size w w1:=by rw [<- hw1];exact (br_ _ w).alloc (nr_ _) _
 have k1:Blk w1 w.heap.size 55 [.string nm,.int .i64 e,.int .i64 be,.slice aA nA cA,.slice aS nS cS,.slice aT nT cT,.int .i64 rd,.int .i64 vd,.int .i64 hr,.int .i64 hb,.slice aW nW cW,.int .i64 tr,.slice aX nX cX,.slice aH nH cH,.int .i64 ld,.slice aV nV cV,.slice aG nG cG,.slice aD nD cD,.slice aP nP cP,.slice aQ nQ cQ]:=by rw [<- hw1];exact Blk.new w _ _
 have x0:=k1.cell 0
 simp only [gz_] at x0
 have K1:=a_ k1
 clear k1
 have HN:=a_ hN
 have HE:=a_ hE
 have HR:=a_ hR
 have HP:=a_ hP
 clear hN hE hR hP
 go_enter Tryz.func100,Tryz.ntmps100
 go_upto_region 1 with fail
 (try rw [hw1])
 clear hw1
 obtain ⟨M,hM⟩:∃ x,(Value.agg #[.string nm,.int .i64 e,.int .i64 be,.slice aA nA cA,.slice aS nS cS,.slice aT nT cT,.int .i64 rd,.int .i64 vd,.int .i64 hr,.int .i64 hb,.slice aW nW cW,.int .i64 tr,.slice aX nX cX,.slice aH nH cH,.int .i64 ld,.slice aV nV cV,.slice aG nG cG,.slice aD nD cD,.slice aP nP cP,.slice aQ nQ cQ])=x:=⟨_,rfl⟩
 rw [hM] at HE HR ⊢
 go_wp2_with (first
   | (go_at_call 136;(with_reducible refine (HP.out _ B3).mono ?_);rintro en w4 ⟨rfl,b4⟩;have B4:=B3.trans (b4.mono B3.size);have K4:=a_ (K3.out.below b4 K3.out.lt);have k9:=K4.out;have y4_15:=k9.cell 15;have y4_16:=k9.cell 16;have y4_17:=k9.cell 17;have y4_19:=k9.cell 19;simp only [gz_,gs_] at y4_15 y4_16 y4_17 y4_19;clear k9)
   | (go_at_call 135;(with_reducible refine (HR.out _ B2).mono ?_);rintro en w3 ⟨rfl,b3⟩;have B3:=B2.trans (b3.mono B2.size);have K3:=a_ (K2.out.below b3 K2.out.lt);have k9:=K3.out;have y3_18:=k9.cell 18;simp only [gz_,gs_] at y3_18;clear k9)
   | (refine J_ _ rfl w.heap.size rfl K2.out rfl hM (by rfl) ?_)
   | (go_at_call 134;(with_reducible refine (HE.out _ B1).mono ?_);rintro en w2 ⟨rfl,b2⟩;have B2:=B1.trans (b2.mono B1.size);have K2:=a_ (K1.out.below b2 K1.out.lt))
   | (refine J_ _ rfl w.heap.size rfl K1.out rfl hM (by rfl) ?_)
   | (go_at_call 133;(with_reducible refine (HN.out _).mono ?_);rintro en w9 ⟨rfl,rfl⟩)
   | fail)
 go_ret
 exact ⟨rfl,B4⟩
theorem nodI_q (nm:ByteArray) (e be rd vd hr hb tr ld:Int) (aA aS aT aW aX aH aV aG aD aP aQ:Option Addr) (nA nS nT nW nX nH nV nG nD nP nQ cA cS cT cW cX cH cV cG cD cP cQ:Nat) (w:World) (hN:∀ V,Calls Tryz.prog 133 #[.string nm] V fun en w'=>en=.returned (.bool true)/\w'=V) (hE:∀ V,Below w.heap.size w V->Calls Tryz.prog 134 #[.agg #[.string nm,.int .i64 e,.int .i64 be,.slice aA nA cA,.slice aS nS cS,.slice aT nT cT,.int .i64 rd,.int .i64 vd,.int .i64 hr,.int .i64 hb,.slice aW nW cW,.int .i64 tr,.slice aX nX cX,.slice aH nH cH,.int .i64 ld,.slice aV nV cV,.slice aG nG cG,.slice aD nD cD,.slice aP nP cP,.slice aQ nQ cQ]] V fun en w'=>en=.returned (.bool true)/\Below V.heap.size V w') (hR:∀ V,Below w.heap.size w V->Calls Tryz.prog 135 #[.agg #[.string nm,.int .i64 e,.int .i64 be,.slice aA nA cA,.slice aS nS cS,.slice aT nT cT,.int .i64 rd,.int .i64 vd,.int .i64 hr,.int .i64 hb,.slice aW nW cW,.int .i64 tr,.slice aX nX cX,.slice aH nH cH,.int .i64 ld,.slice aV nV cV,.slice aG nG cG,.slice aD nD cD,.slice aP nP cP,.slice aQ nQ cQ]] V fun en w'=>en=.returned (.bool true)/\Below V.heap.size V w') (hP:∀ V,Below w.heap.size w V->Calls Tryz.prog 136 #[.slice aP nP cP] V fun en w'=>en=.returned (.bool true)/\Below V.heap.size V w') (jV:decide ((nV:Int)<=1000)=true) (jG:decide ((nG:Int)<=1000)=true) (jD:decide ((nD:Int)<=200)=true) :
  Calls Tryz.prog 100 #[.agg #[.string nm,.int .i64 e,.int .i64 be,.slice aA nA cA,.slice aS nS cS,.slice aT nT cT,.int .i64 rd,.int .i64 vd,.int .i64 hr,.int .i64 hb,.slice aW nW cW,.int .i64 tr,.slice aX nX cX,.slice aH nH cH,.int .i64 ld,.slice aV nV cV,.slice aG nG cG,.slice aD nD cD,.slice aP nP cP,.slice aQ nQ cQ]] w fun en w'=>en=.returned (.bool (decide ((nQ:Int)<=200)))/\Below w.heap.size w w':=by
 obtain ⟨w1,hw1⟩:∃ x,w.alloc (.cells #[.string nm,.int .i64 e,.int .i64 be,.slice aA nA cA,.slice aS nS cS,.slice aT nT cT,.int .i64 rd,.int .i64 vd,.int .i64 hr,.int .i64 hb,.slice aW nW cW,.int .i64 tr,.slice aX nX cX,.slice aH nH cH,.int .i64 ld,.slice aV nV cV,.slice aG nG cG,.slice aD nD cD,.slice aP nP cP,.slice aQ nQ cQ] 55)=x:=⟨_,rfl⟩
 have B1:Below w.heap.size w w1:=by rw [<- hw1];exact (br_ _ w).alloc (nr_ _) _
 have k1:Blk w1 w.heap.size 55 [.string nm,.int .i64 e,.int .i64 be,.slice aA nA cA,.slice aS nS cS,.slice aT nT cT,.int .i64 rd,.int .i64 vd,.int .i64 hr,.int .i64 hb,.slice aW nW cW,.int .i64 tr,.slice aX nX cX,.slice aH nH cH,.int .i64 ld,.slice aV nV cV,.slice aG nG cG,.slice aD nD cD,.slice aP nP cP,.slice aQ nQ cQ]:=by rw [<- hw1];exact Blk.new w _ _
 have x0:=k1.cell 0
 simp only [gz_] at x0
 have K1:=a_ k1
 clear k1
 have HN:=a_ hN
 have HE:=a_ hE
 have HR:=a_ hR
 have HP:=a_ hP
 clear hN hE hR hP
 go_enter Tryz.func100,Tryz.ntmps100
 go_upto_region 1 with fail
 (try rw [hw1])
 clear hw1
 obtain ⟨M,hM⟩:∃ x,(Value.agg #[.string nm,.int .i64 e,.int .i64 be,.slice aA nA cA,.slice aS nS cS,.slice aT nT cT,.int .i64 rd,.int .i64 vd,.int .i64 hr,.int .i64 hb,.slice aW nW cW,.int .i64 tr,.slice aX nX cX,.slice aH nH cH,.int .i64 ld,.slice aV nV cV,.slice aG nG cG,.slice aD nD cD,.slice aP nP cP,.slice aQ nQ cQ])=x:=⟨_,rfl⟩
 rw [hM] at HE HR ⊢
 go_wp2_with (first
   | (go_at_call 136;(with_reducible refine (HP.out _ B3).mono ?_);rintro en w4 ⟨rfl,b4⟩;have B4:=B3.trans (b4.mono B3.size);have K4:=a_ (K3.out.below b4 K3.out.lt);have k9:=K4.out;have y4_15:=k9.cell 15;have y4_16:=k9.cell 16;have y4_17:=k9.cell 17;have y4_19:=k9.cell 19;simp only [gz_,gs_] at y4_15 y4_16 y4_17 y4_19;clear k9)
   | (go_at_call 135;(with_reducible refine (HR.out _ B2).mono ?_);rintro en w3 ⟨rfl,b3⟩;have B3:=B2.trans (b3.mono B2.size);have K3:=a_ (K2.out.below b3 K2.out.lt);have k9:=K3.out;have y3_18:=k9.cell 18;simp only [gz_,gs_] at y3_18;clear k9)
   | (refine J_ _ rfl w.heap.size rfl K2.out rfl hM (by rfl) ?_)
   | (go_at_call 134;(with_reducible refine (HE.out _ B1).mono ?_);rintro en w2 ⟨rfl,b2⟩;have B2:=B1.trans (b2.mono B1.size);have K2:=a_ (K1.out.below b2 K1.out.lt))
   | (refine J_ _ rfl w.heap.size rfl K1.out rfl hM (by rfl) ?_)
   | (go_at_call 133;(with_reducible refine (HN.out _).mono ?_);rintro en w9 ⟨rfl,rfl⟩)
   | fail)
 go_ret
 exact ⟨rfl,B4⟩
theorem al_ (p:Nd) (u:Nv) (w:World) (hr:RdNd w p u) (hf:FewNd p) (hg:FitNd p) :
  Calls Tryz.prog 100 #[noV p u] w fun en w'=>en=.returned (.bool (nodB p))/\Below w.heap.size w w':=by
 have HF:Hid (nodB p=(nmB p.nm && (epkB p.la p.st p.tt p.ep p.be && (rdsB p.st p.rd p.vd p.ld p.hr p.hb p.tr p.hw p.tw p.th && (poolB p.pl && (decide (p.vo.length<=1000) && (decide (p.go.length<=1000) && (decide (p.dn.length<=200) && decide (p.ps.length<=200))))))))):=a_ rfl
 generalize nodB p=X at HF ⊢
 obtain ⟨nm,ep,be,la,st,tt,rd,vd,hr,hb,hw,tr,tw,th,ld,vo,go,dn,pl,ps⟩:=p
 obtain ⟨ya,ys,yt,yw,yx,yh,yv,yg,yd,yp,yq⟩:=u
 obtain ⟨hya,hys,hyt,hyw,hyx,hyh,hyv,hyg,hyd,hyp,hyq⟩:=hr
 simp only at *
 obtain ⟨ada,cpa,rfl⟩:=hya.shape
 obtain ⟨ads,cps,rfl⟩:=hys.shape
 obtain ⟨adt,cpt,rfl⟩:=hyt.shape
 obtain ⟨adw,cpw,rfl⟩:=hyw.shape
 obtain ⟨adx,cpx,rfl⟩:=hyx.shape
 obtain ⟨adh,cph,rfl⟩:=hyh.shape
 obtain ⟨adv,cpv,rfl⟩:=hyv.shape
 obtain ⟨adg,cpg,rfl⟩:=hyg.shape
 obtain ⟨add,cpd,rfl⟩:=hyd.shape
 obtain ⟨adp,cpp,rfl⟩:=hyp.shape
 obtain ⟨adq,cpq,rfl⟩:=hyq.shape
 simp only [noV]
 have HN:=a_ (fun V=>m_ nm V hg.znm)
 have HE:=a_ (fun V (hV:Below w.heap.size w V)=>du_ nm ep be rd vd hr hb tr ld ada ads adt adw adx adh adv adg add adp adq hw.length tw.length th.length vo.length go.length dn.length pl.length ps.length cpa cps cpt cpw cpx cph cpv cpg cpd cpp cpq la st tt V (hya.below hV (nr_ _)) (hys.below hV (nr_ _)) (hyt.below hV (nr_ _)) hf.na hf.ns hf.nt (fun a ha=>⟨(hg.ga a ha).1,hf.fa a ha⟩) hg.gs hf.ft (is_ hg.gt))
 have HR:=a_ (fun (hm:ModV st) V (hV:Below w.heap.size w V)=>cC_ nm ep be rd vd hr hb tr ld ada ads adt adw adx adh adv adg add adp adq la.length tt.length vo.length go.length dn.length pl.length ps.length cpa cps cpt cpw cpx cph cpv cpg cpd cpp cpq st hw tw th V (hys.below hV (nr_ _)) (hyw.below hV (nr_ _)) (hyx.below hV (nr_ _)) (hyh.below hV (nr_ _)) hf.ns hf.nw hf.nx hf.nh hg.gw hg.gx hm)
 have HP:=a_ (fun V (hV:Below w.heap.size w V)=>aX_ (.slice adp pl.length cpp) pl V (hyp.below hV (nr_ _)) hf.np hg.gp)
 have HM:=a_ (show epkB la st tt ep be=true->ModV st from ks_)
 generalize nmB nm=N0 at HF HN
 generalize epkB la st tt ep be=E0 at HF HE HM
 generalize rdsB st rd vd ld hr hb tr hw tw th=R0 at HF HR
 generalize poolB pl=P0 at HF HP
 clear hya hys hyt hyw hyx hyh hyv hyg hyd hyp hyq hf hg
 cases N0
 ·rw [HF.out,Bool.false_and]
  exact nodI_n nm ep be rd vd hr hb tr ld ada ads adt adw adx adh adv adg add adp adq la.length st.length tt.length hw.length tw.length th.length vo.length go.length dn.length pl.length ps.length cpa cps cpt cpw cpx cph cpv cpg cpd cpp cpq w HN.out
 ·rw [Bool.true_and] at HF
  cases E0
  ·rw [HF.out,Bool.false_and]
   exact nodI_e nm ep be rd vd hr hb tr ld ada ads adt adw adx adh adv adg add adp adq la.length st.length tt.length hw.length tw.length th.length vo.length go.length dn.length pl.length ps.length cpa cps cpt cpw cpx cph cpv cpg cpd cpp cpq w HN.out HE.out
  ·rw [Bool.true_and] at HF
   have HR:=a_ (HR.out (HM.out rfl))
   cases R0
   ·rw [HF.out,Bool.false_and]
    exact nodI_r nm ep be rd vd hr hb tr ld ada ads adt adw adx adh adv adg add adp adq la.length st.length tt.length hw.length tw.length th.length vo.length go.length dn.length pl.length ps.length cpa cps cpt cpw cpx cph cpv cpg cpd cpp cpq w HN.out HE.out HR.out
   ·rw [Bool.true_and] at HF
    cases P0
    ·rw [HF.out,Bool.false_and]
     exact nodI_p nm ep be rd vd hr hb tr ld ada ads adt adw adx adh adv adg add adp adq la.length st.length tt.length hw.length tw.length th.length vo.length go.length dn.length pl.length ps.length cpa cps cpt cpw cpx cph cpv cpg cpd cpp cpq w HN.out HE.out HR.out HP.out
    ·rw [Bool.true_and] at HF
     by_cases iV:vo.length<=1000
     ·rw [decide_eq_true iV,Bool.true_and] at HF
      have jV:decide ((vo.length:Int)<=1000)=true:=by rw [decide_eq_true_iff];omega
      by_cases iG:go.length<=1000
      ·rw [decide_eq_true iG,Bool.true_and] at HF
       have jG:decide ((go.length:Int)<=1000)=true:=by rw [decide_eq_true_iff];omega
       by_cases iD:dn.length<=200
       ·rw [decide_eq_true iD,Bool.true_and] at HF
        have jD:decide ((dn.length:Int)<=200)=true:=by rw [decide_eq_true_iff];omega
        have HQ:decide ((ps.length:Int)<=200)=decide (ps.length<=200):=by rw [decide_eq_decide];omega
        rw [<- HQ] at HF
        rw [HF.out]
        exact nodI_q nm ep be rd vd hr hb tr ld ada ads adt adw adx adh adv adg add adp adq la.length st.length tt.length hw.length tw.length th.length vo.length go.length dn.length pl.length ps.length cpa cps cpt cpw cpx cph cpv cpg cpd cpp cpq w HN.out HE.out HR.out HP.out jV jG jD
       ·rw [decide_eq_false iD,Bool.false_and] at HF
        have jD:decide ((dn.length:Int)<=200)=false:=by rw [decide_eq_false_iff_not];omega
        rw [HF.out]
        exact nodI_d nm ep be rd vd hr hb tr ld ada ads adt adw adx adh adv adg add adp adq la.length st.length tt.length hw.length tw.length th.length vo.length go.length dn.length pl.length ps.length cpa cps cpt cpw cpx cph cpv cpg cpd cpp cpq w HN.out HE.out HR.out HP.out jV jG jD
      ·rw [decide_eq_false iG,Bool.false_and] at HF
       have jG:decide ((go.length:Int)<=1000)=false:=by rw [decide_eq_false_iff_not];omega
       rw [HF.out]
       exact nodI_g nm ep be rd vd hr hb tr ld ada ads adt adw adx adh adv adg add adp adq la.length st.length tt.length hw.length tw.length th.length vo.length go.length dn.length pl.length ps.length cpa cps cpt cpw cpx cph cpv cpg cpd cpp cpq w HN.out HE.out HR.out HP.out jV jG
     ·rw [decide_eq_false iV,Bool.false_and] at HF
      have jV:decide ((vo.length:Int)<=1000)=false:=by rw [decide_eq_false_iff_not];omega
      rw [HF.out]
      exact nodI_v nm ep be rd vd hr hb tr ld ada ads adt adw adx adh adv adg add adp adq la.length st.length tt.length hw.length tw.length th.length vo.length go.length dn.length pl.length ps.length cpa cps cpt cpw cpx cph cpv cpg cpd cpp cpq w HN.out HE.out HR.out HP.out jV
open Go.RowKit
def errV (b0:Addr):Value:=.iface 245 (.pointer (some b0))
def Gc (w:World) (b0:Addr):Prop:=w.cell? ⟨0,0,none⟩=some (errV b0)
theorem Gc.below {w w':World} {b0:Addr} {K:Nat} (h:Gc w b0) (hb:Below K w w') (hK:0 < K):Gc w' b0:=(hb.cell (p:=⟨0,0,none⟩) hK).trans h
theorem aK_ (w:World):Calls Tryz.prog 99 #[.bool true] w fun e w'=>e=.returned (.tuple #[])/\w'=w:=by
 go_enter Tryz.func99,Tryz.ntmps99
 go_wp2
 go_end0
 exact ⟨rfl,rfl⟩
theorem cq_ (b0:Addr) (w:World) (h:Gc w b0):Calls Tryz.prog 99 #[.bool false] w fun e w'=>e=.panicked [{ v:=errV b0,recovered:=false }]/\w'=w:=by
 unfold Gc errV at h
 go_enter Tryz.func99,Tryz.ntmps99
 go_wp2
 exact ⟨rfl,rfl,rfl⟩
theorem Tryz.infoT24:(Tryz.prog.info? 91).map (·.size)=some 24:=by kernel_rfl
theorem gM_ (p1 p2 p3:Addr) (w:World) :
  CallsD Tryz.prog 98 #[.pointer (some p1),.pointer (some p2),.pointer (some p3)] .returning w fun e u' w'=>e=.returned (.tuple #[])/\u'=.returning/\w'=w:=by
 refine callsD_of_wpS Tryz.func98 rfl fun c₀ cs hu=>?_
 apply wpS_seq
 apply wpS_region
 simp [wpOpsS,go_sem,recoverD,hu,Tryz.ntmps98,Exit.thenS]
 refine wpS_cond (t:=false) (by simp [Act.eval,Array.replicate]) ?_
 simp only [Bool.false_eq_true,if_false]
 refine wpS_of_wp (wp_skip ?_)
 cases c₀
 simp_all [bodyPostS,results,Tryz.results98]
theorem bH_ (B1 B2 B3:Nat) (u0 u1 u2 u3 u4 u5 u6 u7 u8 u9 u10 u11 u12 u13 u14 u15 u16 u17 u18 u19:Value) (xs:List Value) (t:Bool) (U:TypeId) (pv:Value) (older:List PanicEntry) (w:World) (h1:Blk w B1 55 [u0,u1,u2,u3,u4,u5,u6,u7,u8,u9,u10,u11,u12,u13,u14,u15,u16,u17,u18,u19]) (ho:([u0,u1,u2,u3,u4,u5,u6,u7,u8,u9,u10,u11,u12,u13,u14,u15,u16,u17,u18,u19,.slice none 0 0,.slice none 0 0,.slice none 0 0,.bool false]:List Value).all (·.oneCell')=true) (h2:Blk w B2 91 xs) (hl:xs.length=24) (h3:Blk w B3 4 [.bool t]) (h12:B1 ≠ B2) (h23:B3 ≠ B2) :
  CallsD Tryz.prog 98 #[.pointer (some ⟨B1,0,none⟩),.pointer (some ⟨B2,0,none⟩),.pointer (some ⟨B3,0,none⟩)] (.panicking ({ v:=.iface U pv,recovered:=false } :: older)) w fun e u' w'=>e=.returned (.tuple #[])/\u'=.panicking ({ v:=.iface U pv,recovered:=true } :: older)/\Blk w' B2 91 [u0,u1,u2,u3,u4,u5,u6,u7,u8,u9,u10,u11,u12,u13,u14,u15,u16,u17,u18,u19,.slice none 0 0,.slice none 0 0,.slice none 0 0,.bool false]/\w'.cell? ⟨B3,0,none⟩=some (.bool false)/\Oth (fun g=>g=B2\/g=B3) w w':=by
 have HL:=a_ (c_ h1)
 obtain ⟨F,hF⟩:∃ x,([u0,u1,u2,u3,u4,u5,u6,u7,u8,u9,u10,u11,u12,u13,u14,u15,u16,u17,u18,u19,.slice none 0 0,.slice none 0 0,.slice none 0 0,.bool false]:List Value)=x:=⟨_,rfl⟩
 have hFl:F.length=24:=by rw [<- hF];rfl
 have HT:=a_ (show w.there B2 0 F.toArray.size from by rw [show F.toArray.size=24 from by simpa using hFl];exact h2.there hl)
 have HO:=a_ (all_oneCell_toArray (cs:=F) (List.all_eq_true.1 (by rw [<- hF];exact ho)))
 have Hsz:=a_ (show (Tryz.prog.info? 91).map (·.size)=some F.toArray.size from by rw [show F.toArray.size=24 from by simpa using hFl];exact Tryz.infoT24)
 obtain ⟨wS,hwS⟩:∃ x,w.setCells B2 0 F.toArray.toList=x:=⟨_,rfl⟩
 have k2:Blk wS B2 91 F:=by rw [<- hwS];exact q_ h2 (by rw [hl,hFl])
 have k3:Blk wS B3 4 [.bool t]:=by rw [<- hwS];exact h3.sets h23 0 _
 have hO:Oth (fun g=>g=B2\/g=B3) w wS:=by rw [<- hwS];exact Oth.of_grown (ac_ B2 _ w 0) (fun k e=>by cases e;exact .inl rfl)
 have y3:=k3.cell 0
 have z3:=k3.frozen 0
 simp only [gz_] at y3
 have HwS:=a_ hwS
 have HF:=a_ hF
 have HK:=a_ (show Blk (wS.setCell ⟨B3,0,none⟩ (.bool false)) B2 91 F from k2.otherC B3 0 _ (fun e=>h23 e.symm))
 have HB:=a_ (show (wS.setCell ⟨B3,0,none⟩ (.bool false)).cell? ⟨B3,0,none⟩=some (.bool false) from (k3.setC 0 (.bool false)).cell 0)
 have HQ:=a_ (hO.set (S:=fun g=>g=B2\/g=B3) (.inr rfl) 0 (.bool false))
 clear h1 h2 h3 k2 k3 hO hwS ho hFl hF
 refine callsD_of_wpS Tryz.func98 rfl fun c₀ cs hu=>?_
 apply wpS_seq
 apply wpS_region
 simp [wpOpsS,go_sem,recoverD,hu,Tryz.ntmps98,Exit.thenS]
 refine wpS_cond (t:=true) (by simp [Act.eval,Array.replicate]) ?_
 simp only [if_true]
 refine wpS_of_wp ?_
 change Code.wp _ _ _ { tmps:=#[.pointer (some ⟨B1,0,none⟩),.pointer (some ⟨B2,0,none⟩),.pointer (some ⟨B3,0,none⟩),.iface U pv,.bool true,undef,undef],defers:=[] } _
 refine wp_region_list ?_
 refine wpList_load_mid rfl 55 _ rfl B1 0 rfl _ _ HL.out Tryz.underlying55 rfl Tryz.infoC20 ?_
 simp only [Act.put,sb_,sz_,ss_]
 go_wp2_with (refine wpList_store_mid rfl 91 _ _ rfl B2 0 F.toArray rfl (by rw [<- HF.out];rfl) HT.out Hsz.out HO.out ?_;rw [HwS.out])
 have hk:=HK.out
 rw [<- HF.out] at hk
 exact ⟨rfl,_,rfl,.tuple #[],by simp [results,Tryz.results98],rfl,rfl,hk,HB.out,HQ.out⟩
def noT (b:Bool) (p:Nd) (u:Nv):List Value:=(if b=true then (((noC p u).set 15 (.slice none 0 0)).set 16 (.slice none 0 0)).set 18 (.slice none 0 0) else noC p u) ++ [.slice none 0 0,.slice none 0 0,.slice none 0 0,.bool false]
end Go.Proofs.YtamljhcmiphdgaaGreatDoor
