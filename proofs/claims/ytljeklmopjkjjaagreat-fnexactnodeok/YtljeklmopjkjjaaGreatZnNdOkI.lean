/- The landed code's NodeOk, of any node. -/
import Derived.Test.YtljeklmopjkjjaaGreatZnNdPure
import Derived.Test.YtljeklmopjkjjaaGreatZnNdSz
import Derived.Deep.Cut
import Derived.Deep.MidRow
namespace Go.Proofs.YtljeklmopjkjjaaGreat
open Go.RowKit Go.Sort
set_option linter.unusedVariables false

theorem load_nd {ops : Array Oper} {rest : List Oper} {op : Oper} {a : Act} {w : World} {Q : Exit → Act → World → Prop} (x : Operand) (ho : op.op = .load 53 x) (B : Nat) (hx : a.eval x = .pointer (some ⟨B, 0, none⟩)) {cs : List Value} {M : Value} (h : Blk w B 53 cs) (hl : cs.length = 20) (hM : Value.agg cs.toArray = M)
    (hw : Region.wanted op (yielded ops a.tmps) = true) (hK : wpList Tryz.prog ops Q rest (a.put op.dst M) w) : wpList Tryz.prog ops Q (op :: rest) a w := by
  subst hM
  unfold wpList
  rw [if_pos hw]
  exact .inl (wp_load_mid 53 x ho B 0 hx cs _ (blk_range h) Tryz.underlying53 rfl (by rw [hl]; kernel_rfl) hK)
set_option maxRecDepth 20000 in
set_option maxHeartbeats 4000000 in
theorem nodI_n (nm : ByteArray) (e be rd vd hr hb tr ld : Int) (aA aS aT aW aX aH aV aG aD aP aQ : Option Addr) (nA nS nT nW nX nH nV nG nD nP nQ cA cS cT cW cX cH cV cG cD cP cQ : Nat) (w : World) (hN : ∀ V, Calls Tryz.prog 37 #[.string nm] V fun en w' => en = .returned (.bool false) ∧ w' = V) :
    Calls Tryz.prog 7 #[.agg #[.string nm, .int .i64 e, .int .i64 be, .slice aA nA cA, .slice aS nS cS, .slice aT nT cT, .int .i64 rd, .int .i64 vd, .int .i64 hr, .int .i64 hb, .slice aW nW cW, .int .i64 tr, .slice aX nX cX, .slice aH nH cH, .int .i64 ld, .slice aV nV cV, .slice aG nG cG, .slice aD nD cD, .slice aP nP cP, .slice aQ nQ cQ]] w fun en w' => en = .returned (.bool false) ∧ Below w.heap.size w w' := by
  obtain ⟨w1, hw1⟩ : ∃ x, w.alloc (.cells #[.string nm, .int .i64 e, .int .i64 be, .slice aA nA cA, .slice aS nS cS, .slice aT nT cT, .int .i64 rd, .int .i64 vd, .int .i64 hr, .int .i64 hb, .slice aW nW cW, .int .i64 tr, .slice aX nX cX, .slice aH nH cH, .int .i64 ld, .slice aV nV cV, .slice aG nG cG, .slice aD nD cD, .slice aP nP cP, .slice aQ nQ cQ] 53) = x := ⟨_, rfl⟩
  have B1 : Below w.heap.size w w1 := by rw [← hw1]; exact (Below.refl _ w).alloc (Nat.le_refl _) _
  have k1 : Blk w1 w.heap.size 53 [.string nm, .int .i64 e, .int .i64 be, .slice aA nA cA, .slice aS nS cS, .slice aT nT cT, .int .i64 rd, .int .i64 vd, .int .i64 hr, .int .i64 hb, .slice aW nW cW, .int .i64 tr, .slice aX nX cX, .slice aH nH cH, .int .i64 ld, .slice aV nV cV, .slice aG nG cG, .slice aD nD cD, .slice aP nP cP, .slice aQ nQ cQ] := by rw [← hw1]; exact Blk.new w _ _
  have x0 := k1.cell 0
  simp only [List.getElem?_cons_zero] at x0
  have K1 := hide k1
  clear k1
  have HN := hide hN
  clear hN
  go_enter Tryz.func7, Tryz.ntmps7
  go_upto_region 1 with fail
  (try rw [hw1])
  clear hw1
  go_wp2_with (first
      | (go_at_call 37; (with_reducible refine (HN.out _).mono ?_); rintro en w9 ⟨rfl, rfl⟩)
      | fail)
  go_ret
  exact ⟨rfl, B1⟩
set_option maxRecDepth 20000 in
set_option maxHeartbeats 4000000 in
theorem nodI_e (nm : ByteArray) (e be rd vd hr hb tr ld : Int) (aA aS aT aW aX aH aV aG aD aP aQ : Option Addr) (nA nS nT nW nX nH nV nG nD nP nQ cA cS cT cW cX cH cV cG cD cP cQ : Nat) (w : World) (hN : ∀ V, Calls Tryz.prog 37 #[.string nm] V fun en w' => en = .returned (.bool true) ∧ w' = V) (hE : ∀ V, Below w.heap.size w V → Calls Tryz.prog 38 #[.agg #[.string nm, .int .i64 e, .int .i64 be, .slice aA nA cA, .slice aS nS cS, .slice aT nT cT, .int .i64 rd, .int .i64 vd, .int .i64 hr, .int .i64 hb, .slice aW nW cW, .int .i64 tr, .slice aX nX cX, .slice aH nH cH, .int .i64 ld, .slice aV nV cV, .slice aG nG cG, .slice aD nD cD, .slice aP nP cP, .slice aQ nQ cQ]] V fun en w' => en = .returned (.bool false) ∧ Below V.heap.size V w') :
    Calls Tryz.prog 7 #[.agg #[.string nm, .int .i64 e, .int .i64 be, .slice aA nA cA, .slice aS nS cS, .slice aT nT cT, .int .i64 rd, .int .i64 vd, .int .i64 hr, .int .i64 hb, .slice aW nW cW, .int .i64 tr, .slice aX nX cX, .slice aH nH cH, .int .i64 ld, .slice aV nV cV, .slice aG nG cG, .slice aD nD cD, .slice aP nP cP, .slice aQ nQ cQ]] w fun en w' => en = .returned (.bool false) ∧ Below w.heap.size w w' := by
  obtain ⟨w1, hw1⟩ : ∃ x, w.alloc (.cells #[.string nm, .int .i64 e, .int .i64 be, .slice aA nA cA, .slice aS nS cS, .slice aT nT cT, .int .i64 rd, .int .i64 vd, .int .i64 hr, .int .i64 hb, .slice aW nW cW, .int .i64 tr, .slice aX nX cX, .slice aH nH cH, .int .i64 ld, .slice aV nV cV, .slice aG nG cG, .slice aD nD cD, .slice aP nP cP, .slice aQ nQ cQ] 53) = x := ⟨_, rfl⟩
  have B1 : Below w.heap.size w w1 := by rw [← hw1]; exact (Below.refl _ w).alloc (Nat.le_refl _) _
  have k1 : Blk w1 w.heap.size 53 [.string nm, .int .i64 e, .int .i64 be, .slice aA nA cA, .slice aS nS cS, .slice aT nT cT, .int .i64 rd, .int .i64 vd, .int .i64 hr, .int .i64 hb, .slice aW nW cW, .int .i64 tr, .slice aX nX cX, .slice aH nH cH, .int .i64 ld, .slice aV nV cV, .slice aG nG cG, .slice aD nD cD, .slice aP nP cP, .slice aQ nQ cQ] := by rw [← hw1]; exact Blk.new w _ _
  have x0 := k1.cell 0
  simp only [List.getElem?_cons_zero] at x0
  have K1 := hide k1
  clear k1
  have HN := hide hN
  have HE := hide hE
  clear hN hE
  go_enter Tryz.func7, Tryz.ntmps7
  go_upto_region 1 with fail
  (try rw [hw1])
  clear hw1
  obtain ⟨M, hM⟩ : ∃ x, (Value.agg #[.string nm, .int .i64 e, .int .i64 be, .slice aA nA cA, .slice aS nS cS, .slice aT nT cT, .int .i64 rd, .int .i64 vd, .int .i64 hr, .int .i64 hb, .slice aW nW cW, .int .i64 tr, .slice aX nX cX, .slice aH nH cH, .int .i64 ld, .slice aV nV cV, .slice aG nG cG, .slice aD nD cD, .slice aP nP cP, .slice aQ nQ cQ]) = x := ⟨_, rfl⟩
  rw [hM] at HE ⊢
  go_wp2_with (first
      | (go_at_call 38; (with_reducible refine (HE.out _ B1).mono ?_); rintro en w2 ⟨rfl, b2⟩; have B2 := B1.trans (b2.mono B1.size); have K2 := hide (K1.out.below b2 K1.out.lt))
      | (refine load_nd _ rfl w.heap.size rfl K1.out rfl hM (by rfl) ?_)
      | (go_at_call 37; (with_reducible refine (HN.out _).mono ?_); rintro en w9 ⟨rfl, rfl⟩)
      | fail)
  go_ret
  exact ⟨rfl, B2⟩
set_option maxRecDepth 20000 in
set_option maxHeartbeats 4000000 in
theorem nodI_r (nm : ByteArray) (e be rd vd hr hb tr ld : Int) (aA aS aT aW aX aH aV aG aD aP aQ : Option Addr) (nA nS nT nW nX nH nV nG nD nP nQ cA cS cT cW cX cH cV cG cD cP cQ : Nat) (w : World) (hN : ∀ V, Calls Tryz.prog 37 #[.string nm] V fun en w' => en = .returned (.bool true) ∧ w' = V) (hE : ∀ V, Below w.heap.size w V → Calls Tryz.prog 38 #[.agg #[.string nm, .int .i64 e, .int .i64 be, .slice aA nA cA, .slice aS nS cS, .slice aT nT cT, .int .i64 rd, .int .i64 vd, .int .i64 hr, .int .i64 hb, .slice aW nW cW, .int .i64 tr, .slice aX nX cX, .slice aH nH cH, .int .i64 ld, .slice aV nV cV, .slice aG nG cG, .slice aD nD cD, .slice aP nP cP, .slice aQ nQ cQ]] V fun en w' => en = .returned (.bool true) ∧ Below V.heap.size V w') (hR : ∀ V, Below w.heap.size w V → Calls Tryz.prog 39 #[.agg #[.string nm, .int .i64 e, .int .i64 be, .slice aA nA cA, .slice aS nS cS, .slice aT nT cT, .int .i64 rd, .int .i64 vd, .int .i64 hr, .int .i64 hb, .slice aW nW cW, .int .i64 tr, .slice aX nX cX, .slice aH nH cH, .int .i64 ld, .slice aV nV cV, .slice aG nG cG, .slice aD nD cD, .slice aP nP cP, .slice aQ nQ cQ]] V fun en w' => en = .returned (.bool false) ∧ Below V.heap.size V w') :
    Calls Tryz.prog 7 #[.agg #[.string nm, .int .i64 e, .int .i64 be, .slice aA nA cA, .slice aS nS cS, .slice aT nT cT, .int .i64 rd, .int .i64 vd, .int .i64 hr, .int .i64 hb, .slice aW nW cW, .int .i64 tr, .slice aX nX cX, .slice aH nH cH, .int .i64 ld, .slice aV nV cV, .slice aG nG cG, .slice aD nD cD, .slice aP nP cP, .slice aQ nQ cQ]] w fun en w' => en = .returned (.bool false) ∧ Below w.heap.size w w' := by
  obtain ⟨w1, hw1⟩ : ∃ x, w.alloc (.cells #[.string nm, .int .i64 e, .int .i64 be, .slice aA nA cA, .slice aS nS cS, .slice aT nT cT, .int .i64 rd, .int .i64 vd, .int .i64 hr, .int .i64 hb, .slice aW nW cW, .int .i64 tr, .slice aX nX cX, .slice aH nH cH, .int .i64 ld, .slice aV nV cV, .slice aG nG cG, .slice aD nD cD, .slice aP nP cP, .slice aQ nQ cQ] 53) = x := ⟨_, rfl⟩
  have B1 : Below w.heap.size w w1 := by rw [← hw1]; exact (Below.refl _ w).alloc (Nat.le_refl _) _
  have k1 : Blk w1 w.heap.size 53 [.string nm, .int .i64 e, .int .i64 be, .slice aA nA cA, .slice aS nS cS, .slice aT nT cT, .int .i64 rd, .int .i64 vd, .int .i64 hr, .int .i64 hb, .slice aW nW cW, .int .i64 tr, .slice aX nX cX, .slice aH nH cH, .int .i64 ld, .slice aV nV cV, .slice aG nG cG, .slice aD nD cD, .slice aP nP cP, .slice aQ nQ cQ] := by rw [← hw1]; exact Blk.new w _ _
  have x0 := k1.cell 0
  simp only [List.getElem?_cons_zero] at x0
  have K1 := hide k1
  clear k1
  have HN := hide hN
  have HE := hide hE
  have HR := hide hR
  clear hN hE hR
  go_enter Tryz.func7, Tryz.ntmps7
  go_upto_region 1 with fail
  (try rw [hw1])
  clear hw1
  obtain ⟨M, hM⟩ : ∃ x, (Value.agg #[.string nm, .int .i64 e, .int .i64 be, .slice aA nA cA, .slice aS nS cS, .slice aT nT cT, .int .i64 rd, .int .i64 vd, .int .i64 hr, .int .i64 hb, .slice aW nW cW, .int .i64 tr, .slice aX nX cX, .slice aH nH cH, .int .i64 ld, .slice aV nV cV, .slice aG nG cG, .slice aD nD cD, .slice aP nP cP, .slice aQ nQ cQ]) = x := ⟨_, rfl⟩
  rw [hM] at HE HR ⊢
  go_wp2_with (first
      | (go_at_call 39; (with_reducible refine (HR.out _ B2).mono ?_); rintro en w3 ⟨rfl, b3⟩; have B3 := B2.trans (b3.mono B2.size); have K3 := hide (K2.out.below b3 K2.out.lt); have k9 := K3.out; have y3_18 := k9.cell 18; simp only [List.getElem?_cons_zero, List.getElem?_cons_succ] at y3_18; clear k9)
      | (refine load_nd _ rfl w.heap.size rfl K2.out rfl hM (by rfl) ?_)
      | (go_at_call 38; (with_reducible refine (HE.out _ B1).mono ?_); rintro en w2 ⟨rfl, b2⟩; have B2 := B1.trans (b2.mono B1.size); have K2 := hide (K1.out.below b2 K1.out.lt))
      | (refine load_nd _ rfl w.heap.size rfl K1.out rfl hM (by rfl) ?_)
      | (go_at_call 37; (with_reducible refine (HN.out _).mono ?_); rintro en w9 ⟨rfl, rfl⟩)
      | fail)
  go_ret
  exact ⟨rfl, B3⟩
set_option maxRecDepth 20000 in
set_option maxHeartbeats 4000000 in
theorem nodI_p (nm : ByteArray) (e be rd vd hr hb tr ld : Int) (aA aS aT aW aX aH aV aG aD aP aQ : Option Addr) (nA nS nT nW nX nH nV nG nD nP nQ cA cS cT cW cX cH cV cG cD cP cQ : Nat) (w : World) (hN : ∀ V, Calls Tryz.prog 37 #[.string nm] V fun en w' => en = .returned (.bool true) ∧ w' = V) (hE : ∀ V, Below w.heap.size w V → Calls Tryz.prog 38 #[.agg #[.string nm, .int .i64 e, .int .i64 be, .slice aA nA cA, .slice aS nS cS, .slice aT nT cT, .int .i64 rd, .int .i64 vd, .int .i64 hr, .int .i64 hb, .slice aW nW cW, .int .i64 tr, .slice aX nX cX, .slice aH nH cH, .int .i64 ld, .slice aV nV cV, .slice aG nG cG, .slice aD nD cD, .slice aP nP cP, .slice aQ nQ cQ]] V fun en w' => en = .returned (.bool true) ∧ Below V.heap.size V w') (hR : ∀ V, Below w.heap.size w V → Calls Tryz.prog 39 #[.agg #[.string nm, .int .i64 e, .int .i64 be, .slice aA nA cA, .slice aS nS cS, .slice aT nT cT, .int .i64 rd, .int .i64 vd, .int .i64 hr, .int .i64 hb, .slice aW nW cW, .int .i64 tr, .slice aX nX cX, .slice aH nH cH, .int .i64 ld, .slice aV nV cV, .slice aG nG cG, .slice aD nD cD, .slice aP nP cP, .slice aQ nQ cQ]] V fun en w' => en = .returned (.bool true) ∧ Below V.heap.size V w') (hP : ∀ V, Below w.heap.size w V → Calls Tryz.prog 40 #[.slice aP nP cP] V fun en w' => en = .returned (.bool false) ∧ Below V.heap.size V w') :
    Calls Tryz.prog 7 #[.agg #[.string nm, .int .i64 e, .int .i64 be, .slice aA nA cA, .slice aS nS cS, .slice aT nT cT, .int .i64 rd, .int .i64 vd, .int .i64 hr, .int .i64 hb, .slice aW nW cW, .int .i64 tr, .slice aX nX cX, .slice aH nH cH, .int .i64 ld, .slice aV nV cV, .slice aG nG cG, .slice aD nD cD, .slice aP nP cP, .slice aQ nQ cQ]] w fun en w' => en = .returned (.bool false) ∧ Below w.heap.size w w' := by
  obtain ⟨w1, hw1⟩ : ∃ x, w.alloc (.cells #[.string nm, .int .i64 e, .int .i64 be, .slice aA nA cA, .slice aS nS cS, .slice aT nT cT, .int .i64 rd, .int .i64 vd, .int .i64 hr, .int .i64 hb, .slice aW nW cW, .int .i64 tr, .slice aX nX cX, .slice aH nH cH, .int .i64 ld, .slice aV nV cV, .slice aG nG cG, .slice aD nD cD, .slice aP nP cP, .slice aQ nQ cQ] 53) = x := ⟨_, rfl⟩
  have B1 : Below w.heap.size w w1 := by rw [← hw1]; exact (Below.refl _ w).alloc (Nat.le_refl _) _
  have k1 : Blk w1 w.heap.size 53 [.string nm, .int .i64 e, .int .i64 be, .slice aA nA cA, .slice aS nS cS, .slice aT nT cT, .int .i64 rd, .int .i64 vd, .int .i64 hr, .int .i64 hb, .slice aW nW cW, .int .i64 tr, .slice aX nX cX, .slice aH nH cH, .int .i64 ld, .slice aV nV cV, .slice aG nG cG, .slice aD nD cD, .slice aP nP cP, .slice aQ nQ cQ] := by rw [← hw1]; exact Blk.new w _ _
  have x0 := k1.cell 0
  simp only [List.getElem?_cons_zero] at x0
  have K1 := hide k1
  clear k1
  have HN := hide hN
  have HE := hide hE
  have HR := hide hR
  have HP := hide hP
  clear hN hE hR hP
  go_enter Tryz.func7, Tryz.ntmps7
  go_upto_region 1 with fail
  (try rw [hw1])
  clear hw1
  obtain ⟨M, hM⟩ : ∃ x, (Value.agg #[.string nm, .int .i64 e, .int .i64 be, .slice aA nA cA, .slice aS nS cS, .slice aT nT cT, .int .i64 rd, .int .i64 vd, .int .i64 hr, .int .i64 hb, .slice aW nW cW, .int .i64 tr, .slice aX nX cX, .slice aH nH cH, .int .i64 ld, .slice aV nV cV, .slice aG nG cG, .slice aD nD cD, .slice aP nP cP, .slice aQ nQ cQ]) = x := ⟨_, rfl⟩
  rw [hM] at HE HR ⊢
  go_wp2_with (first
      | (go_at_call 40; (with_reducible refine (HP.out _ B3).mono ?_); rintro en w4 ⟨rfl, b4⟩; have B4 := B3.trans (b4.mono B3.size); have K4 := hide (K3.out.below b4 K3.out.lt); have k9 := K4.out; have y4_15 := k9.cell 15; have y4_16 := k9.cell 16; have y4_17 := k9.cell 17; have y4_19 := k9.cell 19; simp only [List.getElem?_cons_zero, List.getElem?_cons_succ] at y4_15 y4_16 y4_17 y4_19; clear k9)
      | (go_at_call 39; (with_reducible refine (HR.out _ B2).mono ?_); rintro en w3 ⟨rfl, b3⟩; have B3 := B2.trans (b3.mono B2.size); have K3 := hide (K2.out.below b3 K2.out.lt); have k9 := K3.out; have y3_18 := k9.cell 18; simp only [List.getElem?_cons_zero, List.getElem?_cons_succ] at y3_18; clear k9)
      | (refine load_nd _ rfl w.heap.size rfl K2.out rfl hM (by rfl) ?_)
      | (go_at_call 38; (with_reducible refine (HE.out _ B1).mono ?_); rintro en w2 ⟨rfl, b2⟩; have B2 := B1.trans (b2.mono B1.size); have K2 := hide (K1.out.below b2 K1.out.lt))
      | (refine load_nd _ rfl w.heap.size rfl K1.out rfl hM (by rfl) ?_)
      | (go_at_call 37; (with_reducible refine (HN.out _).mono ?_); rintro en w9 ⟨rfl, rfl⟩)
      | fail)
  go_ret
  exact ⟨rfl, B4⟩
set_option maxRecDepth 20000 in
set_option maxHeartbeats 4000000 in
theorem nodI_v (nm : ByteArray) (e be rd vd hr hb tr ld : Int) (aA aS aT aW aX aH aV aG aD aP aQ : Option Addr) (nA nS nT nW nX nH nV nG nD nP nQ cA cS cT cW cX cH cV cG cD cP cQ : Nat) (w : World) (hN : ∀ V, Calls Tryz.prog 37 #[.string nm] V fun en w' => en = .returned (.bool true) ∧ w' = V) (hE : ∀ V, Below w.heap.size w V → Calls Tryz.prog 38 #[.agg #[.string nm, .int .i64 e, .int .i64 be, .slice aA nA cA, .slice aS nS cS, .slice aT nT cT, .int .i64 rd, .int .i64 vd, .int .i64 hr, .int .i64 hb, .slice aW nW cW, .int .i64 tr, .slice aX nX cX, .slice aH nH cH, .int .i64 ld, .slice aV nV cV, .slice aG nG cG, .slice aD nD cD, .slice aP nP cP, .slice aQ nQ cQ]] V fun en w' => en = .returned (.bool true) ∧ Below V.heap.size V w') (hR : ∀ V, Below w.heap.size w V → Calls Tryz.prog 39 #[.agg #[.string nm, .int .i64 e, .int .i64 be, .slice aA nA cA, .slice aS nS cS, .slice aT nT cT, .int .i64 rd, .int .i64 vd, .int .i64 hr, .int .i64 hb, .slice aW nW cW, .int .i64 tr, .slice aX nX cX, .slice aH nH cH, .int .i64 ld, .slice aV nV cV, .slice aG nG cG, .slice aD nD cD, .slice aP nP cP, .slice aQ nQ cQ]] V fun en w' => en = .returned (.bool true) ∧ Below V.heap.size V w') (hP : ∀ V, Below w.heap.size w V → Calls Tryz.prog 40 #[.slice aP nP cP] V fun en w' => en = .returned (.bool true) ∧ Below V.heap.size V w') (jV : decide ((nV : Int) ≤ 1000) = false) :
    Calls Tryz.prog 7 #[.agg #[.string nm, .int .i64 e, .int .i64 be, .slice aA nA cA, .slice aS nS cS, .slice aT nT cT, .int .i64 rd, .int .i64 vd, .int .i64 hr, .int .i64 hb, .slice aW nW cW, .int .i64 tr, .slice aX nX cX, .slice aH nH cH, .int .i64 ld, .slice aV nV cV, .slice aG nG cG, .slice aD nD cD, .slice aP nP cP, .slice aQ nQ cQ]] w fun en w' => en = .returned (.bool false) ∧ Below w.heap.size w w' := by
  obtain ⟨w1, hw1⟩ : ∃ x, w.alloc (.cells #[.string nm, .int .i64 e, .int .i64 be, .slice aA nA cA, .slice aS nS cS, .slice aT nT cT, .int .i64 rd, .int .i64 vd, .int .i64 hr, .int .i64 hb, .slice aW nW cW, .int .i64 tr, .slice aX nX cX, .slice aH nH cH, .int .i64 ld, .slice aV nV cV, .slice aG nG cG, .slice aD nD cD, .slice aP nP cP, .slice aQ nQ cQ] 53) = x := ⟨_, rfl⟩
  have B1 : Below w.heap.size w w1 := by rw [← hw1]; exact (Below.refl _ w).alloc (Nat.le_refl _) _
  have k1 : Blk w1 w.heap.size 53 [.string nm, .int .i64 e, .int .i64 be, .slice aA nA cA, .slice aS nS cS, .slice aT nT cT, .int .i64 rd, .int .i64 vd, .int .i64 hr, .int .i64 hb, .slice aW nW cW, .int .i64 tr, .slice aX nX cX, .slice aH nH cH, .int .i64 ld, .slice aV nV cV, .slice aG nG cG, .slice aD nD cD, .slice aP nP cP, .slice aQ nQ cQ] := by rw [← hw1]; exact Blk.new w _ _
  have x0 := k1.cell 0
  simp only [List.getElem?_cons_zero] at x0
  have K1 := hide k1
  clear k1
  have HN := hide hN
  have HE := hide hE
  have HR := hide hR
  have HP := hide hP
  clear hN hE hR hP
  go_enter Tryz.func7, Tryz.ntmps7
  go_upto_region 1 with fail
  (try rw [hw1])
  clear hw1
  obtain ⟨M, hM⟩ : ∃ x, (Value.agg #[.string nm, .int .i64 e, .int .i64 be, .slice aA nA cA, .slice aS nS cS, .slice aT nT cT, .int .i64 rd, .int .i64 vd, .int .i64 hr, .int .i64 hb, .slice aW nW cW, .int .i64 tr, .slice aX nX cX, .slice aH nH cH, .int .i64 ld, .slice aV nV cV, .slice aG nG cG, .slice aD nD cD, .slice aP nP cP, .slice aQ nQ cQ]) = x := ⟨_, rfl⟩
  rw [hM] at HE HR ⊢
  go_wp2_with (first
      | (go_at_call 40; (with_reducible refine (HP.out _ B3).mono ?_); rintro en w4 ⟨rfl, b4⟩; have B4 := B3.trans (b4.mono B3.size); have K4 := hide (K3.out.below b4 K3.out.lt); have k9 := K4.out; have y4_15 := k9.cell 15; have y4_16 := k9.cell 16; have y4_17 := k9.cell 17; have y4_19 := k9.cell 19; simp only [List.getElem?_cons_zero, List.getElem?_cons_succ] at y4_15 y4_16 y4_17 y4_19; clear k9)
      | (go_at_call 39; (with_reducible refine (HR.out _ B2).mono ?_); rintro en w3 ⟨rfl, b3⟩; have B3 := B2.trans (b3.mono B2.size); have K3 := hide (K2.out.below b3 K2.out.lt); have k9 := K3.out; have y3_18 := k9.cell 18; simp only [List.getElem?_cons_zero, List.getElem?_cons_succ] at y3_18; clear k9)
      | (refine load_nd _ rfl w.heap.size rfl K2.out rfl hM (by rfl) ?_)
      | (go_at_call 38; (with_reducible refine (HE.out _ B1).mono ?_); rintro en w2 ⟨rfl, b2⟩; have B2 := B1.trans (b2.mono B1.size); have K2 := hide (K1.out.below b2 K1.out.lt))
      | (refine load_nd _ rfl w.heap.size rfl K1.out rfl hM (by rfl) ?_)
      | (go_at_call 37; (with_reducible refine (HN.out _).mono ?_); rintro en w9 ⟨rfl, rfl⟩)
      | fail)
  go_ret
  exact ⟨rfl, B4⟩
set_option maxRecDepth 20000 in
set_option maxHeartbeats 4000000 in
theorem nodI_g (nm : ByteArray) (e be rd vd hr hb tr ld : Int) (aA aS aT aW aX aH aV aG aD aP aQ : Option Addr) (nA nS nT nW nX nH nV nG nD nP nQ cA cS cT cW cX cH cV cG cD cP cQ : Nat) (w : World) (hN : ∀ V, Calls Tryz.prog 37 #[.string nm] V fun en w' => en = .returned (.bool true) ∧ w' = V) (hE : ∀ V, Below w.heap.size w V → Calls Tryz.prog 38 #[.agg #[.string nm, .int .i64 e, .int .i64 be, .slice aA nA cA, .slice aS nS cS, .slice aT nT cT, .int .i64 rd, .int .i64 vd, .int .i64 hr, .int .i64 hb, .slice aW nW cW, .int .i64 tr, .slice aX nX cX, .slice aH nH cH, .int .i64 ld, .slice aV nV cV, .slice aG nG cG, .slice aD nD cD, .slice aP nP cP, .slice aQ nQ cQ]] V fun en w' => en = .returned (.bool true) ∧ Below V.heap.size V w') (hR : ∀ V, Below w.heap.size w V → Calls Tryz.prog 39 #[.agg #[.string nm, .int .i64 e, .int .i64 be, .slice aA nA cA, .slice aS nS cS, .slice aT nT cT, .int .i64 rd, .int .i64 vd, .int .i64 hr, .int .i64 hb, .slice aW nW cW, .int .i64 tr, .slice aX nX cX, .slice aH nH cH, .int .i64 ld, .slice aV nV cV, .slice aG nG cG, .slice aD nD cD, .slice aP nP cP, .slice aQ nQ cQ]] V fun en w' => en = .returned (.bool true) ∧ Below V.heap.size V w') (hP : ∀ V, Below w.heap.size w V → Calls Tryz.prog 40 #[.slice aP nP cP] V fun en w' => en = .returned (.bool true) ∧ Below V.heap.size V w') (jV : decide ((nV : Int) ≤ 1000) = true) (jG : decide ((nG : Int) ≤ 1000) = false) :
    Calls Tryz.prog 7 #[.agg #[.string nm, .int .i64 e, .int .i64 be, .slice aA nA cA, .slice aS nS cS, .slice aT nT cT, .int .i64 rd, .int .i64 vd, .int .i64 hr, .int .i64 hb, .slice aW nW cW, .int .i64 tr, .slice aX nX cX, .slice aH nH cH, .int .i64 ld, .slice aV nV cV, .slice aG nG cG, .slice aD nD cD, .slice aP nP cP, .slice aQ nQ cQ]] w fun en w' => en = .returned (.bool false) ∧ Below w.heap.size w w' := by
  obtain ⟨w1, hw1⟩ : ∃ x, w.alloc (.cells #[.string nm, .int .i64 e, .int .i64 be, .slice aA nA cA, .slice aS nS cS, .slice aT nT cT, .int .i64 rd, .int .i64 vd, .int .i64 hr, .int .i64 hb, .slice aW nW cW, .int .i64 tr, .slice aX nX cX, .slice aH nH cH, .int .i64 ld, .slice aV nV cV, .slice aG nG cG, .slice aD nD cD, .slice aP nP cP, .slice aQ nQ cQ] 53) = x := ⟨_, rfl⟩
  have B1 : Below w.heap.size w w1 := by rw [← hw1]; exact (Below.refl _ w).alloc (Nat.le_refl _) _
  have k1 : Blk w1 w.heap.size 53 [.string nm, .int .i64 e, .int .i64 be, .slice aA nA cA, .slice aS nS cS, .slice aT nT cT, .int .i64 rd, .int .i64 vd, .int .i64 hr, .int .i64 hb, .slice aW nW cW, .int .i64 tr, .slice aX nX cX, .slice aH nH cH, .int .i64 ld, .slice aV nV cV, .slice aG nG cG, .slice aD nD cD, .slice aP nP cP, .slice aQ nQ cQ] := by rw [← hw1]; exact Blk.new w _ _
  have x0 := k1.cell 0
  simp only [List.getElem?_cons_zero] at x0
  have K1 := hide k1
  clear k1
  have HN := hide hN
  have HE := hide hE
  have HR := hide hR
  have HP := hide hP
  clear hN hE hR hP
  go_enter Tryz.func7, Tryz.ntmps7
  go_upto_region 1 with fail
  (try rw [hw1])
  clear hw1
  obtain ⟨M, hM⟩ : ∃ x, (Value.agg #[.string nm, .int .i64 e, .int .i64 be, .slice aA nA cA, .slice aS nS cS, .slice aT nT cT, .int .i64 rd, .int .i64 vd, .int .i64 hr, .int .i64 hb, .slice aW nW cW, .int .i64 tr, .slice aX nX cX, .slice aH nH cH, .int .i64 ld, .slice aV nV cV, .slice aG nG cG, .slice aD nD cD, .slice aP nP cP, .slice aQ nQ cQ]) = x := ⟨_, rfl⟩
  rw [hM] at HE HR ⊢
  go_wp2_with (first
      | (go_at_call 40; (with_reducible refine (HP.out _ B3).mono ?_); rintro en w4 ⟨rfl, b4⟩; have B4 := B3.trans (b4.mono B3.size); have K4 := hide (K3.out.below b4 K3.out.lt); have k9 := K4.out; have y4_15 := k9.cell 15; have y4_16 := k9.cell 16; have y4_17 := k9.cell 17; have y4_19 := k9.cell 19; simp only [List.getElem?_cons_zero, List.getElem?_cons_succ] at y4_15 y4_16 y4_17 y4_19; clear k9)
      | (go_at_call 39; (with_reducible refine (HR.out _ B2).mono ?_); rintro en w3 ⟨rfl, b3⟩; have B3 := B2.trans (b3.mono B2.size); have K3 := hide (K2.out.below b3 K2.out.lt); have k9 := K3.out; have y3_18 := k9.cell 18; simp only [List.getElem?_cons_zero, List.getElem?_cons_succ] at y3_18; clear k9)
      | (refine load_nd _ rfl w.heap.size rfl K2.out rfl hM (by rfl) ?_)
      | (go_at_call 38; (with_reducible refine (HE.out _ B1).mono ?_); rintro en w2 ⟨rfl, b2⟩; have B2 := B1.trans (b2.mono B1.size); have K2 := hide (K1.out.below b2 K1.out.lt))
      | (refine load_nd _ rfl w.heap.size rfl K1.out rfl hM (by rfl) ?_)
      | (go_at_call 37; (with_reducible refine (HN.out _).mono ?_); rintro en w9 ⟨rfl, rfl⟩)
      | fail)
  go_ret
  exact ⟨rfl, B4⟩
set_option maxRecDepth 20000 in
set_option maxHeartbeats 4000000 in
theorem nodI_d (nm : ByteArray) (e be rd vd hr hb tr ld : Int) (aA aS aT aW aX aH aV aG aD aP aQ : Option Addr) (nA nS nT nW nX nH nV nG nD nP nQ cA cS cT cW cX cH cV cG cD cP cQ : Nat) (w : World) (hN : ∀ V, Calls Tryz.prog 37 #[.string nm] V fun en w' => en = .returned (.bool true) ∧ w' = V) (hE : ∀ V, Below w.heap.size w V → Calls Tryz.prog 38 #[.agg #[.string nm, .int .i64 e, .int .i64 be, .slice aA nA cA, .slice aS nS cS, .slice aT nT cT, .int .i64 rd, .int .i64 vd, .int .i64 hr, .int .i64 hb, .slice aW nW cW, .int .i64 tr, .slice aX nX cX, .slice aH nH cH, .int .i64 ld, .slice aV nV cV, .slice aG nG cG, .slice aD nD cD, .slice aP nP cP, .slice aQ nQ cQ]] V fun en w' => en = .returned (.bool true) ∧ Below V.heap.size V w') (hR : ∀ V, Below w.heap.size w V → Calls Tryz.prog 39 #[.agg #[.string nm, .int .i64 e, .int .i64 be, .slice aA nA cA, .slice aS nS cS, .slice aT nT cT, .int .i64 rd, .int .i64 vd, .int .i64 hr, .int .i64 hb, .slice aW nW cW, .int .i64 tr, .slice aX nX cX, .slice aH nH cH, .int .i64 ld, .slice aV nV cV, .slice aG nG cG, .slice aD nD cD, .slice aP nP cP, .slice aQ nQ cQ]] V fun en w' => en = .returned (.bool true) ∧ Below V.heap.size V w') (hP : ∀ V, Below w.heap.size w V → Calls Tryz.prog 40 #[.slice aP nP cP] V fun en w' => en = .returned (.bool true) ∧ Below V.heap.size V w') (jV : decide ((nV : Int) ≤ 1000) = true) (jG : decide ((nG : Int) ≤ 1000) = true) (jD : decide ((nD : Int) ≤ 200) = false) :
    Calls Tryz.prog 7 #[.agg #[.string nm, .int .i64 e, .int .i64 be, .slice aA nA cA, .slice aS nS cS, .slice aT nT cT, .int .i64 rd, .int .i64 vd, .int .i64 hr, .int .i64 hb, .slice aW nW cW, .int .i64 tr, .slice aX nX cX, .slice aH nH cH, .int .i64 ld, .slice aV nV cV, .slice aG nG cG, .slice aD nD cD, .slice aP nP cP, .slice aQ nQ cQ]] w fun en w' => en = .returned (.bool false) ∧ Below w.heap.size w w' := by
  obtain ⟨w1, hw1⟩ : ∃ x, w.alloc (.cells #[.string nm, .int .i64 e, .int .i64 be, .slice aA nA cA, .slice aS nS cS, .slice aT nT cT, .int .i64 rd, .int .i64 vd, .int .i64 hr, .int .i64 hb, .slice aW nW cW, .int .i64 tr, .slice aX nX cX, .slice aH nH cH, .int .i64 ld, .slice aV nV cV, .slice aG nG cG, .slice aD nD cD, .slice aP nP cP, .slice aQ nQ cQ] 53) = x := ⟨_, rfl⟩
  have B1 : Below w.heap.size w w1 := by rw [← hw1]; exact (Below.refl _ w).alloc (Nat.le_refl _) _
  have k1 : Blk w1 w.heap.size 53 [.string nm, .int .i64 e, .int .i64 be, .slice aA nA cA, .slice aS nS cS, .slice aT nT cT, .int .i64 rd, .int .i64 vd, .int .i64 hr, .int .i64 hb, .slice aW nW cW, .int .i64 tr, .slice aX nX cX, .slice aH nH cH, .int .i64 ld, .slice aV nV cV, .slice aG nG cG, .slice aD nD cD, .slice aP nP cP, .slice aQ nQ cQ] := by rw [← hw1]; exact Blk.new w _ _
  have x0 := k1.cell 0
  simp only [List.getElem?_cons_zero] at x0
  have K1 := hide k1
  clear k1
  have HN := hide hN
  have HE := hide hE
  have HR := hide hR
  have HP := hide hP
  clear hN hE hR hP
  go_enter Tryz.func7, Tryz.ntmps7
  go_upto_region 1 with fail
  (try rw [hw1])
  clear hw1
  obtain ⟨M, hM⟩ : ∃ x, (Value.agg #[.string nm, .int .i64 e, .int .i64 be, .slice aA nA cA, .slice aS nS cS, .slice aT nT cT, .int .i64 rd, .int .i64 vd, .int .i64 hr, .int .i64 hb, .slice aW nW cW, .int .i64 tr, .slice aX nX cX, .slice aH nH cH, .int .i64 ld, .slice aV nV cV, .slice aG nG cG, .slice aD nD cD, .slice aP nP cP, .slice aQ nQ cQ]) = x := ⟨_, rfl⟩
  rw [hM] at HE HR ⊢
  go_wp2_with (first
      | (go_at_call 40; (with_reducible refine (HP.out _ B3).mono ?_); rintro en w4 ⟨rfl, b4⟩; have B4 := B3.trans (b4.mono B3.size); have K4 := hide (K3.out.below b4 K3.out.lt); have k9 := K4.out; have y4_15 := k9.cell 15; have y4_16 := k9.cell 16; have y4_17 := k9.cell 17; have y4_19 := k9.cell 19; simp only [List.getElem?_cons_zero, List.getElem?_cons_succ] at y4_15 y4_16 y4_17 y4_19; clear k9)
      | (go_at_call 39; (with_reducible refine (HR.out _ B2).mono ?_); rintro en w3 ⟨rfl, b3⟩; have B3 := B2.trans (b3.mono B2.size); have K3 := hide (K2.out.below b3 K2.out.lt); have k9 := K3.out; have y3_18 := k9.cell 18; simp only [List.getElem?_cons_zero, List.getElem?_cons_succ] at y3_18; clear k9)
      | (refine load_nd _ rfl w.heap.size rfl K2.out rfl hM (by rfl) ?_)
      | (go_at_call 38; (with_reducible refine (HE.out _ B1).mono ?_); rintro en w2 ⟨rfl, b2⟩; have B2 := B1.trans (b2.mono B1.size); have K2 := hide (K1.out.below b2 K1.out.lt))
      | (refine load_nd _ rfl w.heap.size rfl K1.out rfl hM (by rfl) ?_)
      | (go_at_call 37; (with_reducible refine (HN.out _).mono ?_); rintro en w9 ⟨rfl, rfl⟩)
      | fail)
  go_ret
  exact ⟨rfl, B4⟩
set_option maxRecDepth 20000 in
set_option maxHeartbeats 4000000 in
theorem nodI_q (nm : ByteArray) (e be rd vd hr hb tr ld : Int) (aA aS aT aW aX aH aV aG aD aP aQ : Option Addr) (nA nS nT nW nX nH nV nG nD nP nQ cA cS cT cW cX cH cV cG cD cP cQ : Nat) (w : World) (hN : ∀ V, Calls Tryz.prog 37 #[.string nm] V fun en w' => en = .returned (.bool true) ∧ w' = V) (hE : ∀ V, Below w.heap.size w V → Calls Tryz.prog 38 #[.agg #[.string nm, .int .i64 e, .int .i64 be, .slice aA nA cA, .slice aS nS cS, .slice aT nT cT, .int .i64 rd, .int .i64 vd, .int .i64 hr, .int .i64 hb, .slice aW nW cW, .int .i64 tr, .slice aX nX cX, .slice aH nH cH, .int .i64 ld, .slice aV nV cV, .slice aG nG cG, .slice aD nD cD, .slice aP nP cP, .slice aQ nQ cQ]] V fun en w' => en = .returned (.bool true) ∧ Below V.heap.size V w') (hR : ∀ V, Below w.heap.size w V → Calls Tryz.prog 39 #[.agg #[.string nm, .int .i64 e, .int .i64 be, .slice aA nA cA, .slice aS nS cS, .slice aT nT cT, .int .i64 rd, .int .i64 vd, .int .i64 hr, .int .i64 hb, .slice aW nW cW, .int .i64 tr, .slice aX nX cX, .slice aH nH cH, .int .i64 ld, .slice aV nV cV, .slice aG nG cG, .slice aD nD cD, .slice aP nP cP, .slice aQ nQ cQ]] V fun en w' => en = .returned (.bool true) ∧ Below V.heap.size V w') (hP : ∀ V, Below w.heap.size w V → Calls Tryz.prog 40 #[.slice aP nP cP] V fun en w' => en = .returned (.bool true) ∧ Below V.heap.size V w') (jV : decide ((nV : Int) ≤ 1000) = true) (jG : decide ((nG : Int) ≤ 1000) = true) (jD : decide ((nD : Int) ≤ 200) = true) :
    Calls Tryz.prog 7 #[.agg #[.string nm, .int .i64 e, .int .i64 be, .slice aA nA cA, .slice aS nS cS, .slice aT nT cT, .int .i64 rd, .int .i64 vd, .int .i64 hr, .int .i64 hb, .slice aW nW cW, .int .i64 tr, .slice aX nX cX, .slice aH nH cH, .int .i64 ld, .slice aV nV cV, .slice aG nG cG, .slice aD nD cD, .slice aP nP cP, .slice aQ nQ cQ]] w fun en w' => en = .returned (.bool (decide ((nQ : Int) ≤ 200))) ∧ Below w.heap.size w w' := by
  obtain ⟨w1, hw1⟩ : ∃ x, w.alloc (.cells #[.string nm, .int .i64 e, .int .i64 be, .slice aA nA cA, .slice aS nS cS, .slice aT nT cT, .int .i64 rd, .int .i64 vd, .int .i64 hr, .int .i64 hb, .slice aW nW cW, .int .i64 tr, .slice aX nX cX, .slice aH nH cH, .int .i64 ld, .slice aV nV cV, .slice aG nG cG, .slice aD nD cD, .slice aP nP cP, .slice aQ nQ cQ] 53) = x := ⟨_, rfl⟩
  have B1 : Below w.heap.size w w1 := by rw [← hw1]; exact (Below.refl _ w).alloc (Nat.le_refl _) _
  have k1 : Blk w1 w.heap.size 53 [.string nm, .int .i64 e, .int .i64 be, .slice aA nA cA, .slice aS nS cS, .slice aT nT cT, .int .i64 rd, .int .i64 vd, .int .i64 hr, .int .i64 hb, .slice aW nW cW, .int .i64 tr, .slice aX nX cX, .slice aH nH cH, .int .i64 ld, .slice aV nV cV, .slice aG nG cG, .slice aD nD cD, .slice aP nP cP, .slice aQ nQ cQ] := by rw [← hw1]; exact Blk.new w _ _
  have x0 := k1.cell 0
  simp only [List.getElem?_cons_zero] at x0
  have K1 := hide k1
  clear k1
  have HN := hide hN
  have HE := hide hE
  have HR := hide hR
  have HP := hide hP
  clear hN hE hR hP
  go_enter Tryz.func7, Tryz.ntmps7
  go_upto_region 1 with fail
  (try rw [hw1])
  clear hw1
  obtain ⟨M, hM⟩ : ∃ x, (Value.agg #[.string nm, .int .i64 e, .int .i64 be, .slice aA nA cA, .slice aS nS cS, .slice aT nT cT, .int .i64 rd, .int .i64 vd, .int .i64 hr, .int .i64 hb, .slice aW nW cW, .int .i64 tr, .slice aX nX cX, .slice aH nH cH, .int .i64 ld, .slice aV nV cV, .slice aG nG cG, .slice aD nD cD, .slice aP nP cP, .slice aQ nQ cQ]) = x := ⟨_, rfl⟩
  rw [hM] at HE HR ⊢
  go_wp2_with (first
      | (go_at_call 40; (with_reducible refine (HP.out _ B3).mono ?_); rintro en w4 ⟨rfl, b4⟩; have B4 := B3.trans (b4.mono B3.size); have K4 := hide (K3.out.below b4 K3.out.lt); have k9 := K4.out; have y4_15 := k9.cell 15; have y4_16 := k9.cell 16; have y4_17 := k9.cell 17; have y4_19 := k9.cell 19; simp only [List.getElem?_cons_zero, List.getElem?_cons_succ] at y4_15 y4_16 y4_17 y4_19; clear k9)
      | (go_at_call 39; (with_reducible refine (HR.out _ B2).mono ?_); rintro en w3 ⟨rfl, b3⟩; have B3 := B2.trans (b3.mono B2.size); have K3 := hide (K2.out.below b3 K2.out.lt); have k9 := K3.out; have y3_18 := k9.cell 18; simp only [List.getElem?_cons_zero, List.getElem?_cons_succ] at y3_18; clear k9)
      | (refine load_nd _ rfl w.heap.size rfl K2.out rfl hM (by rfl) ?_)
      | (go_at_call 38; (with_reducible refine (HE.out _ B1).mono ?_); rintro en w2 ⟨rfl, b2⟩; have B2 := B1.trans (b2.mono B1.size); have K2 := hide (K1.out.below b2 K1.out.lt))
      | (refine load_nd _ rfl w.heap.size rfl K1.out rfl hM (by rfl) ?_)
      | (go_at_call 37; (with_reducible refine (HN.out _).mono ?_); rintro en w9 ⟨rfl, rfl⟩)
      | fail)
  go_ret
  exact ⟨rfl, B4⟩
set_option maxRecDepth 20000 in
set_option maxHeartbeats 4000000 in
theorem implNodeOk_any (p : Nd) (u : Nv) (w : World) (hr : RdNd w p u) (hf : FewNd p) (hg : FitNd p) :
    Calls Tryz.prog 7 #[noV p u] w fun en w' => en = .returned (.bool (nodB p)) ∧ Below w.heap.size w w' := by
  have HF : Hid (nodB p = (nmB p.nm && (epkB p.la p.st p.tt p.ep p.be && (rdsB p.st p.rd p.vd p.ld p.hr p.hb p.tr p.hw p.tw p.th && (poolB p.pl && (decide (p.vo.length ≤ 1000) && (decide (p.go.length ≤ 1000) && (decide (p.dn.length ≤ 200) && decide (p.ps.length ≤ 200))))))))) := hide rfl
  generalize nodB p = X at HF ⊢
  obtain ⟨nm, ep, be, la, st, tt, rd, vd, hr, hb, hw, tr, tw, th, ld, vo, go, dn, pl, ps⟩ := p
  obtain ⟨ya, ys, yt, yw, yx, yh, yv, yg, yd, yp, yq⟩ := u
  obtain ⟨hya, hys, hyt, hyw, hyx, hyh, hyv, hyg, hyd, hyp, hyq⟩ := hr
  simp only at *
  obtain ⟨ada, cpa, rfl⟩ := hya.shape
  obtain ⟨ads, cps, rfl⟩ := hys.shape
  obtain ⟨adt, cpt, rfl⟩ := hyt.shape
  obtain ⟨adw, cpw, rfl⟩ := hyw.shape
  obtain ⟨adx, cpx, rfl⟩ := hyx.shape
  obtain ⟨adh, cph, rfl⟩ := hyh.shape
  obtain ⟨adv, cpv, rfl⟩ := hyv.shape
  obtain ⟨adg, cpg, rfl⟩ := hyg.shape
  obtain ⟨add, cpd, rfl⟩ := hyd.shape
  obtain ⟨adp, cpp, rfl⟩ := hyp.shape
  obtain ⟨adq, cpq, rfl⟩ := hyq.shape
  simp only [noV]
  have HN := hide (fun V => implNameOk_any nm V hg.znm)
  have HE := hide (fun V (hV : Below w.heap.size w V) => implEpochOk_any nm ep be rd vd hr hb tr ld ada ads adt adw adx adh adv adg add adp adq hw.length tw.length th.length vo.length go.length dn.length pl.length ps.length cpa cps cpt cpw cpx cph cpv cpg cpd cpp cpq la st tt V (hya.below hV (Nat.le_refl _)) (hys.below hV (Nat.le_refl _)) (hyt.below hV (Nat.le_refl _)) hf.na hf.ns hf.nt (fun a ha => ⟨(hg.ga a ha).1, hf.fa a ha⟩) hg.gs hf.ft (trS_of hg.gt))
  have HR := hide (fun (hm : ModV st) V (hV : Below w.heap.size w V) => implRoundsOk_any nm ep be rd vd hr hb tr ld ada ads adt adw adx adh adv adg add adp adq la.length tt.length vo.length go.length dn.length pl.length ps.length cpa cps cpt cpw cpx cph cpv cpg cpd cpp cpq st hw tw th V (hys.below hV (Nat.le_refl _)) (hyw.below hV (Nat.le_refl _)) (hyx.below hV (Nat.le_refl _)) (hyh.below hV (Nat.le_refl _)) hf.ns hf.nw hf.nx hf.nh hg.gw hg.gx hm)
  have HP := hide (fun V (hV : Below w.heap.size w V) => implPoolOk_any (.slice adp pl.length cpp) pl V (hyp.below hV (Nat.le_refl _)) hf.np hg.gp)
  have HM := hide (show epkB la st tt ep be = true → ModV st from epk_mod)
  generalize nmB nm = N0 at HF HN
  generalize epkB la st tt ep be = E0 at HF HE HM
  generalize rdsB st rd vd ld hr hb tr hw tw th = R0 at HF HR
  generalize poolB pl = P0 at HF HP
  clear hya hys hyt hyw hyx hyh hyv hyg hyd hyp hyq hf hg
  cases N0
  · rw [HF.out, Bool.false_and]
    exact nodI_n nm ep be rd vd hr hb tr ld ada ads adt adw adx adh adv adg add adp adq la.length st.length tt.length hw.length tw.length th.length vo.length go.length dn.length pl.length ps.length cpa cps cpt cpw cpx cph cpv cpg cpd cpp cpq w HN.out
  · rw [Bool.true_and] at HF
    cases E0
    · rw [HF.out, Bool.false_and]
      exact nodI_e nm ep be rd vd hr hb tr ld ada ads adt adw adx adh adv adg add adp adq la.length st.length tt.length hw.length tw.length th.length vo.length go.length dn.length pl.length ps.length cpa cps cpt cpw cpx cph cpv cpg cpd cpp cpq w HN.out HE.out
    · rw [Bool.true_and] at HF
      have HR := hide (HR.out (HM.out rfl))
      cases R0
      · rw [HF.out, Bool.false_and]
        exact nodI_r nm ep be rd vd hr hb tr ld ada ads adt adw adx adh adv adg add adp adq la.length st.length tt.length hw.length tw.length th.length vo.length go.length dn.length pl.length ps.length cpa cps cpt cpw cpx cph cpv cpg cpd cpp cpq w HN.out HE.out HR.out
      · rw [Bool.true_and] at HF
        cases P0
        · rw [HF.out, Bool.false_and]
          exact nodI_p nm ep be rd vd hr hb tr ld ada ads adt adw adx adh adv adg add adp adq la.length st.length tt.length hw.length tw.length th.length vo.length go.length dn.length pl.length ps.length cpa cps cpt cpw cpx cph cpv cpg cpd cpp cpq w HN.out HE.out HR.out HP.out
        · rw [Bool.true_and] at HF
          by_cases iV : vo.length ≤ 1000
          · rw [decide_eq_true iV, Bool.true_and] at HF
            have jV : decide ((vo.length : Int) ≤ 1000) = true := by rw [decide_eq_true_iff]; omega
            by_cases iG : go.length ≤ 1000
            · rw [decide_eq_true iG, Bool.true_and] at HF
              have jG : decide ((go.length : Int) ≤ 1000) = true := by rw [decide_eq_true_iff]; omega
              by_cases iD : dn.length ≤ 200
              · rw [decide_eq_true iD, Bool.true_and] at HF
                have jD : decide ((dn.length : Int) ≤ 200) = true := by rw [decide_eq_true_iff]; omega
                have HQ : decide ((ps.length : Int) ≤ 200) = decide (ps.length ≤ 200) := by rw [decide_eq_decide]; omega
                rw [← HQ] at HF
                rw [HF.out]
                exact nodI_q nm ep be rd vd hr hb tr ld ada ads adt adw adx adh adv adg add adp adq la.length st.length tt.length hw.length tw.length th.length vo.length go.length dn.length pl.length ps.length cpa cps cpt cpw cpx cph cpv cpg cpd cpp cpq w HN.out HE.out HR.out HP.out jV jG jD
              · rw [decide_eq_false iD, Bool.false_and] at HF
                have jD : decide ((dn.length : Int) ≤ 200) = false := by rw [decide_eq_false_iff_not]; omega
                rw [HF.out]
                exact nodI_d nm ep be rd vd hr hb tr ld ada ads adt adw adx adh adv adg add adp adq la.length st.length tt.length hw.length tw.length th.length vo.length go.length dn.length pl.length ps.length cpa cps cpt cpw cpx cph cpv cpg cpd cpp cpq w HN.out HE.out HR.out HP.out jV jG jD
            · rw [decide_eq_false iG, Bool.false_and] at HF
              have jG : decide ((go.length : Int) ≤ 1000) = false := by rw [decide_eq_false_iff_not]; omega
              rw [HF.out]
              exact nodI_g nm ep be rd vd hr hb tr ld ada ads adt adw adx adh adv adg add adp adq la.length st.length tt.length hw.length tw.length th.length vo.length go.length dn.length pl.length ps.length cpa cps cpt cpw cpx cph cpv cpg cpd cpp cpq w HN.out HE.out HR.out HP.out jV jG
          · rw [decide_eq_false iV, Bool.false_and] at HF
            have jV : decide ((vo.length : Int) ≤ 1000) = false := by rw [decide_eq_false_iff_not]; omega
            rw [HF.out]
            exact nodI_v nm ep be rd vd hr hb tr ld ada ads adt adw adx adh adv adg add adp adq la.length st.length tt.length hw.length tw.length th.length vo.length go.length dn.length pl.length ps.length cpa cps cpt cpw cpx cph cpv cpg cpd cpp cpq w HN.out HE.out HR.out HP.out jV
end Go.Proofs.YtljeklmopjkjjaaGreat
