/- At all blocks BlockOk of the program answers as the model's BlockOk, and writes into no argument: the law FnExactBlockOk returns true, with no condition. -/
import Derived.Test.YtlfoaobgdipdlaaRows
import Derived.Test.YtlfoaobgdipdlaaRow
import Derived.Test.YtlfoaobgdipdlaaBkOpen
import Derived.Test.YtlfoaobgdipdlaaBkOk
import Derived.Test.YtlfoaobgdipdlaaBkTo
import Derived.Test.YtlfoaobgdipdlaaBkEq
import Derived.Test.YtlfoaobgdipdlaaBkSz
import Derived.Test.YtlfoaobgdipdlaaBkOkI
import Derived.WalkKit
import Derived.ProofKit
import Derived.OpenShut
import Derived.ShutString
import Derived.ChangeOld
import Derived.Below
import Derived.SliceStrings
namespace Go.Proofs.Ytlfoaobgdipdlaa
open Go.ChangeShapes Go.WideShapes Go.ChangeAt Go.RowKit
open Go.ChangeMaps (open_string shut_string)
set_option linter.unusedVariables false

theorem fnExactBlockOk_own : ownKnob Try.prog.godebug = none := by kernel_rfl
theorem fnExactBlockOk_laidOut : laidOutB Try.prog = true := by kernel_rfl

theorem RdK.shapes {w : World} {b : Bk} {v : Bv} (h : RdK w b v) : ∃ aq cq aw cw ah ch at_ ct an cn, v = ⟨.slice aq b.qw.length cq, .slice aw b.tw.length cw, .slice ah b.th.length ch, .slice at_ b.ts.length ct, .slice an b.nx.length cn⟩ := by
  obtain ⟨q, p, hh, t, n⟩ := h
  obtain ⟨vq, vw, vh, vt, vn⟩ := v
  obtain ⟨aq, cq, rfl⟩ := q.shape
  obtain ⟨aw, cw, rfl⟩ := p.shape
  obtain ⟨ah, ch, rfl⟩ := hh.shape
  obtain ⟨at_, ct, rfl⟩ := t.shape
  obtain ⟨an, cn, rfl⟩ := n.shape
  exact ⟨aq, cq, aw, cw, ah, ch, at_, ct, an, cn, rfl⟩
set_option maxRecDepth 20000 in
set_option maxHeartbeats 4000000 in
theorem fnExactBlockOk_walk (z0 : Bk) (y0 : Bv) (w : World) (w0 : RdK w z0 y0 ∧ FitK z0) :
    Calls Try.prog 4 #[bkV z0 y0] w fun e w' => e = .returned (.bool true) ∧ Below w.heap.size w w' := by
  obtain ⟨hr, hfit0⟩ := w0
  have hwf := wf_i64 hfit0.wf.2.2.2.2.2
  have HZ := hide (fun V (hV : Below w.heap.size w V) => szBlock_any z0 y0 1048576 V (hr.below hV (Nat.le_refl _)) (by omega) hfit0.q hfit0.w hfit0.h hfit0.t hfit0.n hfit0.qs hfit0.ws hfit0.ts hfit0.ns hfit0.ms hfit0.rs)
  have HFew : Hid (z0.qw.length ≤ 1048576 ∧ z0.tw.length ≤ 1048576 ∧ z0.th.length ≤ 1048576 ∧ z0.ts.length ≤ 1048576 ∧ z0.nx.length ≤ 1048576 → FewK z0) := hide (fun h => ⟨by omega, by omega, by omega, by omega, by omega, hfit0.qs, hfit0.ws, hfit0.ts, hfit0.ns, hfit0.ms, hfit0.rs⟩)
  have HS := hide (fun (hf : FewK z0) v V (hV : RdK V z0 v) => specBlockOk_any z0 v V hV hf hwf)
  have HI := hide (fun (hf : FewK z0) v V (hV : RdK V z0 v) => implBlockOk_any z0 v V hV hf hwf)
  have HT := hide (fun (hf : FewK z0) v V (hV : RdK V z0 v) => toBlock_any z0 v V hV hf)
  have HE := hide (fun (hf : FewK z0) v1 v2 V (h1 : RdK V z0 v1) (h2 : RdK V z0 v2) => eqBlock_any z0 v1 v2 V h1 h2 hf)
  generalize blB z0 = X at HS HI
  have Hr := hide hr
  obtain ⟨aq, cq, aw, cw, ah, ch, av, cv, an, cn, rfl⟩ := hr.shapes
  clear hr hfit0 hwf
  obtain ⟨id, ep, rd, mk, qr, qb, qw, tr, tw, th, ts, en, nx, rt⟩ := z0
  simp only [bkV] at *
  obtain ⟨w1, hw1⟩ : ∃ x, w.alloc (.cells #[.int .i64 id, .int .i64 ep, .int .i64 rd, .string mk, .int .i64 qr, .int .i64 qb, .slice aq qw.length cq, .int .i64 tr, .slice aw tw.length cw, .slice ah th.length ch, .slice av ts.length cv, .bool en, .slice an nx.length cn, .string rt] 50) = x := ⟨_, rfl⟩
  have b1 : Below w.heap.size w w1 := by rw [← hw1]; exact (Below.refl _ w).alloc (Nat.le_refl _) _
  have k1 : Blk w1 w.heap.size 50 [.int .i64 id, .int .i64 ep, .int .i64 rd, .string mk, .int .i64 qr, .int .i64 qb, .slice aq qw.length cq, .int .i64 tr, .slice aw tw.length cw, .slice ah th.length ch, .slice av ts.length cv, .bool en, .slice an nx.length cn, .string rt] := by rw [← hw1]; exact Blk.new w _ _
  have x0 := k1.cell 0
  have x1 := k1.cell 1
  have x2 := k1.cell 2
  have x3 := k1.cell 3
  have x4 := k1.cell 4
  have x5 := k1.cell 5
  have x6 := k1.cell 6
  have x7 := k1.cell 7
  have x8 := k1.cell 8
  have x9 := k1.cell 9
  have x10 := k1.cell 10
  have x11 := k1.cell 11
  have x12 := k1.cell 12
  have x13 := k1.cell 13
  simp only [List.getElem?_cons_zero, List.getElem?_cons_succ] at x0 x1 x2 x3 x4 x5 x6 x7 x8 x9 x10 x11 x12 x13
  go_enter Try.func4, Try.ntmps4
  go_wp2_with fail
  refine (HZ.out w1 b1).mono ?_
  rintro e w2 ⟨q, rfl, hfit, hb2⟩
  have hB2 := b1.trans (hb2.mono b1.size)
  have k2 := k1.below hb2 k1.lt
  clear k1 b1 hb2 hw1
  clear x0 x1 x2 x3 x4 x5 x6 x7 x8 x9 x10 x11 x12 x13
  by_cases hneg : q < 0
  · clear hfit
    go_wp2
    go_ret
    exact ⟨rfl, hB2⟩
  have hf := HFew.out (hfit (by omega))
  have HS := hide (HS.out hf)
  have HI := hide (HI.out hf)
  have HT := hide (HT.out hf)
  have HE := hide (HE.out hf)
  clear hfit hf HFew HZ
  have y0 := k2.cell 0
  have y1 := k2.cell 1
  have y2 := k2.cell 2
  have y3 := k2.cell 3
  have y4 := k2.cell 4
  have y5 := k2.cell 5
  have y6 := k2.cell 6
  have y7 := k2.cell 7
  have y8 := k2.cell 8
  have y9 := k2.cell 9
  have y10 := k2.cell 10
  have y11 := k2.cell 11
  have y12 := k2.cell 12
  have y13 := k2.cell 13
  simp only [List.getElem?_cons_zero, List.getElem?_cons_succ] at y0 y1 y2 y3 y4 y5 y6 y7 y8 y9 y10 y11 y12 y13
  go_wp2_with fail
  refine (HT.out _ _ (Hr.out.below hB2 (Nat.le_refl _))).mono ?_
  rintro e w3 ⟨v3, rfl, ho3, hb3⟩
  have hB3 := hB2.trans (hb3.mono hB2.size)
  have k3 := k2.below hb3 k2.lt
  have r3 := ho3.rd
  obtain ⟨aq3, cq3, aw3, cw3, ah3, ch3, av3, cv3, an3, cn3, rfl⟩ := r3.shapes
  simp only
  clear y0 y1 y2 y3 y4 y5 y6 y7 y8 y9 y10 y11 y12 y13
  clear k2 hb3
  go_wp2_with fail
  refine (HS.out _ _ r3).mono ?_
  rintro e w4 ⟨rfl, hb4⟩
  have hB4 := hB3.trans (hb4.mono hB3.size)
  have k4 := k3.below hb4 k3.lt
  clear k3 hb4 ho3 r3
  have u0 := k4.cell 0
  have u1 := k4.cell 1
  have u2 := k4.cell 2
  have u3 := k4.cell 3
  have u4 := k4.cell 4
  have u5 := k4.cell 5
  have u6 := k4.cell 6
  have u7 := k4.cell 7
  have u8 := k4.cell 8
  have u9 := k4.cell 9
  have u10 := k4.cell 10
  have u11 := k4.cell 11
  have u12 := k4.cell 12
  have u13 := k4.cell 13
  simp only [List.getElem?_cons_zero, List.getElem?_cons_succ] at u0 u1 u2 u3 u4 u5 u6 u7 u8 u9 u10 u11 u12 u13
  go_wp2_with fail
  refine (HT.out _ _ (Hr.out.below hB4 (Nat.le_refl _))).mono ?_
  rintro e w5 ⟨v5, rfl, ho5, hb5⟩
  have hB5 := hB4.trans (hb5.mono hB4.size)
  have k5 := k4.below hb5 k4.lt
  have r5 := ho5.rd
  obtain ⟨aq5, cq5, aw5, cw5, ah5, ch5, av5, cv5, an5, cn5, rfl⟩ := r5.shapes
  simp only
  clear u0 u1 u2 u3 u4 u5 u6 u7 u8 u9 u10 u11 u12 u13
  clear k4 hb5 hB4
  obtain ⟨w6, hw6⟩ : ∃ x, w5.alloc (.cells #[.int .i64 id, .int .i64 ep, .int .i64 rd, .string mk, .int .i64 qr, .int .i64 qb, .slice aq5 qw.length cq5, .int .i64 tr, .slice aw5 tw.length cw5, .slice ah5 th.length ch5, .slice av5 ts.length cv5, .bool en, .slice an5 nx.length cn5, .string rt] 56) = x := ⟨_, rfl⟩
  have b6 : Below w5.heap.size w5 w6 := by rw [← hw6]; exact (Below.refl _ w5).alloc (Nat.le_refl _) _
  have j6 : Blk w6 w5.heap.size 56 [.int .i64 id, .int .i64 ep, .int .i64 rd, .string mk, .int .i64 qr, .int .i64 qb, .slice aq5 qw.length cq5, .int .i64 tr, .slice aw5 tw.length cw5, .slice ah5 th.length ch5, .slice av5 ts.length cv5, .bool en, .slice an5 nx.length cn5, .string rt] := by rw [← hw6]; exact Blk.new w5 _ _
  have k6 := k5.below b6 k5.lt
  have r6 := r5.below b6 (Nat.le_refl _)
  have hB6 := hB5.trans (b6.mono hB5.size)
  clear k5 r5 b6 ho5 hB5
  have d0 := j6.cell 0
  have d1 := j6.cell 1
  have d2 := j6.cell 2
  have d3 := j6.cell 3
  have d4 := j6.cell 4
  have d5 := j6.cell 5
  have d6 := j6.cell 6
  have d7 := j6.cell 7
  have d8 := j6.cell 8
  have d9 := j6.cell 9
  have d10 := j6.cell 10
  have d11 := j6.cell 11
  have d12 := j6.cell 12
  have d13 := j6.cell 13
  simp only [List.getElem?_cons_zero, List.getElem?_cons_succ] at d0 d1 d2 d3 d4 d5 d6 d7 d8 d9 d10 d11 d12 d13
  go_wp2_with fail
  refine (HI.out _ _ r6).mono ?_
  rintro e w7 ⟨rfl, hb7⟩
  have hB7 := hB6.trans (hb7.mono hB6.size)
  have k7 := k6.below hb7 k6.lt
  have j7 := j6.below hb7 j6.lt
  have r7 := r6.below hb7 (Nat.le_refl _)
  clear d0 d1 d2 d3 d4 d5 d6 d7 d8 d9 d10 d11 d12 d13
  clear k6 j6 r6 hb7 hw6 hB6
  have HSS : Hid (∀ V, Below w7.heap.size w7 V → (V.cell? ⟨w.heap.size, 0, none⟩ = some (.int .i64 id) ∧ V.cell? ⟨w.heap.size, 1, none⟩ = some (.int .i64 ep) ∧ V.cell? ⟨w.heap.size, 2, none⟩ = some (.int .i64 rd) ∧ V.cell? ⟨w.heap.size, 3, none⟩ = some (.string mk) ∧ V.cell? ⟨w.heap.size, 4, none⟩ = some (.int .i64 qr) ∧ V.cell? ⟨w.heap.size, 5, none⟩ = some (.int .i64 qb) ∧ V.cell? ⟨w.heap.size, 6, none⟩ = some (.slice aq qw.length cq) ∧ V.cell? ⟨w.heap.size, 7, none⟩ = some (.int .i64 tr) ∧ V.cell? ⟨w.heap.size, 8, none⟩ = some (.slice aw tw.length cw) ∧ V.cell? ⟨w.heap.size, 9, none⟩ = some (.slice ah th.length ch) ∧ V.cell? ⟨w.heap.size, 10, none⟩ = some (.slice av ts.length cv) ∧ V.cell? ⟨w.heap.size, 11, none⟩ = some (.bool en) ∧ V.cell? ⟨w.heap.size, 12, none⟩ = some (.slice an nx.length cn) ∧ V.cell? ⟨w.heap.size, 13, none⟩ = some (.string rt) ∧ V.cell? ⟨w5.heap.size, 0, none⟩ = some (.int .i64 id) ∧ V.cell? ⟨w5.heap.size, 1, none⟩ = some (.int .i64 ep) ∧ V.cell? ⟨w5.heap.size, 2, none⟩ = some (.int .i64 rd) ∧ V.cell? ⟨w5.heap.size, 3, none⟩ = some (.string mk) ∧ V.cell? ⟨w5.heap.size, 4, none⟩ = some (.int .i64 qr) ∧ V.cell? ⟨w5.heap.size, 5, none⟩ = some (.int .i64 qb) ∧ V.cell? ⟨w5.heap.size, 6, none⟩ = some (.slice aq5 qw.length cq5) ∧ V.cell? ⟨w5.heap.size, 7, none⟩ = some (.int .i64 tr) ∧ V.cell? ⟨w5.heap.size, 8, none⟩ = some (.slice aw5 tw.length cw5) ∧ V.cell? ⟨w5.heap.size, 9, none⟩ = some (.slice ah5 th.length ch5) ∧ V.cell? ⟨w5.heap.size, 10, none⟩ = some (.slice av5 ts.length cv5) ∧ V.cell? ⟨w5.heap.size, 11, none⟩ = some (.bool en) ∧ V.cell? ⟨w5.heap.size, 12, none⟩ = some (.slice an5 nx.length cn5) ∧ V.cell? ⟨w5.heap.size, 13, none⟩ = some (.string rt))) := hide (fun V hv => ⟨(k7.below hv k7.lt).cell 0, (k7.below hv k7.lt).cell 1, (k7.below hv k7.lt).cell 2, (k7.below hv k7.lt).cell 3, (k7.below hv k7.lt).cell 4, (k7.below hv k7.lt).cell 5, (k7.below hv k7.lt).cell 6, (k7.below hv k7.lt).cell 7, (k7.below hv k7.lt).cell 8, (k7.below hv k7.lt).cell 9, (k7.below hv k7.lt).cell 10, (k7.below hv k7.lt).cell 11, (k7.below hv k7.lt).cell 12, (k7.below hv k7.lt).cell 13, (j7.below hv j7.lt).cell 0, (j7.below hv j7.lt).cell 1, (j7.below hv j7.lt).cell 2, (j7.below hv j7.lt).cell 3, (j7.below hv j7.lt).cell 4, (j7.below hv j7.lt).cell 5, (j7.below hv j7.lt).cell 6, (j7.below hv j7.lt).cell 7, (j7.below hv j7.lt).cell 8, (j7.below hv j7.lt).cell 9, (j7.below hv j7.lt).cell 10, (j7.below hv j7.lt).cell 11, (j7.below hv j7.lt).cell 12, (j7.below hv j7.lt).cell 13⟩)
  have bD : Below w7.heap.size w7 w7.drew := (Below.refl _ w7).drew
  have HR7 := hide r7
  have HB7 := hide hB7
  clear k7 j7 r7 hB7
  go_wp2
  go_region_held_law (fun w' => w'.cell? ⟨w.heap.size, 0, none⟩ = some (.int .i64 id) ∧ w'.cell? ⟨w.heap.size, 1, none⟩ = some (.int .i64 ep) ∧ w'.cell? ⟨w.heap.size, 2, none⟩ = some (.int .i64 rd) ∧ w'.cell? ⟨w.heap.size, 3, none⟩ = some (.string mk) ∧ w'.cell? ⟨w.heap.size, 4, none⟩ = some (.int .i64 qr) ∧ w'.cell? ⟨w.heap.size, 5, none⟩ = some (.int .i64 qb) ∧ w'.cell? ⟨w.heap.size, 6, none⟩ = some (.slice aq qw.length cq) ∧ w'.cell? ⟨w.heap.size, 7, none⟩ = some (.int .i64 tr) ∧ w'.cell? ⟨w.heap.size, 8, none⟩ = some (.slice aw tw.length cw) ∧ w'.cell? ⟨w.heap.size, 9, none⟩ = some (.slice ah th.length ch) ∧ w'.cell? ⟨w.heap.size, 10, none⟩ = some (.slice av ts.length cv) ∧ w'.cell? ⟨w.heap.size, 11, none⟩ = some (.bool en) ∧ w'.cell? ⟨w.heap.size, 12, none⟩ = some (.slice an nx.length cn) ∧ w'.cell? ⟨w.heap.size, 13, none⟩ = some (.string rt) ∧ w'.cell? ⟨w5.heap.size, 0, none⟩ = some (.int .i64 id) ∧ w'.cell? ⟨w5.heap.size, 1, none⟩ = some (.int .i64 ep) ∧ w'.cell? ⟨w5.heap.size, 2, none⟩ = some (.int .i64 rd) ∧ w'.cell? ⟨w5.heap.size, 3, none⟩ = some (.string mk) ∧ w'.cell? ⟨w5.heap.size, 4, none⟩ = some (.int .i64 qr) ∧ w'.cell? ⟨w5.heap.size, 5, none⟩ = some (.int .i64 qb) ∧ w'.cell? ⟨w5.heap.size, 6, none⟩ = some (.slice aq5 qw.length cq5) ∧ w'.cell? ⟨w5.heap.size, 7, none⟩ = some (.int .i64 tr) ∧ w'.cell? ⟨w5.heap.size, 8, none⟩ = some (.slice aw5 tw.length cw5) ∧ w'.cell? ⟨w5.heap.size, 9, none⟩ = some (.slice ah5 th.length ch5) ∧ w'.cell? ⟨w5.heap.size, 10, none⟩ = some (.slice av5 ts.length cv5) ∧ w'.cell? ⟨w5.heap.size, 11, none⟩ = some (.bool en) ∧ w'.cell? ⟨w5.heap.size, 12, none⟩ = some (.slice an5 nx.length cn5) ∧ w'.cell? ⟨w5.heap.size, 13, none⟩ = some (.string rt)) ((refine HSS.out _ ?_; repeat (first | with_reducible exact bD | with_reducible exact c9 | with_reducible exact c8 | with_reducible exact Below.refl _ _ | refine Below.drew ?_))) ((first
    | (go_at_call 18; (with_reducible refine (HE.out _ _ _ (HR7.out.below c8 (Nat.le_refl _)) r8).mono ?_); rintro e w9 ⟨rfl, hb9⟩; have c9 := c8.trans (hb9.mono c8.size))
    | (go_at_call 16; (with_reducible refine (HT.out _ _ (Hr.out.below (HB7.out.trans (bD.mono HB7.out.size)) (Nat.le_refl _))).mono ?_); rintro e w8 ⟨v8, rfl, ho8, hb8⟩; have r8 := ho8.rd; obtain ⟨aq8, cq8, aw8, cw8, ah8, ch8, av8, cv8, an8, cn8, rfl⟩ := r8.shapes; (try simp only); have c8 := bD.trans (hb8.mono bD.size))))
  have hB9 := HB7.out.trans (c9.mono HB7.out.size)
  go_wp2
  go_ret
  exact ⟨rfl, hB9⟩

set_option maxRecDepth 100000 in
theorem fnExactBlockOk_lifted (os : Os) (started : os.Started) (H : Type) (enc : TypeId × Value → H) :
    ReturnsInHanded {} Try.checked os 4 .any (Rows.fnExactBlockOkSpec.pre6 enc Try.prog Try.f4 Rows.fnExactBlockOkRow.domain false) (Rows.fnExactBlockOkSpec.post enc Try.prog Try.f4 false true false false) := by
  refine returnsInHanded_of_change (C := Try.checked) fnExactBlockOk_own started (by kernel_rfl) Try.func4
    (ChangeSpec.witness6 (enc := enc) (C := Try.checked) false ⟨#[], #[.agg #[.int .i64 0, .int .i64 0, .int .i64 0, .string ByteArray.empty, .int .i64 0, .int .i64 0, .slice none 0 0, .int .i64 0, .slice none 0 0, .slice none 0 0, .slice none 0 0, .bool false, .slice none 0 0, .string ByteArray.empty]], []⟩ 8 (by kernel_rfl) (by kernel_rfl) (by kernel_rfl) (by kernel_rfl)) ?_
  intro W base args ds gs before hval0 hW hcnd _
  have hval : ∀ (j : Nat) t v, Try.f4.params[j]? = some t → args[j]? = some v → Value.okWide Try.prog W .any base t v := hval0
  have hW' := hW
  obtain ⟨p, q, hA0, hV, rfl, hfz, hnd⟩ := hW
  have hA : DataW.TrodAll enc Try.prog W 0 (fun _ => true) true Try.f4.params.toList args.toList ds p := hA0
  rw [Try.params4] at hA hval
  obtain ⟨v0, vs0, d0, ds0, p0, q0, hargs, rfl, rfl, h0, r0⟩ := trodAll_cons hA
  obtain ⟨rfl, rfl, rfl⟩ := trodAll_nil r0
  obtain rfl : args = #[v0] := by cases args; simp_all
  obtain ⟨rfl, rfl⟩ := trodVars_none hV
  have k0 := h0
  have lt0 : ∀ x ∈ p0, x.block < W.heap.size := by obtain ⟨m, hm⟩ := k0; exact DataW.trod_lt m _ _ _ hm
  obtain ⟨z0, y0, rfl, w0⟩ : ∃ (b : Bk) (v : Bv), v0 = bkV b v ∧ RdK W b v ∧ FitK b := by
    obtain ⟨cs, rfl, hsz⟩ := okWide_struct Try.underlying50 (hval 0 50 _ rfl rfl)
    obtain ⟨fuel, hf⟩ := h0
    obtain ⟨b, v, q, rest⟩ := open_block (by simpa [Value.cells] using hf)
    exact ⟨b, v, by cases cs; simp at q; subst q; rfl, rest⟩
  clear hA0 hval0
  refine (fnExactBlockOk_walk z0 y0 W w0).mono fun e W' ⟨he, bel⟩ => ?_
  subst he
  exact ⟨_, rfl, _, _, _, [], _, [], hW', trodAll_mk1 (shut_bool Try.underlying4 _), (trodAll_cons_mk (Below.trod fnExactBlockOk_laidOut (by kernel_rfl) (of_decide_eq_true (by kernel_rfl)) k0 bel lt0) trodAll_mk0), rfl, bel.frame _, fun h => by cases h⟩

theorem fnExactBlockOk_holds : Rows.FnExactBlockOkSaid :=
  OpenClaim.holds_of_wide 4 Try.f4 rfl rfl rfl rfl rfl rfl rfl ⟨rfl, rfl, rfl, rfl, rfl⟩ rfl rfl rfl rfl rfl (by kernel_rfl) Try.func4 (by kernel_rfl)
    (of_decide_eq_true (by kernel_rfl)) (by unfold Func.isWrapper; first | (rw [if_pos (by decide +kernel)]; kernel_rfl) | (rw [if_neg (by decide +kernel)]; exact ⟨rfl, rfl⟩))
    (fun os started H enc _ => fnExactBlockOk_lifted os started H enc)

end Go.Proofs.Ytlfoaobgdipdlaa
