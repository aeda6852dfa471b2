/- At all blocks PutBlock of the program answers as the model's PutBlock, writes into no argument and keeps nothing of one, and its answer owns its memory: the law FnExactPutBlock returns true, with no condition. -/
import Derived.Test.YtlfoaobgdipdlaaRows
import Derived.Test.YtlfoaobgdipdlaaZpRow
import Derived.Test.YtlfoaobgdipdlaaZpBkOpen
import Derived.Test.YtlfoaobgdipdlaaZpBkOk
import Derived.Test.YtlfoaobgdipdlaaZpBkTo
import Derived.Test.YtlfoaobgdipdlaaZpBkToD
import Derived.Test.YtlfoaobgdipdlaaZpBkEq
import Derived.Test.YtlfoaobgdipdlaaZpBkSz
import Derived.Test.YtlfoaobgdipdlaaZpBkPutW
import Derived.Test.YtlfoaobgdipdlaaZpBkPutI
import Derived.Test.YtlfoaobgdipdlaaZpBkMark
import Derived.Test.YtlfoaobgdipdlaaZpMarks
import Derived.Test.YtlfoaobgdipdlaaZpHeld
import Derived.WalkKit
import Derived.ProofKit
import Derived.OpenShut
import Derived.ShutString
import Derived.ChangeOld
import Derived.Below
import Derived.SliceStrings
namespace Go.Proofs.Ytlfoaobgdipdlaa
open Go.ChangeShapes Go.WideShapes Go.ChangeAt Go.RowKit
open Go.ChangeMaps (open_string shut_string)
set_option linter.unusedVariables false

theorem fnExactPutBlock_own : ownKnob Try.prog.godebug = none := by kernel_rfl
theorem fnExactPutBlock_laidOut : laidOutB Try.prog = true := by kernel_rfl

theorem blP_len9 (b : Bk) : (blP b).length ≤ 6000 := by
  by_cases h : blB b = true
  · rw [← blP_is b h]
    have := parts_len (bl_put h)
    simp only [List.length_append]
    omega
  · unfold blP
    rw [if_neg h]
    simp
theorem RdK.shapes {w : World} {b : Bk} {v : Bv} (h : RdK w b v) : ∃ aq cq aw cw ah ch at_ ct an cn, v = ⟨.slice aq b.qw.length cq, .slice aw b.tw.length cw, .slice ah b.th.length ch, .slice at_ b.ts.length ct, .slice an b.nx.length cn⟩ := by
  obtain ⟨q, p, hh, t, n⟩ := h
  obtain ⟨vq, vw, vh, vt, vn⟩ := v
  obtain ⟨aq, cq, rfl⟩ := q.shape
  obtain ⟨aw, cw, rfl⟩ := p.shape
  obtain ⟨ah, ch, rfl⟩ := hh.shape
  obtain ⟨at_, ct, rfl⟩ := t.shape
  obtain ⟨an, cn, rfl⟩ := n.shape
  exact ⟨aq, cq, aw, cw, ah, ch, at_, ct, an, cn, rfl⟩
set_option maxRecDepth 20000 in
set_option maxHeartbeats 8000000 in
theorem fnExactPutBlock_walk (z0 : Bk) (y0 : Bv) (w : World) (w0 : RdK w z0 y0 ∧ FitK z0) :
    Calls Try.prog 5 #[bkV z0 y0] w fun e w' => e = .returned (.bool true) ∧ Below w.heap.size w w' := by
  obtain ⟨hr, hfit0⟩ := w0
  have hwf := wf_i64 hfit0.wf.2.2.2.2.2
  have HZ := hide (fun V (hV : Below w.heap.size w V) => szBlock_any z0 y0 1048576 V (hr.below hV (Nat.le_refl _)) (by omega) hfit0.q hfit0.w hfit0.h hfit0.t hfit0.n hfit0.qs hfit0.ws hfit0.ts hfit0.ns hfit0.ms hfit0.rs)
  have HFew : Hid (z0.qw.length ≤ 1048576 ∧ z0.tw.length ≤ 1048576 ∧ z0.th.length ≤ 1048576 ∧ z0.ts.length ≤ 1048576 ∧ z0.nx.length ≤ 1048576 → FewK z0) := hide (fun h => ⟨by omega, by omega, by omega, by omega, by omega, hfit0.qs, hfit0.ws, hfit0.ts, hfit0.ns, hfit0.ms, hfit0.rs⟩)
  have HS := hide (fun (hf : FewK z0) v V (hV : RdK V z0 v) => specPutBlock_any z0 v V hV hf hwf)
  have HI := hide (fun (hf : FewK z0) v V (hV : RdK V z0 v) => implPutBlock_any z0 v V hV hf hwf)
  have HT := hide (fun (hf : FewK z0) v V (hV : RdK V z0 v) => toBlock_any z0 v V hV hf)
  have HTD := hide (fun (hf : FewK z0) v V (hV : RdK V z0 v) => toBlockD_any z0 v V hV hf)
  have HE := hide (fun (hf : FewK z0) v1 v2 V (h1 : RdK V z0 v1) (h2 : RdK V z0 v2) => eqBlock_any z0 v1 v2 V h1 h2 hf)
  have HM := hide (fun (hf : FewK z0) v base W V (ho : OwnK base W z0 v) (hb : Below W.heap.size W V) (hne : ∀ g, v.q.ownBlock = some g → v.w.ownBlock ≠ some g) => markBlock_any z0 v 1 base W V ho hb hne hf.q hf.w hf.h hf.t hf.n (by omega) (by omega))
  have hP := blP_len9 z0
  generalize blP z0 = P at HS HI hP
  have Hr := hide hr
  obtain ⟨aq, cq, aw, cw, ah, ch, av, cv, an, cn, rfl⟩ := Hr.out.shapes
  clear hr hfit0 hwf
  obtain ⟨id, ep, rd, mk, qr, qb, qw, tr, tw, th, ts, en, nx, rt⟩ := z0
  simp only [bkV] at *
  obtain ⟨MK, hMK⟩ : ∃ K : Nat, 1 + qw.length + tw.length + th.length + 5 * ts.length + 2 * nx.length = K := ⟨_, rfl⟩
  rw [hMK] at HM
  have hMK0 : ¬ (MK : Int) < 0 := by omega
  clear hMK
  obtain ⟨w1, hw1⟩ : ∃ x, w.alloc (.cells #[.int .i64 id, .int .i64 ep, .int .i64 rd, .string mk, .int .i64 qr, .int .i64 qb, .slice aq qw.length cq, .int .i64 tr, .slice aw tw.length cw, .slice ah th.length ch, .slice av ts.length cv, .bool en, .slice an nx.length cn, .string rt] 50) = x := ⟨_, rfl⟩
  have b1 : Below w.heap.size w w1 := by rw [← hw1]; exact (Below.refl _ w).alloc (Nat.le_refl _) _
  have k1 : Blk w1 w.heap.size 50 [.int .i64 id, .int .i64 ep, .int .i64 rd, .string mk, .int .i64 qr, .int .i64 qb, .slice aq qw.length cq, .int .i64 tr, .slice aw tw.length cw, .slice ah th.length ch, .slice av ts.length cv, .bool en, .slice an nx.length cn, .string rt] := by rw [← hw1]; exact Blk.new w _ _
  have x0 := k1.cell 0
  have x1 := k1.cell 1
  have x2 := k1.cell 2
  have x3 := k1.cell 3
  have x4 := k1.cell 4
  have x5 := k1.cell 5
  have x6 := k1.cell 6
  have x7 := k1.cell 7
  have x8 := k1.cell 8
  have x9 := k1.cell 9
  have x10 := k1.cell 10
  have x11 := k1.cell 11
  have x12 := k1.cell 12
  have x13 := k1.cell 13
  simp only [List.getElem?_cons_zero, List.getElem?_cons_succ] at x0 x1 x2 x3 x4 x5 x6 x7 x8 x9 x10 x11 x12 x13
  go_enter Try.func5, Try.ntmps5
  go_wp2_with fail
  refine (HZ.out w1 b1).mono ?_
  rintro e w2 ⟨q, rfl, hfit, hb2⟩
  have hB2 := b1.trans (hb2.mono b1.size)
  have k2 := k1.below hb2 k1.lt
  clear k1 b1 hb2 hw1
  clear x0 x1 x2 x3 x4 x5 x6 x7 x8 x9 x10 x11 x12 x13
  by_cases hneg : q < 0
  · clear hfit
    go_wp2
    go_ret
    exact ⟨rfl, hB2⟩
  have hf := HFew.out (hfit (by omega))
  have HS := hide (HS.out hf)
  have HI := hide (HI.out hf)
  have HT := hide (HT.out hf)
  have HTD := hide (HTD.out hf)
  have HE := hide (HE.out hf)
  have HM := hide (HM.out hf)
  clear hfit hf HFew HZ
  have y0 := k2.cell 0
  have y1 := k2.cell 1
  have y2 := k2.cell 2
  have y3 := k2.cell 3
  have y4 := k2.cell 4
  have y5 := k2.cell 5
  have y6 := k2.cell 6
  have y7 := k2.cell 7
  have y8 := k2.cell 8
  have y9 := k2.cell 9
  have y10 := k2.cell 10
  have y11 := k2.cell 11
  have y12 := k2.cell 12
  have y13 := k2.cell 13
  simp only [List.getElem?_cons_zero, List.getElem?_cons_succ] at y0 y1 y2 y3 y4 y5 y6 y7 y8 y9 y10 y11 y12 y13
  go_wp2_with fail
  refine (HT.out _ _ (Hr.out.below hB2 (Nat.le_refl _))).mono ?_
  rintro e w3 ⟨v3, rfl, ho3, hb3⟩
  have hB3 := hB2.trans (hb3.mono hB2.size)
  have k3 := k2.below hb3 k2.lt
  have r3 := ho3.rd
  obtain ⟨aq3, cq3, aw3, cw3, ah3, ch3, av3, cv3, an3, cn3, rfl⟩ := r3.shapes
  simp only
  clear y0 y1 y2 y3 y4 y5 y6 y7 y8 y9 y10 y11 y12 y13
  clear k2 hb3
  go_wp2_with fail
  refine (HS.out _ _ r3).mono ?_
  rintro e w4 ⟨u4, rfl, ho4, hb4⟩
  obtain ⟨a4, c4, rfl⟩ := ho4.rd.shape
  have hB4 := hB3.trans (hb4.mono hB3.size)
  have k4 := k3.below hb4 k3.lt
  have Lt4 : Hid (∀ g, (Value.slice a4 P.length c4).ownBlock = some g → g < w4.heap.size) := hide (fun g h => (World.ownsRow.lt ho4 g h).2)
  clear k3 hb4 ho3 r3
  have u0 := k4.cell 0
  have u1 := k4.cell 1
  have u2 := k4.cell 2
  have u3 := k4.cell 3
  have u4 := k4.cell 4
  have u5 := k4.cell 5
  have u6 := k4.cell 6
  have u7 := k4.cell 7
  have u8 := k4.cell 8
  have u9 := k4.cell 9
  have u10 := k4.cell 10
  have u11 := k4.cell 11
  have u12 := k4.cell 12
  have u13 := k4.cell 13
  simp only [List.getElem?_cons_zero, List.getElem?_cons_succ] at u0 u1 u2 u3 u4 u5 u6 u7 u8 u9 u10 u11 u12 u13
  go_wp2_with fail
  refine (HTD.out _ _ (Hr.out.below hB4 (Nat.le_refl _))).mono ?_
  rintro e w5 ⟨v5, rfl, ho5, hne5, hb5⟩
  have hB5 := hB4.trans (hb5.mono hB4.size)
  have k5 := k4.below hb5 k4.lt
  have r5 := ho5.rd
  obtain ⟨aq5, cq5, aw5, cw5, ah5, ch5, av5, cv5, an5, cn5, rfl⟩ := r5.shapes
  simp only
  clear u0 u1 u2 u3 u4 u5 u6 u7 u8 u9 u10 u11 u12 u13
  have Ho5 := hide ho5
  have Hne5 := hide hne5
  have ho4 := ho4.below hb5 (Nat.le_refl _)
  have hz45 := hb5.size
  have hzw4 := k4.lt
  clear k4 hb5 ho5 hne5
  obtain ⟨w6, hw6⟩ : ∃ x, w5.alloc (.cells #[.int .i64 id, .int .i64 ep, .int .i64 rd, .string mk, .int .i64 qr, .int .i64 qb, .slice aq5 qw.length cq5, .int .i64 tr, .slice aw5 tw.length cw5, .slice ah5 th.length ch5, .slice av5 ts.length cv5, .bool en, .slice an5 nx.length cn5, .string rt] 56) = x := ⟨_, rfl⟩
  have b6 : Below w5.heap.size w5 w6 := by rw [← hw6]; exact (Below.refl _ w5).alloc (Nat.le_refl _) _
  have j6 : Blk w6 w5.heap.size 56 [.int .i64 id, .int .i64 ep, .int .i64 rd, .string mk, .int .i64 qr, .int .i64 qb, .slice aq5 qw.length cq5, .int .i64 tr, .slice aw5 tw.length cw5, .slice ah5 th.length ch5, .slice av5 ts.length cv5, .bool en, .slice an5 nx.length cn5, .string rt] := by rw [← hw6]; exact Blk.new w5 _ _
  have k6 := k5.below b6 k5.lt
  have r6 := r5.below b6 (Nat.le_refl _)
  have ho4 := ho4.below b6 (Nat.le_refl _)
  have hB6 := hB5.trans (b6.mono hB5.size)
  have hz56 := b6.size
  clear k5 r5 hB5 hB4
  have d0 := j6.cell 0
  have d1 := j6.cell 1
  have d2 := j6.cell 2
  have d3 := j6.cell 3
  have d4 := j6.cell 4
  have d5 := j6.cell 5
  have d6 := j6.cell 6
  have d7 := j6.cell 7
  have d8 := j6.cell 8
  have d9 := j6.cell 9
  have d10 := j6.cell 10
  have d11 := j6.cell 11
  have d12 := j6.cell 12
  have d13 := j6.cell 13
  simp only [List.getElem?_cons_zero, List.getElem?_cons_succ] at d0 d1 d2 d3 d4 d5 d6 d7 d8 d9 d10 d11 d12 d13
  go_wp2_with fail
  refine (HI.out _ _ r6).mono ?_
  rintro e w7 ⟨g7, rfl, ho7, hb7⟩
  obtain ⟨a7, c7, rfl⟩ := ho7.rd.shape
  have hB7 := hB6.trans (hb7.mono hB6.size)
  have k7 := k6.below hb7 k6.lt
  have j7 := j6.below hb7 j6.lt
  have r7 := r6.below hb7 (Nat.le_refl _)
  have ho4 := ho4.below hb7 (Nat.le_refl _)
  have b57 := b6.trans (hb7.mono b6.size)
  have Ge7 : Hid (∀ g, (Value.slice a7 P.length c7).ownBlock = some g → w6.heap.size ≤ g) := hide (fun g h => (World.ownsRow.lt ho7 g h).1)
  clear d0 d1 d2 d3 d4 d5 d6 d7 d8 d9 d10 d11 d12 d13
  clear k6 j6 r6 hb7 hw6 hB6 b6
  go_wp2_with fail
  refine (eqByteS_any _ _ P P _ ho7.rd ho4.rd (by omega) (by omega)).mono ?_
  rintro e w8 ⟨rfl, hs8⟩
  have hB8 := hB7.trans (hs8 _)
  have k8 := k7.below (hs8 _) k7.lt
  have j8 := j7.below (hs8 _) j7.lt
  have r8 := r7.below (hs8 _) (Nat.le_refl _)
  have ho4 := ho4.below (hs8 _) (Nat.le_refl _)
  have ho7 := ho7.below (hs8 _) (Nat.le_refl _)
  have b58 := b57.trans (hs8 _)
  clear k7 j7 r7 hs8 hB7 b57
  have HSS : Hid (∀ V, Below w8.heap.size w8 V → (V.cell? ⟨w.heap.size, 0, none⟩ = some (.int .i64 id) ∧ V.cell? ⟨w.heap.size, 1, none⟩ = some (.int .i64 ep) ∧ V.cell? ⟨w.heap.size, 2, none⟩ = some (.int .i64 rd) ∧ V.cell? ⟨w.heap.size, 3, none⟩ = some (.string mk) ∧ V.cell? ⟨w.heap.size, 4, none⟩ = some (.int .i64 qr) ∧ V.cell? ⟨w.heap.size, 5, none⟩ = some (.int .i64 qb) ∧ V.cell? ⟨w.heap.size, 6, none⟩ = some (.slice aq qw.length cq) ∧ V.cell? ⟨w.heap.size, 7, none⟩ = some (.int .i64 tr) ∧ V.cell? ⟨w.heap.size, 8, none⟩ = some (.slice aw tw.length cw) ∧ V.cell? ⟨w.heap.size, 9, none⟩ = some (.slice ah th.length ch) ∧ V.cell? ⟨w.heap.size, 10, none⟩ = some (.slice av ts.length cv) ∧ V.cell? ⟨w.heap.size, 11, none⟩ = some (.bool en) ∧ V.cell? ⟨w.heap.size, 12, none⟩ = some (.slice an nx.length cn) ∧ V.cell? ⟨w.heap.size, 13, none⟩ = some (.string rt) ∧ V.cell? ⟨w5.heap.size, 0, none⟩ = some (.int .i64 id) ∧ V.cell? ⟨w5.heap.size, 1, none⟩ = some (.int .i64 ep) ∧ V.cell? ⟨w5.heap.size, 2, none⟩ = some (.int .i64 rd) ∧ V.cell? ⟨w5.heap.size, 3, none⟩ = some (.string mk) ∧ V.cell? ⟨w5.heap.size, 4, none⟩ = some (.int .i64 qr) ∧ V.cell? ⟨w5.heap.size, 5, none⟩ = some (.int .i64 qb) ∧ V.cell? ⟨w5.heap.size, 6, none⟩ = some (.slice aq5 qw.length cq5) ∧ V.cell? ⟨w5.heap.size, 7, none⟩ = some (.int .i64 tr) ∧ V.cell? ⟨w5.heap.size, 8, none⟩ = some (.slice aw5 tw.length cw5) ∧ V.cell? ⟨w5.heap.size, 9, none⟩ = some (.slice ah5 th.length ch5) ∧ V.cell? ⟨w5.heap.size, 10, none⟩ = some (.slice av5 ts.length cv5) ∧ V.cell? ⟨w5.heap.size, 11, none⟩ = some (.bool en) ∧ V.cell? ⟨w5.heap.size, 12, none⟩ = some (.slice an5 nx.length cn5) ∧ V.cell? ⟨w5.heap.size, 13, none⟩ = some (.string rt))) := hide (fun V hv => by have kv := k8.below hv k8.lt; have jv := j8.below hv j8.lt; exact ⟨kv.cell 0, kv.cell 1, kv.cell 2, kv.cell 3, kv.cell 4, kv.cell 5, kv.cell 6, kv.cell 7, kv.cell 8, kv.cell 9, kv.cell 10, kv.cell 11, kv.cell 12, kv.cell 13, jv.cell 0, jv.cell 1, jv.cell 2, jv.cell 3, jv.cell 4, jv.cell 5, jv.cell 6, jv.cell 7, jv.cell 8, jv.cell 9, jv.cell 10, jv.cell 11, jv.cell 12, jv.cell 13⟩)
  have bD : Below w8.heap.size w8 w8.drew := (Below.refl _ w8).drew
  have HR8 := hide r8
  have HB8 := hide hB8
  have K8 := hide k8
  have J8 := hide j8
  have HO4 := hide ho4
  have HO7 := hide ho7
  have HB58 := hide b58
  clear k8 j8 r8 hB8 ho4 ho7 b58
  go_wp2
  go_region_held_law (fun w' => w'.cell? ⟨w.heap.size, 0, none⟩ = some (.int .i64 id) ∧ w'.cell? ⟨w.heap.size, 1, none⟩ = some (.int .i64 ep) ∧ w'.cell? ⟨w.heap.size, 2, none⟩ = some (.int .i64 rd) ∧ w'.cell? ⟨w.heap.size, 3, none⟩ = some (.string mk) ∧ w'.cell? ⟨w.heap.size, 4, none⟩ = some (.int .i64 qr) ∧ w'.cell? ⟨w.heap.size, 5, none⟩ = some (.int .i64 qb) ∧ w'.cell? ⟨w.heap.size, 6, none⟩ = some (.slice aq qw.length cq) ∧ w'.cell? ⟨w.heap.size, 7, none⟩ = some (.int .i64 tr) ∧ w'.cell? ⟨w.heap.size, 8, none⟩ = some (.slice aw tw.length cw) ∧ w'.cell? ⟨w.heap.size, 9, none⟩ = some (.slice ah th.length ch) ∧ w'.cell? ⟨w.heap.size, 10, none⟩ = some (.slice av ts.length cv) ∧ w'.cell? ⟨w.heap.size, 11, none⟩ = some (.bool en) ∧ w'.cell? ⟨w.heap.size, 12, none⟩ = some (.slice an nx.length cn) ∧ w'.cell? ⟨w.heap.size, 13, none⟩ = some (.string rt) ∧ w'.cell? ⟨w5.heap.size, 0, none⟩ = some (.int .i64 id) ∧ w'.cell? ⟨w5.heap.size, 1, none⟩ = some (.int .i64 ep) ∧ w'.cell? ⟨w5.heap.size, 2, none⟩ = some (.int .i64 rd) ∧ w'.cell? ⟨w5.heap.size, 3, none⟩ = some (.string mk) ∧ w'.cell? ⟨w5.heap.size, 4, none⟩ = some (.int .i64 qr) ∧ w'.cell? ⟨w5.heap.size, 5, none⟩ = some (.int .i64 qb) ∧ w'.cell? ⟨w5.heap.size, 6, none⟩ = some (.slice aq5 qw.length cq5) ∧ w'.cell? ⟨w5.heap.size, 7, none⟩ = some (.int .i64 tr) ∧ w'.cell? ⟨w5.heap.size, 8, none⟩ = some (.slice aw5 tw.length cw5) ∧ w'.cell? ⟨w5.heap.size, 9, none⟩ = some (.slice ah5 th.length ch5) ∧ w'.cell? ⟨w5.heap.size, 10, none⟩ = some (.slice av5 ts.length cv5) ∧ w'.cell? ⟨w5.heap.size, 11, none⟩ = some (.bool en) ∧ w'.cell? ⟨w5.heap.size, 12, none⟩ = some (.slice an5 nx.length cn5) ∧ w'.cell? ⟨w5.heap.size, 13, none⟩ = some (.string rt)) ((refine HSS.out _ ?_; repeat (first | with_reducible exact bD | with_reducible exact c10 | with_reducible exact c9 | with_reducible exact Below.refl _ _ | refine Below.drew ?_))) ((first
    | (go_at_call 18; (with_reducible refine (HE.out _ _ _ (HR8.out.below c9 (Nat.le_refl _)) r9).mono ?_); rintro e w10 ⟨rfl, hb10⟩; have c10 := c9.trans (hb10.mono c9.size))
    | (go_at_call 16; (with_reducible refine (HT.out _ _ (Hr.out.below (HB8.out.trans (bD.mono HB8.out.size)) (Nat.le_refl _))).mono ?_); rintro e w9 ⟨v9, rfl, ho9, hb9⟩; have r9 := ho9.rd; obtain ⟨aq9, cq9, aw9, cw9, ah9, ch9, av9, cv9, an9, cn9, rfl⟩ := r9.shapes; (try simp only); have c9 := bD.trans (hb9.mono bD.size))))
  have k10 := K8.out.below c10 K8.out.lt
  have j10 := J8.out.below c10 J8.out.lt
  have hB10 := HB8.out.trans (c10.mono HB8.out.size)
  have ho4 := HO4.out.below c10 (Nat.le_refl _)
  have ho7 := HO7.out.below c10 (Nat.le_refl _)
  have b510 := HB58.out.trans (c10.mono HB58.out.size)
  have z510 := b510.size
  clear HSS bD HR8 HB8 K8 J8 HO4 HO7 HB58 c10 c9 hb10 hb9 ho9 r9
  have m0 := j10.cell 0
  have m1 := j10.cell 1
  have m2 := j10.cell 2
  have m3 := j10.cell 3
  have m4 := j10.cell 4
  have m5 := j10.cell 5
  have m6 := j10.cell 6
  have m7 := j10.cell 7
  have m8 := j10.cell 8
  have m9 := j10.cell 9
  have m10 := j10.cell 10
  have m11 := j10.cell 11
  have m12 := j10.cell 12
  have m13 := j10.cell 13
  simp only [List.getElem?_cons_zero, List.getElem?_cons_succ] at m0 m1 m2 m3 m4 m5 m6 m7 m8 m9 m10 m11 m12 m13
  go_wp2_with fail
  refine (HM.out _ _ _ _ Ho5.out b510 Hne5.out).mono ?_
  rintro e w11 ⟨rfl, O11⟩
  have ho4 : OwnB w3.heap.size w11 (.slice a4 P.length c4) P := row_oth ho4 O11 (fun g h hS => by have := Lt4.out g h; omega)
  have ho7 : OwnB w6.heap.size w11 (.slice a7 P.length c7) P := row_oth ho7 O11 (fun g h hS => by have := Ge7.out g h; omega)
  have k11 : Blk w11 w.heap.size 50 [.int .i64 id, .int .i64 ep, .int .i64 rd, .string mk, .int .i64 qr, .int .i64 qb, .slice aq qw.length cq, .int .i64 tr, .slice aw tw.length cw, .slice ah th.length ch, .slice av ts.length cv, .bool en, .slice an nx.length cn, .string rt] := (O11.block w.heap.size k10.lt (fun hS => by omega)).trans k10
  have hB11 := hB10.trans (O11.below (B := w.heap.size) (fun g hS => by omega) (by omega))
  clear m0 m1 m2 m3 m4 m5 m6 m7 m8 m9 m10 m11 m12 m13
  clear k10 j10 hB10 O11 b510 z510
  go_wp2_with fail
  refine (eqByteS_any _ _ P P _ ho7.rd ho4.rd (by omega) (by omega)).mono ?_
  rintro e w12 ⟨rfl, hs12⟩
  have hB12 := hB11.trans (hs12 _)
  have k12 := k11.below (hs12 _) k11.lt
  have ho4 := ho4.below (hs12 _) (Nat.le_refl _)
  have ho7 := ho7.below (hs12 _) (Nat.le_refl _)
  clear k11 hs12 hB11
  go_wp2_with fail
  refine (markByteS_any _ P 1 _ _ ho7 (by omega) (by omega)).mono ?_
  rintro e w13 ⟨rfl, hm7, hg13⟩
  have O13 := Oth.of_grown (S := fun g => (Value.slice a7 P.length c7).ownBlock = some g) hg13 (fun g h => h)
  have ho4 : OwnB w3.heap.size w13 (.slice a4 P.length c4) P := row_oth ho4 O13 (fun g h hS => by have h1 := Lt4.out g h; have h2 := Ge7.out g hS; omega)
  have k13 : Blk w13 w.heap.size 50 [.int .i64 id, .int .i64 ep, .int .i64 rd, .string mk, .int .i64 qr, .int .i64 qb, .slice aq qw.length cq, .int .i64 tr, .slice aw tw.length cw, .slice ah th.length ch, .slice av ts.length cv, .bool en, .slice an nx.length cn, .string rt] := (O13.block w.heap.size k12.lt (fun hS => by have := Ge7.out _ hS; omega)).trans k12
  have hB13 := hB12.trans (O13.below (B := w.heap.size) (fun g hS => by have := Ge7.out g hS; omega) hB12.size)
  clear k12 hg13 O13 hB12 ho7
  go_wp2_with fail
  refine (heldByteS_any _ 1 P.length _ hm7.rd (by omega) (by omega)).mono ?_
  rintro e w14 ⟨rfl, rfl⟩
  have n0 := k13.cell 0
  have n1 := k13.cell 1
  have n2 := k13.cell 2
  have n3 := k13.cell 3
  have n4 := k13.cell 4
  have n5 := k13.cell 5
  have n6 := k13.cell 6
  have n7 := k13.cell 7
  have n8 := k13.cell 8
  have n9 := k13.cell 9
  have n10 := k13.cell 10
  have n11 := k13.cell 11
  have n12 := k13.cell 12
  have n13 := k13.cell 13
  simp only [List.getElem?_cons_zero, List.getElem?_cons_succ] at n0 n1 n2 n3 n4 n5 n6 n7 n8 n9 n10 n11 n12 n13
  go_wp2_with fail
  refine (HT.out _ _ (Hr.out.below hB13 (Nat.le_refl _))).mono ?_
  rintro e w15 ⟨v15, rfl, ho15, hb15⟩
  have hB15 := hB13.trans (hb15.mono hB13.size)
  have r15 := ho15.rd
  obtain ⟨aq15, cq15, aw15, cw15, ah15, ch15, av15, cv15, an15, cn15, rfl⟩ := r15.shapes
  simp only
  clear n0 n1 n2 n3 n4 n5 n6 n7 n8 n9 n10 n11 n12 n13
  have ho4 := ho4.below hb15 (Nat.le_refl _)
  have hm7 := hm7.below hb15 (Nat.le_refl _)
  clear k13 hb15 ho15 hB13
  go_wp2_with fail
  refine (HI.out _ _ r15).mono ?_
  rintro e w16 ⟨h16, rfl, ho16, hb16⟩
  obtain ⟨a16, c16, rfl⟩ := ho16.rd.shape
  have hB16 := hB15.trans (hb16.mono hB15.size)
  have ho4 := ho4.below hb16 (Nat.le_refl _)
  have hm7 := hm7.below hb16 (Nat.le_refl _)
  clear r15 hb16 hB15
  go_wp2_with fail
  refine (eqByteS_any _ _ P P _ ho16.rd ho4.rd (by omega) (by omega)).mono ?_
  rintro e w17 ⟨rfl, hs17⟩
  have HB17 := hide (hB16.trans (hs17 _))
  have hm7 := hm7.below (hs17 _) (Nat.le_refl _)
  clear ho16 ho4 hs17 hB16
  go_wp2_with fail
  refine (heldByteS_any _ 1 P.length _ hm7.rd (by omega) (by omega)).mono ?_
  rintro e w18 ⟨rfl, rfl⟩
  clear hm7
  go_wp2
  go_ret
  exact ⟨rfl, HB17.out⟩

set_option maxRecDepth 100000 in
theorem fnExactPutBlock_lifted (os : Os) (started : os.Started) (H : Type) (enc : TypeId × Value → H) :
    ReturnsInHanded {} Try.checked os 5 .any (Rows.fnExactPutBlockSpec.pre6 enc Try.prog Try.f5 Rows.fnExactPutBlockRow.domain false) (Rows.fnExactPutBlockSpec.post enc Try.prog Try.f5 false true false false) := by
  refine returnsInHanded_of_change (C := Try.checked) fnExactPutBlock_own started (by kernel_rfl) Try.func5
    (ChangeSpec.witness6 (enc := enc) (C := Try.checked) false ⟨#[], #[.agg #[.int .i64 0, .int .i64 0, .int .i64 0, .string ByteArray.empty, .int .i64 0, .int .i64 0, .slice none 0 0, .int .i64 0, .slice none 0 0, .slice none 0 0, .slice none 0 0, .bool false, .slice none 0 0, .string ByteArray.empty]], []⟩ 8 (by kernel_rfl) (by kernel_rfl) (by kernel_rfl) (by kernel_rfl)) ?_
  intro W base args ds gs before hval0 hW hcnd _
  have hval : ∀ (j : Nat) t v, Try.f5.params[j]? = some t → args[j]? = some v → Value.okWide Try.prog W .any base t v := hval0
  have hW' := hW
  obtain ⟨p, q, hA0, hV, rfl, hfz, hnd⟩ := hW
  have hA : DataW.TrodAll enc Try.prog W 0 (fun _ => true) true Try.f5.params.toList args.toList ds p := hA0
  rw [Try.params5] at hA hval
  obtain ⟨v0, vs0, d0, ds0, p0, q0, hargs, rfl, rfl, h0, r0⟩ := trodAll_cons hA
  obtain ⟨rfl, rfl, rfl⟩ := trodAll_nil r0
  obtain rfl : args = #[v0] := by cases args; simp_all
  obtain ⟨rfl, rfl⟩ := trodVars_none hV
  have k0 := h0
  have lt0 : ∀ x ∈ p0, x.block < W.heap.size := by obtain ⟨m, hm⟩ := k0; exact DataW.trod_lt m _ _ _ hm
  obtain ⟨z0, y0, rfl, w0⟩ : ∃ (b : Bk) (v : Bv), v0 = bkV b v ∧ RdK W b v ∧ FitK b := by
    obtain ⟨cs, rfl, hsz⟩ := okWide_struct Try.underlying50 (hval 0 50 _ rfl rfl)
    obtain ⟨fuel, hf⟩ := h0
    obtain ⟨b, v, q, rest⟩ := open_block (by simpa [Value.cells] using hf)
    exact ⟨b, v, by cases cs; simp at q; subst q; rfl, rest⟩
  clear hA0 hval0
  refine (fnExactPutBlock_walk z0 y0 W w0).mono fun e W' ⟨he, bel⟩ => ?_
  subst he
  exact ⟨_, rfl, _, _, _, [], _, [], hW', trodAll_mk1 (shut_bool Try.underlying4 _), (trodAll_cons_mk (Below.trod fnExactPutBlock_laidOut (by kernel_rfl) (of_decide_eq_true (by kernel_rfl)) k0 bel lt0) trodAll_mk0), rfl, bel.frame _, fun h => by cases h⟩

theorem fnExactPutBlock_holds : Rows.FnExactPutBlockSaid :=
  OpenClaim.holds_of_wide 5 Try.f5 rfl rfl rfl rfl rfl rfl rfl ⟨rfl, rfl, rfl, rfl, rfl⟩ rfl rfl rfl rfl rfl (by kernel_rfl) Try.func5 (by kernel_rfl)
    (of_decide_eq_true (by kernel_rfl)) (by unfold Func.isWrapper; first | (rw [if_pos (by decide +kernel)]; kernel_rfl) | (rw [if_neg (by decide +kernel)]; exact ⟨rfl, rfl⟩))
    (fun os started H enc _ => fnExactPutBlock_lifted os started H enc)

end Go.Proofs.Ytlfoaobgdipdlaa
