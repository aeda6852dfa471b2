/- At all two blocks SameBlock of the program answers as the model's SameBlock, and writes into no argument: the law FnExactSameBlock returns true, with no condition. -/
import Derived.Test.YtflccenbfeidhabRows
import Derived.Test.YtflccenbfeidhabRow
import Derived.Test.YtflccenbfeidhabBkOpen
import Derived.Test.YtflccenbfeidhabBkTo
import Derived.Test.YtflccenbfeidhabBkEq
import Derived.Test.YtflccenbfeidhabBkSzM
import Derived.Test.YtflccenbfeidhabBkSameS
import Derived.Test.YtflccenbfeidhabBkSameI
import Derived.WalkKit
import Derived.ProofKit
import Derived.OpenShut
import Derived.ShutString
import Derived.ChangeOld
import Derived.Below
import Derived.SliceStrings
namespace Go.Proofs.Ytflccenbfeidhab
open Go.ChangeShapes Go.WideShapes Go.ChangeAt Go.RowKit
open Go.ChangeMaps (open_string shut_string)
set_option linter.unusedVariables false

theorem fnExactSameBlock_own : ownKnob Try.prog.godebug = none := by kernel_rfl
theorem fnExactSameBlock_laidOut : laidOutB Try.prog = true := by kernel_rfl

theorem RdK.shapes {w : World} {b : Bk} {v : Bv} (h : RdK w b v) : ∃ aq cq aw cw ah ch at_ ct an cn, v = ⟨.slice aq b.qw.length cq, .slice aw b.tw.length cw, .slice ah b.th.length ch, .slice at_ b.ts.length ct, .slice an b.nx.length cn⟩ := by
  obtain ⟨q, p, hh, t, n⟩ := h
  obtain ⟨vq, vw, vh, vt, vn⟩ := v
  obtain ⟨aq, cq, rfl⟩ := q.shape
  obtain ⟨aw, cw, rfl⟩ := p.shape
  obtain ⟨ah, ch, rfl⟩ := hh.shape
  obtain ⟨at_, ct, rfl⟩ := t.shape
  obtain ⟨an, cn, rfl⟩ := n.shape
  exact ⟨aq, cq, aw, cw, ah, ch, at_, ct, an, cn, rfl⟩
set_option maxRecDepth 20000 in
set_option maxHeartbeats 8000000 in
theorem fnExactSameBlock_walk (z0 : Bk) (y0 : Bv) (z1 : Bk) (y1 : Bv) (w : World) (w0 : RdK w z0 y0 ∧ FitK z0) (w1 : RdK w z1 y1 ∧ FitK z1) :
    Calls Try.prog 3 #[bkV z0 y0, bkV z1 y1] w fun e w' => e = .returned (.bool true) ∧ Below w.heap.size w w' := by
  obtain ⟨hr, hfit0⟩ := w0
  obtain ⟨hr2, hfit1⟩ := w1
  have HZ := hide (fun V (hV : Below w.heap.size w V) => szBlockM_any z0 y0 1048576 V (hr.below hV (Nat.le_refl _)) (by omega) hfit0.q hfit0.w hfit0.h hfit0.t hfit0.n hfit0.qs hfit0.ws hfit0.ts hfit0.ns hfit0.ms hfit0.rs)
  have HZ2 := hide (fun (m : Nat) (hm : m ≤ 100000000) V (hV : Below w.heap.size w V) => szBlockM_any z1 y1 m V (hr2.below hV (Nat.le_refl _)) hm hfit1.q hfit1.w hfit1.h hfit1.t hfit1.n hfit1.qs hfit1.ws hfit1.ts hfit1.ns hfit1.ms hfit1.rs)
  have HFew : Hid (z0.qw.length ≤ 1048576 ∧ z0.tw.length ≤ 1048576 ∧ z0.th.length ≤ 1048576 ∧ z0.ts.length ≤ 1048576 ∧ z0.nx.length ≤ 1048576 → FewK z0) := hide (fun h => ⟨by omega, by omega, by omega, by omega, by omega, hfit0.qs, hfit0.ws, hfit0.ts, hfit0.ns, hfit0.ms, hfit0.rs⟩)
  have HFew2 : Hid (z1.qw.length ≤ 1048576 ∧ z1.tw.length ≤ 1048576 ∧ z1.th.length ≤ 1048576 ∧ z1.ts.length ≤ 1048576 ∧ z1.nx.length ≤ 1048576 → FewK z1) := hide (fun h => ⟨by omega, by omega, by omega, by omega, by omega, hfit1.qs, hfit1.ws, hfit1.ts, hfit1.ns, hfit1.ms, hfit1.rs⟩)
  have HS := hide (fun (hf : FewK z0) (hf2 : FewK z1) v v2 V (hV : RdK V z0 v) (hV2 : RdK V z1 v2) => specSameBlock_any z0 z1 v v2 V hV hV2 hf hf2)
  have HI := hide (fun (hf : FewK z0) (hf2 : FewK z1) v v2 V (hV : RdK V z0 v) (hV2 : RdK V z1 v2) => implSameBlock_any z0 z1 v v2 V hV hV2 hf hf2)
  have HT := hide (fun (hf : FewK z0) v V (hV : RdK V z0 v) => toBlock_any z0 v V hV hf)
  have HT2 := hide (fun (hf : FewK z1) v V (hV : RdK V z1 v) => toBlock_any z1 v V hV hf)
  have HE := hide (fun (hf : FewK z0) v1 v2 V (h1 : RdK V z0 v1) (h2 : RdK V z0 v2) => eqBlock_any z0 v1 v2 V h1 h2 hf)
  have HE2 := hide (fun (hf : FewK z1) v1 v2 V (h1 : RdK V z1 v1) (h2 : RdK V z1 v2) => eqBlock_any z1 v1 v2 V h1 h2 hf)
  generalize sb9 z0 z1 = X at HS HI
  have Hr := hide hr
  have Hr2 := hide hr2
  obtain ⟨aq, cq, aw, cw, ah, ch, av, cv, an, cn, rfl⟩ := Hr.out.shapes
  obtain ⟨aq2, cq2, aw2, cw2, ah2, ch2, av2, cv2, an2, cn2, rfl⟩ := Hr2.out.shapes
  clear hr hr2 hfit0 hfit1
  obtain ⟨id, ep, rd, mk, qr, qb, qw, tr, tw, th, ts, en, nx, rt⟩ := z0
  obtain ⟨id2, ep2, rd2, mk2, qr2, qb2, qw2, tr2, tw2, th2, ts2, en2, nx2, rt2⟩ := z1
  simp only [bkV] at *
  obtain ⟨w1, hw1⟩ : ∃ x, w.alloc (.cells #[.int .i64 id, .int .i64 ep, .int .i64 rd, .string mk, .int .i64 qr, .int .i64 qb, .slice aq qw.length cq, .int .i64 tr, .slice aw tw.length cw, .slice ah th.length ch, .slice av ts.length cv, .bool en, .slice an nx.length cn, .string rt] 31) = x := ⟨_, rfl⟩
  have b1 : Below w.heap.size w w1 := by rw [← hw1]; exact (Below.refl _ w).alloc (Nat.le_refl _) _
  have k1 : Blk w1 w.heap.size 31 [.int .i64 id, .int .i64 ep, .int .i64 rd, .string mk, .int .i64 qr, .int .i64 qb, .slice aq qw.length cq, .int .i64 tr, .slice aw tw.length cw, .slice ah th.length ch, .slice av ts.length cv, .bool en, .slice an nx.length cn, .string rt] := by rw [← hw1]; exact Blk.new w _ _
  have s1 : w1.heap.size = w.heap.size + 1 := by rw [← hw1]; simp
  obtain ⟨w2, hw2⟩ : ∃ x, w1.alloc (.cells #[.int .i64 id2, .int .i64 ep2, .int .i64 rd2, .string mk2, .int .i64 qr2, .int .i64 qb2, .slice aq2 qw2.length cq2, .int .i64 tr2, .slice aw2 tw2.length cw2, .slice ah2 th2.length ch2, .slice av2 ts2.length cv2, .bool en2, .slice an2 nx2.length cn2, .string rt2] 31) = x := ⟨_, rfl⟩
  have b2 : Below w1.heap.size w1 w2 := by rw [← hw2]; exact (Below.refl _ w1).alloc (Nat.le_refl _) _
  have j2 : Blk w2 (w.heap.size + 1) 31 [.int .i64 id2, .int .i64 ep2, .int .i64 rd2, .string mk2, .int .i64 qr2, .int .i64 qb2, .slice aq2 qw2.length cq2, .int .i64 tr2, .slice aw2 tw2.length cw2, .slice ah2 th2.length ch2, .slice av2 ts2.length cv2, .bool en2, .slice an2 nx2.length cn2, .string rt2] := by rw [← hw2, ← s1]; exact Blk.new w1 _ _
  have hB2 : Below w.heap.size w w2 := b1.trans (b2.mono b1.size)
  have k2 := k1.below b2 (by omega)
  clear k1 b1 b2
  have x0 := k2.cell 0
  have x1 := k2.cell 1
  have x2 := k2.cell 2
  have x3 := k2.cell 3
  have x4 := k2.cell 4
  have x5 := k2.cell 5
  have x6 := k2.cell 6
  have x7 := k2.cell 7
  have x8 := k2.cell 8
  have x9 := k2.cell 9
  have x10 := k2.cell 10
  have x11 := k2.cell 11
  have x12 := k2.cell 12
  have x13 := k2.cell 13
  simp only [List.getElem?_cons_zero, List.getElem?_cons_succ] at x0 x1 x2 x3 x4 x5 x6 x7 x8 x9 x10 x11 x12 x13
  go_enter Try.func3, Try.ntmps3
  go_wp2_with fail
  refine (HZ.out w2 hB2).mono ?_
  rintro e w3 ⟨q, rfl, hfit, hb3⟩
  have hB3 := hB2.trans (hb3.mono hB2.size)
  have k3 := k2.below hb3 k2.lt
  have j3 := j2.below hb3 j2.lt
  clear k2 j2 hb3 hw1 hw2 hB2 s1
  clear x0 x1 x2 x3 x4 x5 x6 x7 x8 x9 x10 x11 x12 x13
  by_cases hneg : q < 0
  · clear hfit
    go_wp2
    go_ret
    exact ⟨rfl, hB3⟩
  obtain ⟨m, hm⟩ : ∃ m : Nat, q = (m : Int) := ⟨q.toNat, by omega⟩
  subst hm
  obtain ⟨g1, g2, g3, g4, g5, g6⟩ := hfit (by omega)
  have hf := HFew.out ⟨g1, g2, g3, g4, g5⟩
  have hm6 : m ≤ 1048576 := by omega
  clear g1 g2 g3 g4 g5 g6 hfit HFew HZ
  have y0 := j3.cell 0
  have y1 := j3.cell 1
  have y2 := j3.cell 2
  have y3 := j3.cell 3
  have y4 := j3.cell 4
  have y5 := j3.cell 5
  have y6 := j3.cell 6
  have y7 := j3.cell 7
  have y8 := j3.cell 8
  have y9 := j3.cell 9
  have y10 := j3.cell 10
  have y11 := j3.cell 11
  have y12 := j3.cell 12
  have y13 := j3.cell 13
  simp only [List.getElem?_cons_zero, List.getElem?_cons_succ] at y0 y1 y2 y3 y4 y5 y6 y7 y8 y9 y10 y11 y12 y13
  go_wp2_with fail
  refine (HZ2.out m (by omega) w3 hB3).mono ?_
  rintro e w4 ⟨q, rfl, hfit, hb4⟩
  have hB4 := hB3.trans (hb4.mono hB3.size)
  have k4 := k3.below hb4 k3.lt
  have j4 := j3.below hb4 j3.lt
  clear k3 j3 hb4 hB3 hneg
  clear y0 y1 y2 y3 y4 y5 y6 y7 y8 y9 y10 y11 y12 y13
  by_cases hneg : q < 0
  · clear hfit hf
    go_wp2
    go_ret
    exact ⟨rfl, hB4⟩
  obtain ⟨g1, g2, g3, g4, g5, g6⟩ := hfit (by omega)
  have hf2 := HFew2.out ⟨by omega, by omega, by omega, by omega, by omega⟩
  have HS := hide (HS.out hf hf2)
  have HI := hide (HI.out hf hf2)
  have HT := hide (HT.out hf)
  have HE := hide (HE.out hf)
  have HT2 := hide (HT2.out hf2)
  have HE2 := hide (HE2.out hf2)
  clear g1 g2 g3 g4 g5 g6 hfit HFew2 HZ2 hf hf2 hm6
  have HSS : Hid (∀ V, Below w4.heap.size w4 V → (V.cell? ⟨w.heap.size, 0, none⟩ = some (.int .i64 id) ∧ V.cell? ⟨w.heap.size, 1, none⟩ = some (.int .i64 ep) ∧ V.cell? ⟨w.heap.size, 2, none⟩ = some (.int .i64 rd) ∧ V.cell? ⟨w.heap.size, 3, none⟩ = some (.string mk) ∧ V.cell? ⟨w.heap.size, 4, none⟩ = some (.int .i64 qr) ∧ V.cell? ⟨w.heap.size, 5, none⟩ = some (.int .i64 qb) ∧ V.cell? ⟨w.heap.size, 6, none⟩ = some (.slice aq qw.length cq) ∧ V.cell? ⟨w.heap.size, 7, none⟩ = some (.int .i64 tr) ∧ V.cell? ⟨w.heap.size, 8, none⟩ = some (.slice aw tw.length cw) ∧ V.cell? ⟨w.heap.size, 9, none⟩ = some (.slice ah th.length ch) ∧ V.cell? ⟨w.heap.size, 10, none⟩ = some (.slice av ts.length cv) ∧ V.cell? ⟨w.heap.size, 11, none⟩ = some (.bool en) ∧ V.cell? ⟨w.heap.size, 12, none⟩ = some (.slice an nx.length cn) ∧ V.cell? ⟨w.heap.size, 13, none⟩ = some (.string rt) ∧ V.cell? ⟨w.heap.size + 1, 0, none⟩ = some (.int .i64 id2) ∧ V.cell? ⟨w.heap.size + 1, 1, none⟩ = some (.int .i64 ep2) ∧ V.cell? ⟨w.heap.size + 1, 2, none⟩ = some (.int .i64 rd2) ∧ V.cell? ⟨w.heap.size + 1, 3, none⟩ = some (.string mk2) ∧ V.cell? ⟨w.heap.size + 1, 4, none⟩ = some (.int .i64 qr2) ∧ V.cell? ⟨w.heap.size + 1, 5, none⟩ = some (.int .i64 qb2) ∧ V.cell? ⟨w.heap.size + 1, 6, none⟩ = some (.slice aq2 qw2.length cq2) ∧ V.cell? ⟨w.heap.size + 1, 7, none⟩ = some (.int .i64 tr2) ∧ V.cell? ⟨w.heap.size + 1, 8, none⟩ = some (.slice aw2 tw2.length cw2) ∧ V.cell? ⟨w.heap.size + 1, 9, none⟩ = some (.slice ah2 th2.length ch2) ∧ V.cell? ⟨w.heap.size + 1, 10, none⟩ = some (.slice av2 ts2.length cv2) ∧ V.cell? ⟨w.heap.size + 1, 11, none⟩ = some (.bool en2) ∧ V.cell? ⟨w.heap.size + 1, 12, none⟩ = some (.slice an2 nx2.length cn2) ∧ V.cell? ⟨w.heap.size + 1, 13, none⟩ = some (.string rt2))) := hide (fun V hv => by have kv := k4.below hv k4.lt; have jv := j4.below hv j4.lt; exact ⟨kv.cell 0, kv.cell 1, kv.cell 2, kv.cell 3, kv.cell 4, kv.cell 5, kv.cell 6, kv.cell 7, kv.cell 8, kv.cell 9, kv.cell 10, kv.cell 11, kv.cell 12, kv.cell 13, jv.cell 0, jv.cell 1, jv.cell 2, jv.cell 3, jv.cell 4, jv.cell 5, jv.cell 6, jv.cell 7, jv.cell 8, jv.cell 9, jv.cell 10, jv.cell 11, jv.cell 12, jv.cell 13⟩)
  have bD : Below w4.heap.size w4 w4.drew := (Below.refl _ w4).drew
  have HB4 := hide hB4
  have K4 := hide k4
  have J4 := hide j4
  clear k4 j4 hB4
  go_wp2
  go_region_held_law (fun w' => w'.cell? ⟨w.heap.size, 0, none⟩ = some (.int .i64 id) ∧ w'.cell? ⟨w.heap.size, 1, none⟩ = some (.int .i64 ep) ∧ w'.cell? ⟨w.heap.size, 2, none⟩ = some (.int .i64 rd) ∧ w'.cell? ⟨w.heap.size, 3, none⟩ = some (.string mk) ∧ w'.cell? ⟨w.heap.size, 4, none⟩ = some (.int .i64 qr) ∧ w'.cell? ⟨w.heap.size, 5, none⟩ = some (.int .i64 qb) ∧ w'.cell? ⟨w.heap.size, 6, none⟩ = some (.slice aq qw.length cq) ∧ w'.cell? ⟨w.heap.size, 7, none⟩ = some (.int .i64 tr) ∧ w'.cell? ⟨w.heap.size, 8, none⟩ = some (.slice aw tw.length cw) ∧ w'.cell? ⟨w.heap.size, 9, none⟩ = some (.slice ah th.length ch) ∧ w'.cell? ⟨w.heap.size, 10, none⟩ = some (.slice av ts.length cv) ∧ w'.cell? ⟨w.heap.size, 11, none⟩ = some (.bool en) ∧ w'.cell? ⟨w.heap.size, 12, none⟩ = some (.slice an nx.length cn) ∧ w'.cell? ⟨w.heap.size, 13, none⟩ = some (.string rt) ∧ w'.cell? ⟨w.heap.size + 1, 0, none⟩ = some (.int .i64 id2) ∧ w'.cell? ⟨w.heap.size + 1, 1, none⟩ = some (.int .i64 ep2) ∧ w'.cell? ⟨w.heap.size + 1, 2, none⟩ = some (.int .i64 rd2) ∧ w'.cell? ⟨w.heap.size + 1, 3, none⟩ = some (.string mk2) ∧ w'.cell? ⟨w.heap.size + 1, 4, none⟩ = some (.int .i64 qr2) ∧ w'.cell? ⟨w.heap.size + 1, 5, none⟩ = some (.int .i64 qb2) ∧ w'.cell? ⟨w.heap.size + 1, 6, none⟩ = some (.slice aq2 qw2.length cq2) ∧ w'.cell? ⟨w.heap.size + 1, 7, none⟩ = some (.int .i64 tr2) ∧ w'.cell? ⟨w.heap.size + 1, 8, none⟩ = some (.slice aw2 tw2.length cw2) ∧ w'.cell? ⟨w.heap.size + 1, 9, none⟩ = some (.slice ah2 th2.length ch2) ∧ w'.cell? ⟨w.heap.size + 1, 10, none⟩ = some (.slice av2 ts2.length cv2) ∧ w'.cell? ⟨w.heap.size + 1, 11, none⟩ = some (.bool en2) ∧ w'.cell? ⟨w.heap.size + 1, 12, none⟩ = some (.slice an2 nx2.length cn2) ∧ w'.cell? ⟨w.heap.size + 1, 13, none⟩ = some (.string rt2)) ((refine HSS.out _ ?_; repeat (first | with_reducible exact c7 | with_reducible exact c6 | with_reducible exact c5 | with_reducible exact bD | with_reducible exact Below.refl _ _ | refine Below.drew ?_))) ((first
    | (go_at_call 5; (with_reducible refine (HS.out _ _ _ (r5.below hb6 (Nat.le_refl _)) r6).mono ?_); rintro e w7 ⟨rfl, hb7⟩; have c7 := c6.trans (hb7.mono c6.size))
    | (go_at_call 6; (with_reducible refine (HT2.out _ _ (Hr2.out.below (HB4.out.trans (c5.mono HB4.out.size)) (Nat.le_refl _))).mono ?_); rintro e w6 ⟨v6, rfl, ho6, hb6⟩; have r6 := ho6.rd; obtain ⟨aq6, cq6, aw6, cw6, ah6, ch6, av6, cv6, an6, cn6, rfl⟩ := r6.shapes; (try simp only); have c6 := c5.trans (hb6.mono c5.size))
    | (go_at_call 6; (with_reducible refine (HT.out _ _ (Hr.out.below (HB4.out.trans (bD.mono HB4.out.size)) (Nat.le_refl _))).mono ?_); rintro e w5 ⟨v5, rfl, ho5, hb5⟩; have r5 := ho5.rd; obtain ⟨aq5, cq5, aw5, cw5, ah5, ch5, av5, cv5, an5, cn5, rfl⟩ := r5.shapes; (try simp only); have c5 := bD.trans (hb5.mono bD.size))))
  have k7 := K4.out.below c7 K4.out.lt
  have j7 := J4.out.below c7 J4.out.lt
  have hB7 := HB4.out.trans (c7.mono HB4.out.size)
  clear HSS bD HB4 K4 J4 c7 c6 c5 hb7 hb6 hb5 ho6 ho5 r6 r5
  have u0 := k7.cell 0
  have u1 := k7.cell 1
  have u2 := k7.cell 2
  have u3 := k7.cell 3
  have u4 := k7.cell 4
  have u5 := k7.cell 5
  have u6 := k7.cell 6
  have u7 := k7.cell 7
  have u8 := k7.cell 8
  have u9 := k7.cell 9
  have u10 := k7.cell 10
  have u11 := k7.cell 11
  have u12 := k7.cell 12
  have u13 := k7.cell 13
  simp only [List.getElem?_cons_zero, List.getElem?_cons_succ] at u0 u1 u2 u3 u4 u5 u6 u7 u8 u9 u10 u11 u12 u13
  go_wp2_with fail
  refine (HT.out _ _ (Hr.out.below hB7 (Nat.le_refl _))).mono ?_
  rintro e w8 ⟨v8, rfl, ho8, hb8⟩
  have hB8 := hB7.trans (hb8.mono hB7.size)
  have k8 := k7.below hb8 k7.lt
  have j8 := j7.below hb8 j7.lt
  have r8 := ho8.rd
  obtain ⟨aq8, cq8, aw8, cw8, ah8, ch8, av8, cv8, an8, cn8, rfl⟩ := r8.shapes
  simp only
  clear u0 u1 u2 u3 u4 u5 u6 u7 u8 u9 u10 u11 u12 u13
  clear k7 j7 hb8 hB7 ho8
  obtain ⟨w9, hw9⟩ : ∃ x, w8.alloc (.cells #[.int .i64 id, .int .i64 ep, .int .i64 rd, .string mk, .int .i64 qr, .int .i64 qb, .slice aq8 qw.length cq8, .int .i64 tr, .slice aw8 tw.length cw8, .slice ah8 th.length ch8, .slice av8 ts.length cv8, .bool en, .slice an8 nx.length cn8, .string rt] 39) = x := ⟨_, rfl⟩
  have b9 : Below w8.heap.size w8 w9 := by rw [← hw9]; exact (Below.refl _ w8).alloc (Nat.le_refl _) _
  have m9 : Blk w9 w8.heap.size 39 [.int .i64 id, .int .i64 ep, .int .i64 rd, .string mk, .int .i64 qr, .int .i64 qb, .slice aq8 qw.length cq8, .int .i64 tr, .slice aw8 tw.length cw8, .slice ah8 th.length ch8, .slice av8 ts.length cv8, .bool en, .slice an8 nx.length cn8, .string rt] := by rw [← hw9]; exact Blk.new w8 _ _
  have k9 := k8.below b9 k8.lt
  have j9 := j8.below b9 j8.lt
  have r9 := r8.below b9 (Nat.le_refl _)
  have hB9 := hB8.trans (b9.mono hB8.size)
  clear k8 j8 r8 b9 hB8
  have d0 := j9.cell 0
  have d1 := j9.cell 1
  have d2 := j9.cell 2
  have d3 := j9.cell 3
  have d4 := j9.cell 4
  have d5 := j9.cell 5
  have d6 := j9.cell 6
  have d7 := j9.cell 7
  have d8 := j9.cell 8
  have d9 := j9.cell 9
  have d10 := j9.cell 10
  have d11 := j9.cell 11
  have d12 := j9.cell 12
  have d13 := j9.cell 13
  simp only [List.getElem?_cons_zero, List.getElem?_cons_succ] at d0 d1 d2 d3 d4 d5 d6 d7 d8 d9 d10 d11 d12 d13
  go_wp2_with fail
  refine (HT2.out _ _ (Hr2.out.below hB9 (Nat.le_refl _))).mono ?_
  rintro e w10 ⟨v10, rfl, ho10, hb10⟩
  have hB10 := hB9.trans (hb10.mono hB9.size)
  have k10 := k9.below hb10 k9.lt
  have j10 := j9.below hb10 j9.lt
  have m10 := m9.below hb10 m9.lt
  have r10 := r9.below hb10 (Nat.le_refl _)
  have t10 := ho10.rd
  obtain ⟨aq10, cq10, aw10, cw10, ah10, ch10, av10, cv10, an10, cn10, rfl⟩ := t10.shapes
  simp only
  clear d0 d1 d2 d3 d4 d5 d6 d7 d8 d9 d10 d11 d12 d13
  clear k9 j9 m9 r9 hb10 hB9 ho10 hw9
  obtain ⟨w11, hw11⟩ : ∃ x, w10.alloc (.cells #[.int .i64 id2, .int .i64 ep2, .int .i64 rd2, .string mk2, .int .i64 qr2, .int .i64 qb2, .slice aq10 qw2.length cq10, .int .i64 tr2, .slice aw10 tw2.length cw10, .slice ah10 th2.length ch10, .slice av10 ts2.length cv10, .bool en2, .slice an10 nx2.length cn10, .string rt2] 39) = x := ⟨_, rfl⟩
  have b11 : Below w10.heap.size w10 w11 := by rw [← hw11]; exact (Below.refl _ w10).alloc (Nat.le_refl _) _
  have n11 : Blk w11 w10.heap.size 39 [.int .i64 id2, .int .i64 ep2, .int .i64 rd2, .string mk2, .int .i64 qr2, .int .i64 qb2, .slice aq10 qw2.length cq10, .int .i64 tr2, .slice aw10 tw2.length cw10, .slice ah10 th2.length ch10, .slice av10 ts2.length cv10, .bool en2, .slice an10 nx2.length cn10, .string rt2] := by rw [← hw11]; exact Blk.new w10 _ _
  have k11 := k10.below b11 k10.lt
  have j11 := j10.below b11 j10.lt
  have m11 := m10.below b11 m10.lt
  have r11 := r10.below b11 (Nat.le_refl _)
  have t11 := t10.below b11 (Nat.le_refl _)
  have hB11 := hB10.trans (b11.mono hB10.size)
  clear k10 j10 m10 r10 t10 b11 hB10
  have p0 := m11.cell 0
  have p1 := m11.cell 1
  have p2 := m11.cell 2
  have p3 := m11.cell 3
  have p4 := m11.cell 4
  have p5 := m11.cell 5
  have p6 := m11.cell 6
  have p7 := m11.cell 7
  have p8 := m11.cell 8
  have p9 := m11.cell 9
  have p10 := m11.cell 10
  have p11 := m11.cell 11
  have p12 := m11.cell 12
  have p13 := m11.cell 13
  simp only [List.getElem?_cons_zero, List.getElem?_cons_succ] at p0 p1 p2 p3 p4 p5 p6 p7 p8 p9 p10 p11 p12 p13
  have q0 := n11.cell 0
  have q1 := n11.cell 1
  have q2 := n11.cell 2
  have q3 := n11.cell 3
  have q4 := n11.cell 4
  have q5 := n11.cell 5
  have q6 := n11.cell 6
  have q7 := n11.cell 7
  have q8 := n11.cell 8
  have q9 := n11.cell 9
  have q10 := n11.cell 10
  have q11 := n11.cell 11
  have q12 := n11.cell 12
  have q13 := n11.cell 13
  simp only [List.getElem?_cons_zero, List.getElem?_cons_succ] at q0 q1 q2 q3 q4 q5 q6 q7 q8 q9 q10 q11 q12 q13
  go_wp2_with fail
  refine (HI.out _ _ _ r11 t11).mono ?_
  rintro e w12 ⟨rfl, hb12⟩
  have hB12 := hB11.trans (hb12.mono hB11.size)
  have k12 := k11.below hb12 k11.lt
  have j12 := j11.below hb12 j11.lt
  have m12 := m11.below hb12 m11.lt
  have n12 := n11.below hb12 n11.lt
  have r12 := r11.below hb12 (Nat.le_refl _)
  have t12 := t11.below hb12 (Nat.le_refl _)
  clear p0 p1 p2 p3 p4 p5 p6 p7 p8 p9 p10 p11 p12 p13
  clear q0 q1 q2 q3 q4 q5 q6 q7 q8 q9 q10 q11 q12 q13
  clear k11 j11 m11 n11 r11 t11 hb12 hB11 hw11
  have HSS : Hid (∀ V, Below w12.heap.size w12 V → (V.cell? ⟨w.heap.size, 0, none⟩ = some (.int .i64 id) ∧ V.cell? ⟨w.heap.size, 1, none⟩ = some (.int .i64 ep) ∧ V.cell? ⟨w.heap.size, 2, none⟩ = some (.int .i64 rd) ∧ V.cell? ⟨w.heap.size, 3, none⟩ = some (.string mk) ∧ V.cell? ⟨w.heap.size, 4, none⟩ = some (.int .i64 qr) ∧ V.cell? ⟨w.heap.size, 5, none⟩ = some (.int .i64 qb) ∧ V.cell? ⟨w.heap.size, 6, none⟩ = some (.slice aq qw.length cq) ∧ V.cell? ⟨w.heap.size, 7, none⟩ = some (.int .i64 tr) ∧ V.cell? ⟨w.heap.size, 8, none⟩ = some (.slice aw tw.length cw) ∧ V.cell? ⟨w.heap.size, 9, none⟩ = some (.slice ah th.length ch) ∧ V.cell? ⟨w.heap.size, 10, none⟩ = some (.slice av ts.length cv) ∧ V.cell? ⟨w.heap.size, 11, none⟩ = some (.bool en) ∧ V.cell? ⟨w.heap.size, 12, none⟩ = some (.slice an nx.length cn) ∧ V.cell? ⟨w.heap.size, 13, none⟩ = some (.string rt) ∧ V.cell? ⟨w8.heap.size, 0, none⟩ = some (.int .i64 id) ∧ V.cell? ⟨w8.heap.size, 1, none⟩ = some (.int .i64 ep) ∧ V.cell? ⟨w8.heap.size, 2, none⟩ = some (.int .i64 rd) ∧ V.cell? ⟨w8.heap.size, 3, none⟩ = some (.string mk) ∧ V.cell? ⟨w8.heap.size, 4, none⟩ = some (.int .i64 qr) ∧ V.cell? ⟨w8.heap.size, 5, none⟩ = some (.int .i64 qb) ∧ V.cell? ⟨w8.heap.size, 6, none⟩ = some (.slice aq8 qw.length cq8) ∧ V.cell? ⟨w8.heap.size, 7, none⟩ = some (.int .i64 tr) ∧ V.cell? ⟨w8.heap.size, 8, none⟩ = some (.slice aw8 tw.length cw8) ∧ V.cell? ⟨w8.heap.size, 9, none⟩ = some (.slice ah8 th.length ch8) ∧ V.cell? ⟨w8.heap.size, 10, none⟩ = some (.slice av8 ts.length cv8) ∧ V.cell? ⟨w8.heap.size, 11, none⟩ = some (.bool en) ∧ V.cell? ⟨w8.heap.size, 12, none⟩ = some (.slice an8 nx.length cn8) ∧ V.cell? ⟨w8.heap.size, 13, none⟩ = some (.string rt))) := hide (fun V hv => by have kv := k12.below hv k12.lt; have mv := m12.below hv m12.lt; exact ⟨kv.cell 0, kv.cell 1, kv.cell 2, kv.cell 3, kv.cell 4, kv.cell 5, kv.cell 6, kv.cell 7, kv.cell 8, kv.cell 9, kv.cell 10, kv.cell 11, kv.cell 12, kv.cell 13, mv.cell 0, mv.cell 1, mv.cell 2, mv.cell 3, mv.cell 4, mv.cell 5, mv.cell 6, mv.cell 7, mv.cell 8, mv.cell 9, mv.cell 10, mv.cell 11, mv.cell 12, mv.cell 13⟩)
  have bD : Below w12.heap.size w12 w12.drew := (Below.refl _ w12).drew
  have HR12 := hide r12
  have HB12 := hide hB12
  have HT12 := hide t12
  have J12 := hide j12
  have N12 := hide n12
  clear k12 j12 m12 n12 r12 t12 hB12
  go_wp2
  go_region_held_law (fun w' => w'.cell? ⟨w.heap.size, 0, none⟩ = some (.int .i64 id) ∧ w'.cell? ⟨w.heap.size, 1, none⟩ = some (.int .i64 ep) ∧ w'.cell? ⟨w.heap.size, 2, none⟩ = some (.int .i64 rd) ∧ w'.cell? ⟨w.heap.size, 3, none⟩ = some (.string mk) ∧ w'.cell? ⟨w.heap.size, 4, none⟩ = some (.int .i64 qr) ∧ w'.cell? ⟨w.heap.size, 5, none⟩ = some (.int .i64 qb) ∧ w'.cell? ⟨w.heap.size, 6, none⟩ = some (.slice aq qw.length cq) ∧ w'.cell? ⟨w.heap.size, 7, none⟩ = some (.int .i64 tr) ∧ w'.cell? ⟨w.heap.size, 8, none⟩ = some (.slice aw tw.length cw) ∧ w'.cell? ⟨w.heap.size, 9, none⟩ = some (.slice ah th.length ch) ∧ w'.cell? ⟨w.heap.size, 10, none⟩ = some (.slice av ts.length cv) ∧ w'.cell? ⟨w.heap.size, 11, none⟩ = some (.bool en) ∧ w'.cell? ⟨w.heap.size, 12, none⟩ = some (.slice an nx.length cn) ∧ w'.cell? ⟨w.heap.size, 13, none⟩ = some (.string rt) ∧ w'.cell? ⟨w8.heap.size, 0, none⟩ = some (.int .i64 id) ∧ w'.cell? ⟨w8.heap.size, 1, none⟩ = some (.int .i64 ep) ∧ w'.cell? ⟨w8.heap.size, 2, none⟩ = some (.int .i64 rd) ∧ w'.cell? ⟨w8.heap.size, 3, none⟩ = some (.string mk) ∧ w'.cell? ⟨w8.heap.size, 4, none⟩ = some (.int .i64 qr) ∧ w'.cell? ⟨w8.heap.size, 5, none⟩ = some (.int .i64 qb) ∧ w'.cell? ⟨w8.heap.size, 6, none⟩ = some (.slice aq8 qw.length cq8) ∧ w'.cell? ⟨w8.heap.size, 7, none⟩ = some (.int .i64 tr) ∧ w'.cell? ⟨w8.heap.size, 8, none⟩ = some (.slice aw8 tw.length cw8) ∧ w'.cell? ⟨w8.heap.size, 9, none⟩ = some (.slice ah8 th.length ch8) ∧ w'.cell? ⟨w8.heap.size, 10, none⟩ = some (.slice av8 ts.length cv8) ∧ w'.cell? ⟨w8.heap.size, 11, none⟩ = some (.bool en) ∧ w'.cell? ⟨w8.heap.size, 12, none⟩ = some (.slice an8 nx.length cn8) ∧ w'.cell? ⟨w8.heap.size, 13, none⟩ = some (.string rt)) ((refine HSS.out _ ?_; repeat (first | with_reducible exact bD | with_reducible exact c14 | with_reducible exact c13 | with_reducible exact Below.refl _ _ | refine Below.drew ?_))) ((first
    | (go_at_call 8; (with_reducible refine (HE.out _ _ _ (HR12.out.below c13 (Nat.le_refl _)) r13).mono ?_); rintro e w14 ⟨rfl, hb14⟩; have c14 := c13.trans (hb14.mono c13.size))
    | (go_at_call 6; (with_reducible refine (HT.out _ _ (Hr.out.below (HB12.out.trans (bD.mono HB12.out.size)) (Nat.le_refl _))).mono ?_); rintro e w13 ⟨v13, rfl, ho13, hb13⟩; have r13 := ho13.rd; obtain ⟨aq13, cq13, aw13, cw13, ah13, ch13, av13, cv13, an13, cn13, rfl⟩ := r13.shapes; (try simp only); have c13 := bD.trans (hb13.mono bD.size))))
  have hB14 := HB12.out.trans (c14.mono HB12.out.size)
  have j14 := J12.out.below c14 J12.out.lt
  have n14 := N12.out.below c14 N12.out.lt
  have t14 := HT12.out.below c14 (Nat.le_refl _)
  clear HSS bD HR12 HB12 HT12 J12 N12 c14 c13 hb14 hb13 ho13 r13
  have HSS : Hid (∀ V, Below w14.heap.size w14 V → (V.cell? ⟨w.heap.size + 1, 0, none⟩ = some (.int .i64 id2) ∧ V.cell? ⟨w.heap.size + 1, 1, none⟩ = some (.int .i64 ep2) ∧ V.cell? ⟨w.heap.size + 1, 2, none⟩ = some (.int .i64 rd2) ∧ V.cell? ⟨w.heap.size + 1, 3, none⟩ = some (.string mk2) ∧ V.cell? ⟨w.heap.size + 1, 4, none⟩ = some (.int .i64 qr2) ∧ V.cell? ⟨w.heap.size + 1, 5, none⟩ = some (.int .i64 qb2) ∧ V.cell? ⟨w.heap.size + 1, 6, none⟩ = some (.slice aq2 qw2.length cq2) ∧ V.cell? ⟨w.heap.size + 1, 7, none⟩ = some (.int .i64 tr2) ∧ V.cell? ⟨w.heap.size + 1, 8, none⟩ = some (.slice aw2 tw2.length cw2) ∧ V.cell? ⟨w.heap.size + 1, 9, none⟩ = some (.slice ah2 th2.length ch2) ∧ V.cell? ⟨w.heap.size + 1, 10, none⟩ = some (.slice av2 ts2.length cv2) ∧ V.cell? ⟨w.heap.size + 1, 11, none⟩ = some (.bool en2) ∧ V.cell? ⟨w.heap.size + 1, 12, none⟩ = some (.slice an2 nx2.length cn2) ∧ V.cell? ⟨w.heap.size + 1, 13, none⟩ = some (.string rt2) ∧ V.cell? ⟨w10.heap.size, 0, none⟩ = some (.int .i64 id2) ∧ V.cell? ⟨w10.heap.size, 1, none⟩ = some (.int .i64 ep2) ∧ V.cell? ⟨w10.heap.size, 2, none⟩ = some (.int .i64 rd2) ∧ V.cell? ⟨w10.heap.size, 3, none⟩ = some (.string mk2) ∧ V.cell? ⟨w10.heap.size, 4, none⟩ = some (.int .i64 qr2) ∧ V.cell? ⟨w10.heap.size, 5, none⟩ = some (.int .i64 qb2) ∧ V.cell? ⟨w10.heap.size, 6, none⟩ = some (.slice aq10 qw2.length cq10) ∧ V.cell? ⟨w10.heap.size, 7, none⟩ = some (.int .i64 tr2) ∧ V.cell? ⟨w10.heap.size, 8, none⟩ = some (.slice aw10 tw2.length cw10) ∧ V.cell? ⟨w10.heap.size, 9, none⟩ = some (.slice ah10 th2.length ch10) ∧ V.cell? ⟨w10.heap.size, 10, none⟩ = some (.slice av10 ts2.length cv10) ∧ V.cell? ⟨w10.heap.size, 11, none⟩ = some (.bool en2) ∧ V.cell? ⟨w10.heap.size, 12, none⟩ = some (.slice an10 nx2.length cn10) ∧ V.cell? ⟨w10.heap.size, 13, none⟩ = some (.string rt2))) := hide (fun V hv => by have jv := j14.below hv j14.lt; have nv := n14.below hv n14.lt; exact ⟨jv.cell 0, jv.cell 1, jv.cell 2, jv.cell 3, jv.cell 4, jv.cell 5, jv.cell 6, jv.cell 7, jv.cell 8, jv.cell 9, jv.cell 10, jv.cell 11, jv.cell 12, jv.cell 13, nv.cell 0, nv.cell 1, nv.cell 2, nv.cell 3, nv.cell 4, nv.cell 5, nv.cell 6, nv.cell 7, nv.cell 8, nv.cell 9, nv.cell 10, nv.cell 11, nv.cell 12, nv.cell 13⟩)
  have bD : Below w14.heap.size w14 w14.drew := (Below.refl _ w14).drew
  have HR14 := hide t14
  have HB14 := hide hB14
  clear j14 n14 t14 hB14
  go_wp2
  go_region_held_law (fun w' => w'.cell? ⟨w.heap.size + 1, 0, none⟩ = some (.int .i64 id2) ∧ w'.cell? ⟨w.heap.size + 1, 1, none⟩ = some (.int .i64 ep2) ∧ w'.cell? ⟨w.heap.size + 1, 2, none⟩ = some (.int .i64 rd2) ∧ w'.cell? ⟨w.heap.size + 1, 3, none⟩ = some (.string mk2) ∧ w'.cell? ⟨w.heap.size + 1, 4, none⟩ = some (.int .i64 qr2) ∧ w'.cell? ⟨w.heap.size + 1, 5, none⟩ = some (.int .i64 qb2) ∧ w'.cell? ⟨w.heap.size + 1, 6, none⟩ = some (.slice aq2 qw2.length cq2) ∧ w'.cell? ⟨w.heap.size + 1, 7, none⟩ = some (.int .i64 tr2) ∧ w'.cell? ⟨w.heap.size + 1, 8, none⟩ = some (.slice aw2 tw2.length cw2) ∧ w'.cell? ⟨w.heap.size + 1, 9, none⟩ = some (.slice ah2 th2.length ch2) ∧ w'.cell? ⟨w.heap.size + 1, 10, none⟩ = some (.slice av2 ts2.length cv2) ∧ w'.cell? ⟨w.heap.size + 1, 11, none⟩ = some (.bool en2) ∧ w'.cell? ⟨w.heap.size + 1, 12, none⟩ = some (.slice an2 nx2.length cn2) ∧ w'.cell? ⟨w.heap.size + 1, 13, none⟩ = some (.string rt2) ∧ w'.cell? ⟨w10.heap.size, 0, none⟩ = some (.int .i64 id2) ∧ w'.cell? ⟨w10.heap.size, 1, none⟩ = some (.int .i64 ep2) ∧ w'.cell? ⟨w10.heap.size, 2, none⟩ = some (.int .i64 rd2) ∧ w'.cell? ⟨w10.heap.size, 3, none⟩ = some (.string mk2) ∧ w'.cell? ⟨w10.heap.size, 4, none⟩ = some (.int .i64 qr2) ∧ w'.cell? ⟨w10.heap.size, 5, none⟩ = some (.int .i64 qb2) ∧ w'.cell? ⟨w10.heap.size, 6, none⟩ = some (.slice aq10 qw2.length cq10) ∧ w'.cell? ⟨w10.heap.size, 7, none⟩ = some (.int .i64 tr2) ∧ w'.cell? ⟨w10.heap.size, 8, none⟩ = some (.slice aw10 tw2.length cw10) ∧ w'.cell? ⟨w10.heap.size, 9, none⟩ = some (.slice ah10 th2.length ch10) ∧ w'.cell? ⟨w10.heap.size, 10, none⟩ = some (.slice av10 ts2.length cv10) ∧ w'.cell? ⟨w10.heap.size, 11, none⟩ = some (.bool en2) ∧ w'.cell? ⟨w10.heap.size, 12, none⟩ = some (.slice an10 nx2.length cn10) ∧ w'.cell? ⟨w10.heap.size, 13, none⟩ = some (.string rt2)) ((refine HSS.out _ ?_; repeat (first | with_reducible exact bD | with_reducible exact c16 | with_reducible exact c15 | with_reducible exact Below.refl _ _ | refine Below.drew ?_))) ((first
    | (go_at_call 8; (with_reducible refine (HE2.out _ _ _ (HR14.out.below c15 (Nat.le_refl _)) r15).mono ?_); rintro e w16 ⟨rfl, hb16⟩; have c16 := c15.trans (hb16.mono c15.size))
    | (go_at_call 6; (with_reducible refine (HT2.out _ _ (Hr2.out.below (HB14.out.trans (bD.mono HB14.out.size)) (Nat.le_refl _))).mono ?_); rintro e w15 ⟨v15, rfl, ho15, hb15⟩; have r15 := ho15.rd; obtain ⟨aq15, cq15, aw15, cw15, ah15, ch15, av15, cv15, an15, cn15, rfl⟩ := r15.shapes; (try simp only); have c15 := bD.trans (hb15.mono bD.size))))
  have hB16 := HB14.out.trans (c16.mono HB14.out.size)
  go_wp2
  go_ret
  exact ⟨rfl, hB16⟩

set_option maxRecDepth 100000 in
theorem fnExactSameBlock_lifted (os : Os) (started : os.Started) (H : Type) (enc : TypeId × Value → H) :
    ReturnsInHanded {} Try.checked os 3 .any (Rows.fnExactSameBlockSpec.pre6 enc Try.prog Try.f3 Rows.fnExactSameBlockRow.domain false) (Rows.fnExactSameBlockSpec.post enc Try.prog Try.f3 false true false false) := by
  refine returnsInHanded_of_change (C := Try.checked) fnExactSameBlock_own started (by kernel_rfl) Try.func3
    (ChangeSpec.witness6 (enc := enc) (C := Try.checked) false ⟨#[], #[.agg #[.int .i64 0, .int .i64 0, .int .i64 0, .string ByteArray.empty, .int .i64 0, .int .i64 0, .slice none 0 0, .int .i64 0, .slice none 0 0, .slice none 0 0, .slice none 0 0, .bool false, .slice none 0 0, .string ByteArray.empty], .agg #[.int .i64 0, .int .i64 0, .int .i64 0, .string ByteArray.empty, .int .i64 0, .int .i64 0, .slice none 0 0, .int .i64 0, .slice none 0 0, .slice none 0 0, .slice none 0 0, .bool false, .slice none 0 0, .string ByteArray.empty]], []⟩ 8 (by kernel_rfl) (by kernel_rfl) (by kernel_rfl) (by kernel_rfl)) ?_
  intro W base args ds gs before hval0 hW hcnd _
  have hval : ∀ (j : Nat) t v, Try.f3.params[j]? = some t → args[j]? = some v → Value.okWide Try.prog W .any base t v := hval0
  have hW' := hW
  obtain ⟨p, q, hA0, hV, rfl, hfz, hnd⟩ := hW
  have hA : DataW.TrodAll enc Try.prog W 0 (fun _ => true) true Try.f3.params.toList args.toList ds p := hA0
  rw [Try.params3] at hA hval
  obtain ⟨v0, vs0, d0, ds0, p0, q0, hargs, rfl, rfl, h0, r0⟩ := trodAll_cons hA
  obtain ⟨v1, vs1, d1, ds1, p1, q1, rfl, rfl, rfl, h1, r1⟩ := trodAll_cons r0
  obtain ⟨rfl, rfl, rfl⟩ := trodAll_nil r1
  obtain rfl : args = #[v0, v1] := by cases args; simp_all
  obtain ⟨rfl, rfl⟩ := trodVars_none hV
  have k0 := h0
  have lt0 : ∀ x ∈ p0, x.block < W.heap.size := by obtain ⟨m, hm⟩ := k0; exact DataW.trod_lt m _ _ _ hm
  obtain ⟨z0, y0, rfl, w0⟩ : ∃ (b : Bk) (v : Bv), v0 = bkV b v ∧ RdK W b v ∧ FitK b := by
    obtain ⟨cs, rfl, hsz⟩ := okWide_struct Try.underlying31 (hval 0 31 _ rfl rfl)
    obtain ⟨fuel, hf⟩ := h0
    obtain ⟨b, v, q, rest⟩ := open_block (by simpa [Value.cells] using hf)
    exact ⟨b, v, by cases cs; simp at q; subst q; rfl, rest⟩
  have k1 := h1
  have lt1 : ∀ x ∈ p1, x.block < W.heap.size := by obtain ⟨m, hm⟩ := k1; exact DataW.trod_lt m _ _ _ hm
  obtain ⟨z1, y1, rfl, w1⟩ : ∃ (b : Bk) (v : Bv), v1 = bkV b v ∧ RdK W b v ∧ FitK b := by
    obtain ⟨cs, rfl, hsz⟩ := okWide_struct Try.underlying31 (hval 1 31 _ rfl rfl)
    obtain ⟨fuel, hf⟩ := h1
    obtain ⟨b, v, q, rest⟩ := open_block (by simpa [Value.cells] using hf)
    exact ⟨b, v, by cases cs; simp at q; subst q; rfl, rest⟩
  clear hA0 hval0
  refine (fnExactSameBlock_walk z0 y0 z1 y1 W w0 w1).mono fun e W' ⟨he, bel⟩ => ?_
  subst he
  exact ⟨_, rfl, _, _, _, [], _, [], hW', trodAll_mk1 (shut_bool Try.underlying4 _), (trodAll_cons_mk (Below.trod fnExactSameBlock_laidOut (by kernel_rfl) (of_decide_eq_true (by kernel_rfl)) k0 bel lt0) (trodAll_cons_mk (Below.trod fnExactSameBlock_laidOut (by kernel_rfl) (of_decide_eq_true (by kernel_rfl)) k1 bel lt1) trodAll_mk0)), rfl, bel.frame _, fun h => by cases h⟩

theorem fnExactSameBlock_holds : Rows.FnExactSameBlockSaid :=
  OpenClaim.holds_of_wide 3 Try.f3 rfl rfl rfl rfl rfl rfl rfl ⟨rfl, rfl, rfl, rfl, rfl⟩ rfl rfl rfl rfl rfl (by kernel_rfl) Try.func3 (by kernel_rfl)
    (of_decide_eq_true (by kernel_rfl)) (by unfold Func.isWrapper; first | (rw [if_pos (by decide +kernel)]; kernel_rfl) | (rw [if_neg (by decide +kernel)]; exact ⟨rfl, rfl⟩))
    (fun os started H enc _ => fnExactSameBlock_lifted os started H enc)

end Go.Proofs.Ytflccenbfeidhab
