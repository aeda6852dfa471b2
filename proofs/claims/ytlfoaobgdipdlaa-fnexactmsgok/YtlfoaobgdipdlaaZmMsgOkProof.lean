/- At all words MsgOk of the program answers as the model's MsgOk, and writes into no argument: the law FnExactMsgOk returns true, with no condition. -/
import Derived.Test.YtlfoaobgdipdlaaRows
import Derived.Test.YtlfoaobgdipdlaaZmMgPure
import Derived.Test.YtlfoaobgdipdlaaZmMgSpec
import Derived.Test.YtlfoaobgdipdlaaZmMgOkI
import Derived.WalkKit
import Derived.ProofKit
import Derived.OpenShut
import Derived.ShutString
import Derived.ChangeOld
import Derived.Below
import Derived.SliceStrings
namespace Go.Proofs.Ytlfoaobgdipdlaa
open Go.ChangeShapes Go.WideShapes Go.ChangeAt Go.RowKit
open Go.ChangeMaps (open_string shut_string)
set_option linter.unusedVariables false

theorem fnExactMsgOk_own : ownKnob Try.prog.godebug = none := by kernel_rfl
theorem fnExactMsgOk_laidOut : laidOutB Try.prog = true := by kernel_rfl

theorem RdM.shapes {w : World} {m : Mg} {v : Mv} (h : RdM w m v) : ∃ ab cb aq cq aw cw ah ch, v = ⟨.slice ab m.bs.length cb, .slice aq m.qw.length cq, .slice aw m.tw.length cw, .slice ah m.th.length ch⟩ := by
  obtain ⟨b, q, p, hh⟩ := h
  obtain ⟨vb, vq, vw, vh⟩ := v
  obtain ⟨ab, cb, rfl⟩ := b.shape
  obtain ⟨aq, cq, rfl⟩ := q.shape
  obtain ⟨aw, cw, rfl⟩ := p.shape
  obtain ⟨ah, ch, rfl⟩ := hh.shape
  exact ⟨ab, cb, aq, cq, aw, cw, ah, ch, rfl⟩
theorem load_lm {ops : Array Oper} {rest : List Oper} {op : Oper} {a : Act} {w : World} {Q : Exit → Act → World → Prop} (x : Operand) (ho : op.op = .load 34 x) (B : Nat) (hx : a.eval x = .pointer (some ⟨B, 0, none⟩)) {c0 c1 c2 c3 c4 c5 c6 c7 c8 c9 c10 c11 c12 c13 c14 c15 M : Value} (h : Blk w B 34 [c0, c1, c2, c3, c4, c5, c6, c7, c8, c9, c10, c11, c12, c13, c14, c15]) (hM : Value.agg #[c0, c1, c2, c3, c4, c5, c6, c7, c8, c9, c10, c11, c12, c13, c14, c15] = M)
    (hw : Region.wanted op (yielded ops a.tmps) = true) (hK : wpList Try.prog ops Q rest (a.put op.dst M) w) : wpList Try.prog ops Q (op :: rest) a w := by
  subst hM
  unfold wpList
  rw [if_pos hw]
  exact .inl (wp_load_mid 34 x ho B 0 hx [c0, c1, c2, c3, c4, c5, c6, c7, c8, c9, c10, c11, c12, c13, c14, c15] _ (fun j v hv => by rw [Nat.zero_add]; exact (h.cell j).trans hv) Try.underlying34 rfl (by kernel_rfl) hK)
set_option maxRecDepth 20000 in
set_option maxHeartbeats 4000000 in
theorem fnExactMsgOk_walk (z0 : Mg) (y0 : Mv) (w : World) (w0 : RdM w z0 y0 ∧ FitM z0) :
    Calls Try.prog 3 #[mgV z0 y0] w fun e w' => e = .returned (.bool true) ∧ Below w.heap.size w w' := by
  obtain ⟨hr, hfit⟩ := w0
  have Hz := hide (fun V (hV : Below w.heap.size w V) => szMsg_any z0 y0 1048576 V (hr.below hV (Nat.le_refl _)) (by omega) hfit.b hfit.bs hfit.q hfit.qs hfit.w hfit.ws hfit.h hfit.t hfit.vs hfit.gs)
  have Hfit := hide hfit
  have HT := hide (fun V (hV : Below w.heap.size w V) (hf : FewM z0) => toMsg_any z0 y0 V (hr.below hV (Nat.le_refl _)) hf)
  have HS := hide (fun V (v : Mv) (hv : RdM V z0 v) (hf : FewM z0) => specMsgOk_any z0 v V hv hf)
  have HI := hide (fun V (v : Mv) (hv : RdM V z0 v) (hf : FewM z0) => implMsgOk_any z0 v V hv hf)
  have HE := hide (fun V (v v2 : Mv) (hv : RdM V z0 v) (hv2 : RdM V z0 v2) (hf : FewM z0) => eqMsg_any z0 v v2 V hv hv2 hf)
  generalize msgB z0 = X at HS HI
  obtain ⟨ab, cb, aq, cq, aw, cw, ah, ch, rfl⟩ := hr.shapes
  clear hfit hr
  obtain ⟨kd, tn, ep, bs, vr, vb, vw, gr, gh, gw, qr, qb, qw, tr, tw, th⟩ := z0
  simp only [mgV] at Hz HT HS HI HE ⊢
  obtain ⟨w1, hw1⟩ : ∃ x, w.alloc (.cells #[.int .i64 kd, .string tn, .int .i64 ep, .slice ab bs.length cb, .int .i64 vr, .int .i64 vb, .string vw, .int .i64 gr, .int .i64 gh, .string gw, .int .i64 qr, .int .i64 qb, .slice aq qw.length cq, .int .i64 tr, .slice aw tw.length cw, .slice ah th.length ch] 34) = x := ⟨_, rfl⟩
  have b1 : Below w.heap.size w w1 := by rw [← hw1]; exact (Below.refl _ w).alloc (Nat.le_refl _) _
  have k1 : Blk w1 w.heap.size 34 [.int .i64 kd, .string tn, .int .i64 ep, .slice ab bs.length cb, .int .i64 vr, .int .i64 vb, .string vw, .int .i64 gr, .int .i64 gh, .string gw, .int .i64 qr, .int .i64 qb, .slice aq qw.length cq, .int .i64 tr, .slice aw tw.length cw, .slice ah th.length ch] := by rw [← hw1]; exact Blk.new w _ _
  go_enter Try.func3, Try.ntmps3
  go_upto_region 1 with fail
  (try rw [hw1])
  obtain ⟨M, hM⟩ : ∃ x, Value.agg #[.int .i64 kd, .string tn, .int .i64 ep, .slice ab bs.length cb, .int .i64 vr, .int .i64 vb, .string vw, .int .i64 gr, .int .i64 gh, .string gw, .int .i64 qr, .int .i64 qb, .slice aq qw.length cq, .int .i64 tr, .slice aw tw.length cw, .slice ah th.length ch] = x := ⟨_, rfl⟩
  rw [hM] at Hz HT ⊢
  go_wp2_with (refine load_lm _ rfl w.heap.size rfl k1 hM (by rfl) ?_)
  refine (Hz.out w1 b1).mono ?_
  rintro e w2 ⟨r, rfl, hfew, hb2⟩
  have hB2 := b1.trans (hb2.mono b1.size)
  have k2 := k1.below hb2 k1.lt
  clear hw1 k1 hb2 Hz
  by_cases hneg : r < 0
  · clear hfew
    go_wp2
    go_ret
    exact ⟨rfl, hB2⟩
  have hF := Hfit.out.few (n := 1048576) (by omega) (hfew (by omega))
  have HF := hide hF
  clear hfew Hfit hF
  go_wp2_with (refine load_lm _ rfl w.heap.size rfl k2 hM (by rfl) ?_)
  refine (HT.out w2 hB2 HF.out).mono ?_
  rintro e w3 ⟨v3, rfl, o3, hb3⟩
  have hB3 := hB2.trans (hb3.mono hB2.size)
  have k3 := k2.below hb3 k2.lt
  have r3 := o3.rd
  obtain ⟨ab3, cb3, aq3, cq3, aw3, cw3, ah3, ch3, rfl⟩ := r3.shapes
  simp only
  clear k2 hb3 o3
  go_wp2_with fail
  refine (HS.out w3 _ r3 HF.out).mono ?_
  rintro e w4 ⟨rfl, hb4⟩
  have hB4 := hB3.trans (hb4.mono hB3.size)
  have k4 := k3.below hb4 k3.lt
  clear k3 hb4 r3 HS
  go_wp2_with (refine load_lm _ rfl w.heap.size rfl k4 hM (by rfl) ?_)
  refine (HT.out w4 hB4 HF.out).mono ?_
  rintro e w5 ⟨v5, rfl, o5, hb5⟩
  have hB5 := hB4.trans (hb5.mono hB4.size)
  have k5 := k4.below hb5 k4.lt
  have r5 := o5.rd
  obtain ⟨ab5, cb5, aq5, cq5, aw5, cw5, ah5, ch5, rfl⟩ := r5.shapes
  simp only
  clear k4 hb5 o5
  obtain ⟨w6, hw6⟩ : ∃ x, w5.alloc (.cells #[.int .i64 kd, .string tn, .int .i64 ep, .slice ab5 bs.length cb5, .int .i64 vr, .int .i64 vb, .string vw, .int .i64 gr, .int .i64 gh, .string gw, .int .i64 qr, .int .i64 qb, .slice aq5 qw.length cq5, .int .i64 tr, .slice aw5 tw.length cw5, .slice ah5 th.length ch5] 43) = x := ⟨_, rfl⟩
  have b6 : Below w5.heap.size w5 w6 := by rw [← hw6]; exact (Below.refl _ w5).alloc (Nat.le_refl _) _
  have j6 : Blk w6 w5.heap.size 43 [.int .i64 kd, .string tn, .int .i64 ep, .slice ab5 bs.length cb5, .int .i64 vr, .int .i64 vb, .string vw, .int .i64 gr, .int .i64 gh, .string gw, .int .i64 qr, .int .i64 qb, .slice aq5 qw.length cq5, .int .i64 tr, .slice aw5 tw.length cw5, .slice ah5 th.length ch5] := by rw [← hw6]; exact Blk.new w5 _ _
  have k6 := k5.below b6 k5.lt
  have r6 := r5.below b6 (Nat.le_refl _)
  have hB6 := hB5.trans (b6.mono hB5.size)
  clear k5 r5 b6 hB5
  have Hw6 := hide hw6
  clear hw6
  go_upto_region 7 with fail
  rw [Hw6.out]
  obtain ⟨M5, hM5⟩ : ∃ x, Value.agg #[.int .i64 kd, .string tn, .int .i64 ep, .slice ab5 bs.length cb5, .int .i64 vr, .int .i64 vb, .string vw, .int .i64 gr, .int .i64 gh, .string gw, .int .i64 qr, .int .i64 qb, .slice aq5 qw.length cq5, .int .i64 tr, .slice aw5 tw.length cw5, .slice ah5 th.length ch5] = x := ⟨_, rfl⟩
  have HI6 := hide (HI.out w6 _ r6 HF.out)
  rw [hM5] at HI6 ⊢
  go_wp2_with (refine load_mg _ rfl w5.heap.size rfl j6 hM5 (by rfl) ?_)
  refine HI6.out.mono ?_
  rintro e w7 ⟨rfl, hb7⟩
  have hB7 := hB6.trans (hb7.mono hB6.size)
  have k7 := k6.below hb7 k6.lt
  have j7 := j6.below hb7 j6.lt
  have r7 := r6.below hb7 (Nat.le_refl _)
  clear k6 j6 r6 hb7 Hw6 hB6 HI HI6
  have HSS : Hid (∀ V, Below w7.heap.size w7 V → (V.cell? ⟨w.heap.size, 0, none⟩ = some (.int .i64 kd) ∧ V.cell? ⟨w.heap.size, 1, none⟩ = some (.string tn) ∧ V.cell? ⟨w.heap.size, 2, none⟩ = some (.int .i64 ep) ∧ V.cell? ⟨w.heap.size, 3, none⟩ = some (.slice ab bs.length cb) ∧ V.cell? ⟨w.heap.size, 4, none⟩ = some (.int .i64 vr) ∧ V.cell? ⟨w.heap.size, 5, none⟩ = some (.int .i64 vb) ∧ V.cell? ⟨w.heap.size, 6, none⟩ = some (.string vw) ∧ V.cell? ⟨w.heap.size, 7, none⟩ = some (.int .i64 gr) ∧ V.cell? ⟨w.heap.size, 8, none⟩ = some (.int .i64 gh) ∧ V.cell? ⟨w.heap.size, 9, none⟩ = some (.string gw) ∧ V.cell? ⟨w.heap.size, 10, none⟩ = some (.int .i64 qr) ∧ V.cell? ⟨w.heap.size, 11, none⟩ = some (.int .i64 qb) ∧ V.cell? ⟨w.heap.size, 12, none⟩ = some (.slice aq qw.length cq) ∧ V.cell? ⟨w.heap.size, 13, none⟩ = some (.int .i64 tr) ∧ V.cell? ⟨w.heap.size, 14, none⟩ = some (.slice aw tw.length cw) ∧ V.cell? ⟨w.heap.size, 15, none⟩ = some (.slice ah th.length ch) ∧ V.cell? ⟨w5.heap.size, 0, none⟩ = some (.int .i64 kd) ∧ V.cell? ⟨w5.heap.size, 1, none⟩ = some (.string tn) ∧ V.cell? ⟨w5.heap.size, 2, none⟩ = some (.int .i64 ep) ∧ V.cell? ⟨w5.heap.size, 3, none⟩ = some (.slice ab5 bs.length cb5) ∧ V.cell? ⟨w5.heap.size, 4, none⟩ = some (.int .i64 vr) ∧ V.cell? ⟨w5.heap.size, 5, none⟩ = some (.int .i64 vb) ∧ V.cell? ⟨w5.heap.size, 6, none⟩ = some (.string vw) ∧ V.cell? ⟨w5.heap.size, 7, none⟩ = some (.int .i64 gr) ∧ V.cell? ⟨w5.heap.size, 8, none⟩ = some (.int .i64 gh) ∧ V.cell? ⟨w5.heap.size, 9, none⟩ = some (.string gw) ∧ V.cell? ⟨w5.heap.size, 10, none⟩ = some (.int .i64 qr) ∧ V.cell? ⟨w5.heap.size, 11, none⟩ = some (.int .i64 qb) ∧ V.cell? ⟨w5.heap.size, 12, none⟩ = some (.slice aq5 qw.length cq5) ∧ V.cell? ⟨w5.heap.size, 13, none⟩ = some (.int .i64 tr) ∧ V.cell? ⟨w5.heap.size, 14, none⟩ = some (.slice aw5 tw.length cw5) ∧ V.cell? ⟨w5.heap.size, 15, none⟩ = some (.slice ah5 th.length ch5))) := hide (fun V hV => by
    have kv := k7.below hV k7.lt
    have jv := j7.below hV j7.lt
    exact ⟨kv.cell 0, kv.cell 1, kv.cell 2, kv.cell 3, kv.cell 4, kv.cell 5, kv.cell 6, kv.cell 7, kv.cell 8, kv.cell 9, kv.cell 10, kv.cell 11, kv.cell 12, kv.cell 13, kv.cell 14, kv.cell 15, jv.cell 0, jv.cell 1, jv.cell 2, jv.cell 3, jv.cell 4, jv.cell 5, jv.cell 6, jv.cell 7, jv.cell 8, jv.cell 9, jv.cell 10, jv.cell 11, jv.cell 12, jv.cell 13, jv.cell 14, jv.cell 15⟩)
  have HE5 := hide (fun V (v2 : Mv) (hv : RdM V ⟨kd, tn, ep, bs, vr, vb, vw, gr, gh, gw, qr, qb, qw, tr, tw, th⟩ ⟨.slice ab5 bs.length cb5, .slice aq5 qw.length cq5, .slice aw5 tw.length cw5, .slice ah5 th.length ch5⟩) (hv2 : RdM V ⟨kd, tn, ep, bs, vr, vb, vw, gr, gh, gw, qr, qb, qw, tr, tw, th⟩ v2) => HE.out V _ v2 hv hv2 HF.out)
  rw [hM5] at HE5
  have bD : Below w7.heap.size w7 w7.drew := (Below.refl _ w7).drew
  have HR7 := hide r7
  have HB7 := hide hB7
  have hxx : (X != X) = false := by cases X <;> rfl
  clear k7 j7 r7 hB7
  go_wp2
  go_region_held_law (fun w' => w'.cell? ⟨w.heap.size, 0, none⟩ = some (.int .i64 kd) ∧ w'.cell? ⟨w.heap.size, 1, none⟩ = some (.string tn) ∧ w'.cell? ⟨w.heap.size, 2, none⟩ = some (.int .i64 ep) ∧ w'.cell? ⟨w.heap.size, 3, none⟩ = some (.slice ab bs.length cb) ∧ w'.cell? ⟨w.heap.size, 4, none⟩ = some (.int .i64 vr) ∧ w'.cell? ⟨w.heap.size, 5, none⟩ = some (.int .i64 vb) ∧ w'.cell? ⟨w.heap.size, 6, none⟩ = some (.string vw) ∧ w'.cell? ⟨w.heap.size, 7, none⟩ = some (.int .i64 gr) ∧ w'.cell? ⟨w.heap.size, 8, none⟩ = some (.int .i64 gh) ∧ w'.cell? ⟨w.heap.size, 9, none⟩ = some (.string gw) ∧ w'.cell? ⟨w.heap.size, 10, none⟩ = some (.int .i64 qr) ∧ w'.cell? ⟨w.heap.size, 11, none⟩ = some (.int .i64 qb) ∧ w'.cell? ⟨w.heap.size, 12, none⟩ = some (.slice aq qw.length cq) ∧ w'.cell? ⟨w.heap.size, 13, none⟩ = some (.int .i64 tr) ∧ w'.cell? ⟨w.heap.size, 14, none⟩ = some (.slice aw tw.length cw) ∧ w'.cell? ⟨w.heap.size, 15, none⟩ = some (.slice ah th.length ch) ∧ w'.cell? ⟨w5.heap.size, 0, none⟩ = some (.int .i64 kd) ∧ w'.cell? ⟨w5.heap.size, 1, none⟩ = some (.string tn) ∧ w'.cell? ⟨w5.heap.size, 2, none⟩ = some (.int .i64 ep) ∧ w'.cell? ⟨w5.heap.size, 3, none⟩ = some (.slice ab5 bs.length cb5) ∧ w'.cell? ⟨w5.heap.size, 4, none⟩ = some (.int .i64 vr) ∧ w'.cell? ⟨w5.heap.size, 5, none⟩ = some (.int .i64 vb) ∧ w'.cell? ⟨w5.heap.size, 6, none⟩ = some (.string vw) ∧ w'.cell? ⟨w5.heap.size, 7, none⟩ = some (.int .i64 gr) ∧ w'.cell? ⟨w5.heap.size, 8, none⟩ = some (.int .i64 gh) ∧ w'.cell? ⟨w5.heap.size, 9, none⟩ = some (.string gw) ∧ w'.cell? ⟨w5.heap.size, 10, none⟩ = some (.int .i64 qr) ∧ w'.cell? ⟨w5.heap.size, 11, none⟩ = some (.int .i64 qb) ∧ w'.cell? ⟨w5.heap.size, 12, none⟩ = some (.slice aq5 qw.length cq5) ∧ w'.cell? ⟨w5.heap.size, 13, none⟩ = some (.int .i64 tr) ∧ w'.cell? ⟨w5.heap.size, 14, none⟩ = some (.slice aw5 tw.length cw5) ∧ w'.cell? ⟨w5.heap.size, 15, none⟩ = some (.slice ah5 th.length ch5)) ((refine HSS.out _ ?_; repeat (first | with_reducible exact bD | with_reducible exact c9 | with_reducible exact c8 | with_reducible exact Below.refl _ _ | refine Below.drew ?_)))
    ((first
    | (go_at_call 13; (with_reducible refine (HE5.out _ _ (HR7.out.below c8 (Nat.le_refl _)) r8).mono ?_); rintro e w9 ⟨rfl, hb9⟩; have c9 := c8.trans (hb9.mono c8.size))
    | (go_at_call 11; (with_reducible refine (HT.out _ (HB7.out.trans (bD.mono HB7.out.size)) HF.out).mono ?_); rintro e w8 ⟨v8, rfl, o8, hb8⟩; have r8 := o8.rd; obtain ⟨ab8, cb8, aq8, cq8, aw8, cw8, ah8, ch8, rfl⟩ := r8.shapes; (try simp only); have c8 := bD.trans (hb8.mono bD.size))))
  have hB9 := HB7.out.trans (c9.mono HB7.out.size)
  go_wp2
  go_ret
  exact ⟨rfl, hB9⟩

set_option maxRecDepth 100000 in
theorem fnExactMsgOk_lifted (os : Os) (started : os.Started) (H : Type) (enc : TypeId × Value → H) :
    ReturnsInHanded {} Try.checked os 3 .any (Rows.fnExactMsgOkSpec.pre6 enc Try.prog Try.f3 Rows.fnExactMsgOkRow.domain false) (Rows.fnExactMsgOkSpec.post enc Try.prog Try.f3 false true false false) := by
  refine returnsInHanded_of_change (C := Try.checked) fnExactMsgOk_own started (by kernel_rfl) Try.func3
    (ChangeSpec.witness6 (enc := enc) (C := Try.checked) false ⟨#[], #[.agg #[.int .i64 0, .string ByteArray.empty, .int .i64 0, .slice none 0 0, .int .i64 0, .int .i64 0, .string ByteArray.empty, .int .i64 0, .int .i64 0, .string ByteArray.empty, .int .i64 0, .int .i64 0, .slice none 0 0, .int .i64 0, .slice none 0 0, .slice none 0 0]], []⟩ 8 (by kernel_rfl) (by kernel_rfl) (by kernel_rfl) (by kernel_rfl)) ?_
  intro W base args ds gs before hval0 hW hcnd _
  have hval : ∀ (j : Nat) t v, Try.f3.params[j]? = some t → args[j]? = some v → Value.okWide Try.prog W .any base t v := hval0
  have hW' := hW
  obtain ⟨p, q, hA0, hV, rfl, hfz, hnd⟩ := hW
  have hA : DataW.TrodAll enc Try.prog W 0 (fun _ => true) true Try.f3.params.toList args.toList ds p := hA0
  rw [Try.params3] at hA hval
  obtain ⟨v0, vs0, d0, ds0, p0, q0, hargs, rfl, rfl, h0, r0⟩ := trodAll_cons hA
  obtain ⟨rfl, rfl, rfl⟩ := trodAll_nil r0
  obtain rfl : args = #[v0] := by cases args; simp_all
  obtain ⟨rfl, rfl⟩ := trodVars_none hV
  have k0 := h0
  have lt0 : ∀ x ∈ p0, x.block < W.heap.size := by obtain ⟨m, hm⟩ := k0; exact DataW.trod_lt m _ _ _ hm
  obtain ⟨z0, y0, rfl, w0⟩ : ∃ (m : Mg) (v : Mv), v0 = mgV m v ∧ RdM W m v ∧ FitM m := by
    obtain ⟨cs, rfl, hsz⟩ := okWide_struct Try.underlying34 (hval 0 34 _ rfl rfl)
    obtain ⟨fuel, hf⟩ := h0
    obtain ⟨m, v, q, rest⟩ := open_msg (by simpa [Value.cells] using hf)
    exact ⟨m, v, by cases cs; simp at q; subst q; rfl, rest⟩
  clear hA0 hval0
  refine (fnExactMsgOk_walk z0 y0 W w0).mono fun e W' ⟨he, bel⟩ => ?_
  subst he
  exact ⟨_, rfl, _, _, _, [], _, [], hW', trodAll_mk1 (shut_bool Try.underlying4 _), (trodAll_cons_mk (Below.trod fnExactMsgOk_laidOut (by kernel_rfl) (of_decide_eq_true (by kernel_rfl)) k0 bel lt0) trodAll_mk0), rfl, bel.frame _, fun h => by cases h⟩

theorem fnExactMsgOk_holds : Rows.FnExactMsgOkSaid :=
  OpenClaim.holds_of_wide 3 Try.f3 rfl rfl rfl rfl rfl rfl rfl ⟨rfl, rfl, rfl, rfl, rfl⟩ rfl rfl rfl rfl rfl (by kernel_rfl) Try.func3 (by kernel_rfl)
    (of_decide_eq_true (by kernel_rfl)) (by unfold Func.isWrapper; first | (rw [if_pos (by decide +kernel)]; kernel_rfl) | (rw [if_neg (by decide +kernel)]; exact ⟨rfl, rfl⟩))
    (fun os started H enc _ => fnExactMsgOk_lifted os started H enc)

end Go.Proofs.Ytlfoaobgdipdlaa
