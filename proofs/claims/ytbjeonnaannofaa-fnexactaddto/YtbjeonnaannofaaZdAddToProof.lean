/- At all lists of blocks and all blocks AddTo of the program answers as the model's AddTo, writes into no argument, and its answer owns its memory: the law FnExactAddTo returns true, with no condition. -/
import Derived.Test.YtbjeonnaannofaaRows
import Derived.Test.YtbjeonnaannofaaZdKsOpen
import Derived.Test.YtbjeonnaannofaaZdKsEq
import Derived.Test.YtbjeonnaannofaaZdKsSz
import Derived.Test.YtbjeonnaannofaaZdKsMark
import Derived.Test.YtbjeonnaannofaaZdAppS
import Derived.Test.YtbjeonnaannofaaZdBkToD
import Derived.Test.YtbjeonnaannofaaZdKsAdd
import Derived.Test.YtbjeonnaannofaaZdAdCodeT
import Derived.Test.YtbjeonnaannofaaZdKsHeld
import Derived.WalkKit
import Derived.ProofKit
import Derived.OpenShut
import Derived.ShutString
import Derived.ChangeOld
import Derived.Below
import Derived.SliceStrings
namespace Go.Proofs.Ytbjeonnaannofaa
open Go.ChangeShapes Go.WideShapes Go.ChangeAt Go.RowKit
open Go.ChangeMaps (open_string shut_string)
set_option linter.unusedVariables false

theorem fnExactAddTo_own : ownKnob Try.prog.godebug = none := by kernel_rfl
theorem fnExactAddTo_laidOut : laidOutB Try.prog = true := by kernel_rfl

theorem totM_sumA (l : List Bk) : totM l ≤ 9 * l.length + 5 * totK l := by
  induction l with
  | nil => simp [totM]
  | cons b l ih =>
    have e1 : totM (b :: l) = mkN b + totM l := by simp [totM]
    have e2 : totK (b :: l) = wgK b + totK l := by simp [totK]
    rw [e1, e2, List.length_cons]
    unfold mkN wgK
    omega
theorem fewN_ofA {l : List Bk} (h : ∀ q ∈ l, FitK q) (hm : totK l ≤ 1048576) : ∀ b ∈ l, FewK b := fun b hb => by
  have f := h b hb
  have m := totK_at l b hb
  unfold wgK at m
  exact ⟨by omega, by omega, by omega, by omega, by omega, f.qs, f.ws, f.ts, f.ns, f.ms, f.rs⟩
theorem OwnK.othA {S : Nat → Prop} {base : Nat} {w w' : World} {b : Bk} {v : Bv} (h : OwnK base w b v) (hO : Oth S w w') (hn : ∀ g, v.has g → ¬ S g) : OwnK base w' b v :=
  ⟨row_oth h.q hO (fun g e => hn g (.inl e)), row_oth h.p hO (fun g e => hn g (.inr (.inl e))), row_oth h.h hO (fun g e => hn g (.inr (.inr (.inl e)))), row_oth h.t hO (fun g e => hn g (.inr (.inr (.inr (.inl e))))), row_oth h.n hO (fun g e => hn g (.inr (.inr (.inr (.inr e)))))⟩
theorem OwnKs.othA {S : Nat → Prop} {base : Nat} {w w' : World} {v : Value} {l : List Bk} (h : OwnKs base w v l) (hO : Oth S w w') (hn : ∀ g, base ≤ g → g < w.heap.size → ¬ S g) : OwnKs base w' v l := by
  obtain ⟨g, cap, Z, hZ, rfl, hr, hk⟩ := h
  refine ⟨g, cap, Z, hZ, rfl, row_oth hr hO (fun x hx => ?_), ?_⟩
  · have := World.ownsRow.lt hr x hx
    exact hn x this.1 this.2
  · exact ⟨fun i hi => (hk.own i hi).othA hO (fun x hx => by have := (hk.own i hi).in9 x hx; exact hn x this.1 this.2), hk.far, hk.inner, hk.apart⟩
theorem totM_ins (k : Nat) (b : Bk) (l : List Bk) : totM (insK k b l) = totM l + mkN b := by
  unfold insK totM
  have e : (l.map mkN).sum = ((l.take k).map mkN).sum + ((l.drop k).map mkN).sum := by
    rw [← List.sum_append, ← List.map_append, List.take_append_drop]
  rw [List.map_append, List.sum_append, List.map_cons, List.sum_cons, e]
  omega
theorem adS_facts (l : List Bk) (b : Bk) : (adS l b).1.length ≤ l.length + 1 ∧ (∀ x ∈ (adS l b).1, x = b ∨ x ∈ l) ∧ totM (adS l b).1 ≤ totM l + mkN b := by
  unfold adS
  split
  · exact ⟨Nat.le_succ _, fun x hx => .inr hx, Nat.le_add_right _ _⟩
  · split
    · exact ⟨by rw [insK_len]; exact Nat.le_refl _, insK_mem, by rw [totM_ins]; exact Nat.le_refl _⟩
    · exact ⟨Nat.le_succ _, fun x hx => .inr hx, Nat.le_add_right _ _⟩
theorem toBlockX_any (id ep rd : Int) (md : ByteArray) (qr qb : Int) (qw : List ByteArray) (tr : Int) (tw : List ByteArray) (th : List Int) (ts : List Tx5) (en : Bool) (nx : List Vl) (rt : ByteArray) (bv : Bv) (w : World) (hr : RdK w (⟨id, ep, rd, md, qr, qb, qw, tr, tw, th, ts, en, nx, rt⟩ : Bk) bv) (hf : FewK (⟨id, ep, rd, md, qr, qb, qw, tr, tw, th, ts, en, nx, rt⟩ : Bk)) :
    Calls Try.prog 32 #[bkV (⟨id, ep, rd, md, qr, qb, qw, tr, tw, th, ts, en, nx, rt⟩ : Bk) bv] w fun e w' => ∃ aq1 cq1 aw1 cw1 ah1 ch1 at1 ct1 an1 cn1, e = .returned (.agg #[.int .i64 id, .int .i64 ep, .int .i64 rd, .string md, .int .i64 qr, .int .i64 qb, .slice aq1 qw.length cq1, .int .i64 tr, .slice aw1 tw.length cw1, .slice ah1 th.length ch1, .slice at1 ts.length ct1, .bool en, .slice an1 nx.length cn1, .string rt]) ∧ OwnK w.heap.size w' (⟨id, ep, rd, md, qr, qb, qw, tr, tw, th, ts, en, nx, rt⟩ : Bk) ⟨.slice aq1 qw.length cq1, .slice aw1 tw.length cw1, .slice ah1 th.length ch1, .slice at1 ts.length ct1, .slice an1 nx.length cn1⟩ ∧ (∀ g, (Value.slice aq1 qw.length cq1).ownBlock = some g → (Value.slice aw1 tw.length cw1).ownBlock ≠ some g) ∧ Below w.heap.size w w' := by
  refine (toBlockD_any (⟨id, ep, rd, md, qr, qb, qw, tr, tw, th, ts, en, nx, rt⟩ : Bk) bv w hr hf).mono ?_
  rintro e w' ⟨v', rfl, o1, hin, hb⟩
  obtain ⟨aq1, cq1, aw1, cw1, ah1, ch1, at1, ct1, an1, cn1, rfl⟩ := o1.rd.shapes9
  exact ⟨aq1, cq1, aw1, cw1, ah1, ch1, at1, ct1, an1, cn1, rfl, o1, hin, hb⟩
set_option maxRecDepth 20000 in
set_option maxHeartbeats 8000000 in
theorem fnExactAddTo_walk (a0 : Option Addr) (len0 cap0 : Nat) (z0 : List Bk) (z1 : Bk) (y1 : Bv) (w : World) (w0 : len0 = z0.length ∧ RdKs w (.slice a0 len0 cap0) z0 ∧ z0.length ≤ maxLen ∧ ∀ q ∈ z0, FitK q) (w1x : RdK w z1 y1 ∧ FitK z1) :
    Calls Try.prog 7 #[.slice a0 len0 cap0, bkV z1 y1] w fun e w' => e = .returned (.bool true) ∧ Below w.heap.size w w' := by
  obtain ⟨rfl, hr, hlm, hsm⟩ := w0
  obtain ⟨hrb, hfit1⟩ := w1x
  obtain ⟨aq0, cq0, aw0, cw0, ah0, ch0, at0, ct0, an0, cn0, rfl⟩ := hrb.shapes9
  obtain ⟨id, ep, rd, md, qr, qb, qw, tr, tw, th, ts, en, nx, rt⟩ := z1
  simp only at hrb
  simp only [bkV]
  obtain ⟨w1, hw1⟩ : ∃ w1, w.alloc (.cells #[.int .i64 id, .int .i64 ep, .int .i64 rd, .string md, .int .i64 qr, .int .i64 qb, .slice aq0 qw.length cq0, .int .i64 tr, .slice aw0 tw.length cw0, .slice ah0 th.length ch0, .slice at0 ts.length ct0, .bool en, .slice an0 nx.length cn0, .string rt] 62) = w1 := ⟨_, rfl⟩
  have hb1 : Below w.heap.size w w1 := by rw [← hw1]; exact (Below.refl _ w).alloc (Nat.le_refl _) _
  have k1 : Blk w1 w.heap.size 62 [.int .i64 id, .int .i64 ep, .int .i64 rd, .string md, .int .i64 qr, .int .i64 qb, .slice aq0 qw.length cq0, .int .i64 tr, .slice aw0 tw.length cw0, .slice ah0 th.length ch0, .slice at0 ts.length ct0, .bool en, .slice an0 nx.length cn0, .string rt] := by rw [← hw1]; exact Blk.new w _ _
  have Hz := hide (szBlockSN_any _ z0 1048576 w1 (hr.below hb1 (Nat.le_refl _)) (by omega) hlm hsm)
  have Hzt := hide (fun (m : Nat) V (hV : RdK V (⟨id, ep, rd, md, qr, qb, qw, tr, tw, th, ts, en, nx, rt⟩ : Bk) ⟨.slice aq0 qw.length cq0, .slice aw0 tw.length cw0, .slice ah0 th.length ch0, .slice at0 ts.length ct0, .slice an0 nx.length cn0⟩) (hm : m ≤ 100000000) => szBlockN_any (⟨id, ep, rd, md, qr, qb, qw, tr, tw, th, ts, en, nx, rt⟩ : Bk) ⟨.slice aq0 qw.length cq0, .slice aw0 tw.length cw0, .slice ah0 th.length ch0, .slice at0 ts.length ct0, .slice an0 nx.length cn0⟩ m V hV hm hfit1.q hfit1.w hfit1.h hfit1.t hfit1.n hfit1.qs hfit1.ws hfit1.ts hfit1.ns hfit1.ms hfit1.rs)
  simp only [bkV] at Hzt
  have Hr := hide hr
  have Hrb := hide hrb
  have Hsm := hide hsm
  have Hft := hide hfit1
  clear hr hrb hsm hlm hfit1
  go_enter Try.func7, Try.ntmps7
  go_wp2_with fail
  refine Hz.out.mono ?_
  rintro e w2a ⟨r, rfl, hfit, hb2a⟩
  have hB2a : Below w.heap.size w w2a := hb1.trans (hb2a.mono hb1.size)
  have k2 := k1.below hb2a k1.lt
  clear k1 Hz
  by_cases hneg : r < 0
  · clear hfit
    go_wp2
    go_ret
    exact ⟨rfl, hB2a⟩
  have hrm := hfit (by omega)
  obtain ⟨rn, hrn⟩ : ∃ n : Nat, r = (n : Int) := ⟨r.toNat, by omega⟩
  subst hrn
  have Hzu := hide (Hzt.out rn w2a (Hrb.out.below hB2a (Nat.le_refl _)) (by omega))
  have c0 := k2.cell 0
  have c1 := k2.cell 1
  have c2 := k2.cell 2
  have c3 := k2.cell 3
  have c4 := k2.cell 4
  have c5 := k2.cell 5
  have c6 := k2.cell 6
  have c7 := k2.cell 7
  have c8 := k2.cell 8
  have c9 := k2.cell 9
  have c10 := k2.cell 10
  have c11 := k2.cell 11
  have c12 := k2.cell 12
  have c13 := k2.cell 13
  simp only [List.getElem?_cons_zero, List.getElem?_cons_succ] at c0 c1 c2 c3 c4 c5 c6 c7 c8 c9 c10 c11 c12 c13
  clear hfit Hzt
  go_wp2_with fail
  refine Hzu.out.mono ?_
  rintro e w2 ⟨r2, rfl, hfit2, hb2⟩
  have hB2 : Below w.heap.size w w2 := hB2a.trans (hb2.mono hB2a.size)
  replace k2 := k2.below hb2 k2.lt
  clear Hzu
  clear c0 c1 c2 c3 c4 c5 c6 c7 c8 c9 c10 c11 c12 c13
  by_cases hneg2 : r2 < 0
  · clear hfit2
    go_wp2
    go_ret
    exact ⟨rfl, hB2⟩
  · have hrm2 := hfit2 (by omega)
    have hl0 : z0.length ≤ 1048576 := by omega
    have hlk : totK z0 ≤ 1048576 := by omega
    have hsum : z0.length + totK z0 + (qw.length + tw.length + th.length + ts.length + nx.length) ≤ 1048576 := by omega
    have hfew := fewN_ofA Hsm.out hlk
    have f := Hft.out
    have hfb : FewK (⟨id, ep, rd, md, qr, qb, qw, tr, tw, th, ts, en, nx, rt⟩ : Bk) := ⟨by show qw.length ≤ _; omega, by show tw.length ≤ _; omega, by show th.length ≤ _; omega, by show ts.length ≤ _; omega, by show nx.length ≤ _; omega, f.qs, f.ws, f.ts, f.ns, f.ms, f.rs⟩
    have hbb : -9223372036854775808 ≤ tr ∧ tr ≤ 9223372036854775807 := wf_int f.wf.2.2.2.2.2
    have hbd := trS_of Hsm.out
    have htm := totM_sumA z0
    have hmn : mkN (⟨id, ep, rd, md, qr, qb, qw, tr, tw, th, ts, en, nx, rt⟩ : Bk) ≤ 9 + 5 * (qw.length + tw.length + th.length + ts.length + nx.length) := by unfold mkN; simp only; omega
    have HS := hide (fun v bv w hr hrb => specAddTo_any v z0 (⟨id, ep, rd, md, qr, qb, qw, tr, tw, th, ts, en, nx, rt⟩ : Bk) bv w hr hrb (by omega) hfew hfb hbd hbb)
    have HI := hide (fun v bv w hr hrb => implAddTo_any v z0 (⟨id, ep, rd, md, qr, qb, qw, tr, tw, th, ts, en, nx, rt⟩ : Bk) bv w hr hrb (by omega) hfew hfb hbd hbb)
    have HT := hide (fun v w hr => toBlockS_any v z0 w hr (by omega) hfew)
    have HE := hide (fun v1 v2 w h1 h2 => eqBlockS_any v1 v2 z0 w h1 h2 (by omega) hfew)
    have HM := hide (fun v base V0 V ho hb => markBlockS_any v z0 1 base V0 V ho hb (by omega) (fun b hb => ⟨(hfew b hb).q, (hfew b hb).w, (hfew b hb).h, (hfew b hb).t, (hfew b hb).n⟩) (by omega) (by omega))
    have HTb := hide (fun bv w hr => toBlockX_any id ep rd md qr qb qw tr tw th ts en nx rt bv w hr hfb)
    have HEb := hide (fun v1 v2 w h1 h2 => eqBlock_any (⟨id, ep, rd, md, qr, qb, qw, tr, tw, th, ts, en, nx, rt⟩ : Bk) v1 v2 w h1 h2 hfb)
    have HMb := hide (fun v base w ho hin => markBlockW_any (⟨id, ep, rd, md, qr, qb, qw, tr, tw, th, ts, en, nx, rt⟩ : Bk) v (1 + totM z0) base w ho hin hfb.q hfb.w hfb.h hfb.t hfb.n (by omega) (by omega))
    have hXf := adS_facts z0 (⟨id, ep, rd, md, qr, qb, qw, tr, tw, th, ts, en, nx, rt⟩ : Bk)
    obtain ⟨X, fl, hX⟩ : ∃ X fl, adS z0 (⟨id, ep, rd, md, qr, qb, qw, tr, tw, th, ts, en, nx, rt⟩ : Bk) = (X, fl) := ⟨_, _, rfl⟩
    rw [hX] at HS HI hXf
    clear hX
    obtain ⟨hXl, hXm, hXt⟩ := hXf
    have hXfew : ∀ x ∈ X, FewK x := fun x hx => (hXm x hx).elim (fun h => h ▸ hfb) (fun h => hfew x h)
    have HEX := hide (fun v1 v2 w h1 h2 => eqBlockS_any v1 v2 X w h1 h2 (by simp only at hXl; omega) hXfew)
    have HMX := hide (fun v base V0 V ho hb => markBlockS_any v X 1 base V0 V ho hb (by simp only at hXl; omega) (fun b hb => ⟨(hXfew b hb).q, (hXfew b hb).w, (hXfew b hb).h, (hXfew b hb).t, (hXfew b hb).n⟩) (by simp only at hXt; omega) (by omega))
    have HH := hide (fun v w hr => heldBlockS_any v X 1 w hr (by simp only at hXl; omega) (fun b hb => ⟨(hXfew b hb).q, (hXfew b hb).w, (hXfew b hb).h, (hXfew b hb).t, (hXfew b hb).n⟩) (by simp only at hXt; omega) (by omega))
    simp only at HS HI
    simp only [bkV] at HS HI HTb HEb HMb
    have hkb : ¬ ((mkC (1 + totM z0) (⟨id, ep, rd, md, qr, qb, qw, tr, tw, th, ts, en, nx, rt⟩ : Bk) : Nat) : Int) < 0 := by omega
    have hkX : ¬ ((1 + totM X : Nat) : Int) < 0 := by omega
    generalize mkC (1 + totM z0) (⟨id, ep, rd, md, qr, qb, qw, tr, tw, th, ts, en, nx, rt⟩ : Bk) = kb at HMb hkb
    generalize mkK (1 + totM z0) (⟨id, ep, rd, md, qr, qb, qw, tr, tw, th, ts, en, nx, rt⟩ : Bk) = MK at HMb
    generalize 1 + totM z0 = k0 at HM HMb
    generalize 1 + totM X = kX at HMX HH hkX
    generalize mkLk 1 X = MX at HMX HH
    have HLX := hide (fun w v (h : RdKs w v X) => h.shape)
    generalize X.length = xn at HLX hXl
    clear hrm hrm2 hl0 hlk hsum hfew f hfb hbb hbd htm hmn hXl hXm hXt hXfew hfit2 Hsm Hft
    have hda : Below w2.heap.size w2 w2.drew := (Below.refl _ w2).drew
    have hB2d : Below w.heap.size w w2.drew := hB2.drew
    replace k2 := k2.below hda k2.lt
    have HSa : Hid (∀ W, Blk W w.heap.size 62 [.int .i64 id, .int .i64 ep, .int .i64 rd, .string md, .int .i64 qr, .int .i64 qb, .slice aq0 qw.length cq0, .int .i64 tr, .slice aw0 tw.length cw0, .slice ah0 th.length ch0, .slice at0 ts.length ct0, .bool en, .slice an0 nx.length cn0, .string rt] → (W.cell? ⟨w.heap.size, 0, none⟩ = some (.int .i64 id) ∧ W.cell? ⟨w.heap.size, 1, none⟩ = some (.int .i64 ep) ∧ W.cell? ⟨w.heap.size, 2, none⟩ = some (.int .i64 rd) ∧ W.cell? ⟨w.heap.size, 3, none⟩ = some (.string md) ∧ W.cell? ⟨w.heap.size, 4, none⟩ = some (.int .i64 qr) ∧ W.cell? ⟨w.heap.size, 5, none⟩ = some (.int .i64 qb) ∧ W.cell? ⟨w.heap.size, 6, none⟩ = some (.slice aq0 qw.length cq0) ∧ W.cell? ⟨w.heap.size, 7, none⟩ = some (.int .i64 tr) ∧ W.cell? ⟨w.heap.size, 8, none⟩ = some (.slice aw0 tw.length cw0) ∧ W.cell? ⟨w.heap.size, 9, none⟩ = some (.slice ah0 th.length ch0) ∧ W.cell? ⟨w.heap.size, 10, none⟩ = some (.slice at0 ts.length ct0) ∧ W.cell? ⟨w.heap.size, 11, none⟩ = some (.bool en) ∧ W.cell? ⟨w.heap.size, 12, none⟩ = some (.slice an0 nx.length cn0) ∧ W.cell? ⟨w.heap.size, 13, none⟩ = some (.string rt))) := hide (fun W h1 => ⟨h1.cell 0, h1.cell 1, h1.cell 2, h1.cell 3, h1.cell 4, h1.cell 5, h1.cell 6, h1.cell 7, h1.cell 8, h1.cell 9, h1.cell 10, h1.cell 11, h1.cell 12, h1.cell 13⟩)
    have hS0 := HSa.out _ k2
    have Kk := hide k2
    clear k2
    go_wp2
    go_region_held_law (fun w' => w'.cell? ⟨w.heap.size, 0, none⟩ = some (.int .i64 id) ∧ w'.cell? ⟨w.heap.size, 1, none⟩ = some (.int .i64 ep) ∧ w'.cell? ⟨w.heap.size, 2, none⟩ = some (.int .i64 rd) ∧ w'.cell? ⟨w.heap.size, 3, none⟩ = some (.string md) ∧ w'.cell? ⟨w.heap.size, 4, none⟩ = some (.int .i64 qr) ∧ w'.cell? ⟨w.heap.size, 5, none⟩ = some (.int .i64 qb) ∧ w'.cell? ⟨w.heap.size, 6, none⟩ = some (.slice aq0 qw.length cq0) ∧ w'.cell? ⟨w.heap.size, 7, none⟩ = some (.int .i64 tr) ∧ w'.cell? ⟨w.heap.size, 8, none⟩ = some (.slice aw0 tw.length cw0) ∧ w'.cell? ⟨w.heap.size, 9, none⟩ = some (.slice ah0 th.length ch0) ∧ w'.cell? ⟨w.heap.size, 10, none⟩ = some (.slice at0 ts.length ct0) ∧ w'.cell? ⟨w.heap.size, 11, none⟩ = some (.bool en) ∧ w'.cell? ⟨w.heap.size, 12, none⟩ = some (.slice an0 nx.length cn0) ∧ w'.cell? ⟨w.heap.size, 13, none⟩ = some (.string rt)) (first | with_reducible exact hS0 | with_reducible exact hS1 | with_reducible exact hS2 | with_reducible exact hS3) ((first
      | (go_at_call 16; refine (HS.out _ ⟨.slice aqT qw.length cqT, .slice awT tw.length cwT, .slice ahT th.length chT, .slice atT ts.length ctT, .slice anT nx.length cnT⟩ _ (oX.out.below hbT (Nat.le_refl _)).rd oT.rd).mono ?_; rintro e w5 ⟨v5, rfl, o5, hbA⟩; have hS3 := HSa.out _ (((Kk.out.below hbX Kk.out.lt).below hbT (Kk.out.below hbX Kk.out.lt).lt).below hbA ((Kk.out.below hbX Kk.out.lt).below hbT (Kk.out.below hbX Kk.out.lt).lt).lt); obtain ⟨a5, c5, hv5⟩ := HLX.out _ _ o5.rd; subst hv5; replace o5 := hide o5)
      | (go_at_call 32; refine (HTb.out _ _ (Hrb.out.below hBX (Nat.le_refl _))).mono ?_; rintro e wT ⟨aqT, cqT, awT, cwT, ahT, chT, atT, ctT, anT, cnT, rfl, oT, -, hbT⟩; have hS2 := HSa.out _ ((Kk.out.below hbX Kk.out.lt).below hbT (Kk.out.below hbX Kk.out.lt).lt))
      | (go_at_call 25; refine (HT.out _ _ (Hr.out.below hB2d (Nat.le_refl _))).mono ?_; rintro e wX ⟨vX, rfl, oX, hbX⟩; obtain ⟨aX, cX, rfl⟩ := oX.rd.shape; replace oX := hide oX; have hBX : Below w.heap.size w wX := hB2d.trans (hbX.mono hB2.size); have hS1 := HSa.out _ (Kk.out.below hbX Kk.out.lt))))
    have k2 := Kk.out
    have hb5 : Below w2.drew.heap.size w2.drew w5 := hbX.trans ((hbT.trans (hbA.mono hbT.size)).mono hbX.size)
    have hB5 : Below w.heap.size w w5 := hB2d.trans (hb5.mono hB2.size)
    replace k2 := k2.below hb5 k2.lt
    clear hS0 hS1 hS2 hS3 oX oT HSa Kk hbX hbT hbA hBX
    have R5 := hide o5.out.rd
    have H5 := hide (Below.refl w5.heap.size w5)
    have hsz25 : w.heap.size < w5.heap.size := k2.lt
    clear o5
    have K5 := hide k2
    clear k2
    go_wp2_with fail
    refine (HT.out _ _ (Hr.out.below hB5 (Nat.le_refl _))).mono ?_
    rintro e w6 ⟨v6, rfl, o6, hb6⟩
    have hB6 : Below w.heap.size w w6 := hB5.trans (hb6.mono hB5.size)
    replace H5 := hide (H5.out.trans (hb6.mono H5.out.size))
    obtain ⟨a6, c6, rfl⟩ := o6.rd.shape
    replace o6 := hide o6
    have s6 := hb6.size
    have H6 := hide (Below.refl w6.heap.size w6)
    have k2 := K5.out.below H5.out K5.out.lt
    have c0 := k2.cell 0
    have c1 := k2.cell 1
    have c2 := k2.cell 2
    have c3 := k2.cell 3
    have c4 := k2.cell 4
    have c5 := k2.cell 5
    have c6 := k2.cell 6
    have c7 := k2.cell 7
    have c8 := k2.cell 8
    have c9 := k2.cell 9
    have c10 := k2.cell 10
    have c11 := k2.cell 11
    have c12 := k2.cell 12
    have c13 := k2.cell 13
    simp only [List.getElem?_cons_zero, List.getElem?_cons_succ] at c0 c1 c2 c3 c4 c5 c6 c7 c8 c9 c10 c11 c12 c13
    clear k2
    go_wp2_with fail
    refine (HTb.out _ _ (Hrb.out.below hB6 (Nat.le_refl _))).mono ?_
    rintro e w7 ⟨aq7, cq7, aw7, cw7, ah7, ch7, at7, ct7, an7, cn7, rfl, o7, hin7, hb7⟩
    have hB7 : Below w.heap.size w w7 := hB6.trans (hb7.mono hB6.size)
    replace H5 := hide (H5.out.trans (hb7.mono H5.out.size))
    replace H6 := hide (H6.out.trans (hb7.mono H6.out.size))
    have Hlt7 : Hid (∀ g, (⟨.slice aq7 qw.length cq7, .slice aw7 tw.length cw7, .slice ah7 th.length ch7, .slice at7 ts.length ct7, .slice an7 nx.length cn7⟩ : Bv).has g → w6.heap.size ≤ g ∧ g < w7.heap.size) := hide (fun g hg => o7.in9 g hg)
    have Hin7 := hide hin7
    have s7 := hb7.size
    clear c0 c1 c2 c3 c4 c5 c6 c7 c8 c9 c10 c11 c12 c13
    obtain ⟨w8, hw8⟩ : ∃ x, w7.alloc (.cells #[.int .i64 id, .int .i64 ep, .int .i64 rd, .string md, .int .i64 qr, .int .i64 qb, .slice aq7 qw.length cq7, .int .i64 tr, .slice aw7 tw.length cw7, .slice ah7 th.length ch7, .slice at7 ts.length ct7, .bool en, .slice an7 nx.length cn7, .string rt] 37) = x := ⟨_, rfl⟩
    have hb8 : Below w7.heap.size w7 w8 := by rw [← hw8]; exact (Below.refl _ w7).alloc (Nat.le_refl _) _
    have k8 : Blk w8 w7.heap.size 37 [.int .i64 id, .int .i64 ep, .int .i64 rd, .string md, .int .i64 qr, .int .i64 qb, .slice aq7 qw.length cq7, .int .i64 tr, .slice aw7 tw.length cw7, .slice ah7 th.length ch7, .slice at7 ts.length ct7, .bool en, .slice an7 nx.length cn7, .string rt] := by rw [← hw8]; exact Blk.new w7 _ _
    have o8 := hide (o7.below9 hb8 (Nat.le_refl _))
    have s8 : w7.heap.size < w8.heap.size := k8.lt
    clear o7 hin7
    have hB8 : Below w.heap.size w w8 := hB7.trans (hb8.mono hB7.size)
    replace H5 := hide (H5.out.trans (hb8.mono H5.out.size))
    replace H6 := hide (H6.out.trans (hb8.mono H6.out.size))
    have g0 := k8.cell 0
    have g1 := k8.cell 1
    have g2 := k8.cell 2
    have g3 := k8.cell 3
    have g4 := k8.cell 4
    have g5 := k8.cell 5
    have g6 := k8.cell 6
    have g7 := k8.cell 7
    have g8 := k8.cell 8
    have g9 := k8.cell 9
    have g10 := k8.cell 10
    have g11 := k8.cell 11
    have g12 := k8.cell 12
    have g13 := k8.cell 13
    simp only [List.getElem?_cons_zero, List.getElem?_cons_succ] at g0 g1 g2 g3 g4 g5 g6 g7 g8 g9 g10 g11 g12 g13
    have K8 := hide k8
    clear k8
    go_wp2_with fail
    refine (HI.out _ ⟨.slice aq7 qw.length cq7, .slice aw7 tw.length cw7, .slice ah7 th.length ch7, .slice at7 ts.length ct7, .slice an7 nx.length cn7⟩ _ (o6.out.below H6.out (Nat.le_refl _)).rd o8.out.rd).mono ?_
    rintro e w9 ⟨v9, rfl, o9, hb9⟩
    clear g0 g1 g2 g3 g4 g5 g6 g7 g8 g9 g10 g11 g12 g13
    clear hw8
    have hB9 : Below w.heap.size w w9 := hB8.trans (hb9.mono hB8.size)
    replace H5 := hide (H5.out.trans (hb9.mono H5.out.size))
    replace H6 := hide (H6.out.trans (hb9.mono H6.out.size))
    replace o8 := hide (o8.out.below9 hb9 (Nat.le_refl _))
    replace K8 := hide (K8.out.below hb9 K8.out.lt)
    obtain ⟨a9, c9, hv9⟩ := HLX.out _ _ o9.rd
    subst hv9
    replace o9 := hide o9
    have s9 := hb9.size
    go_wp2_with fail
    refine (HEX.out _ _ _ o9.out.rd (R5.out.below H5.out (Nat.le_refl _))).mono ?_
    rintro e w10 ⟨rfl, hb10⟩
    have hB10 : Below w.heap.size w w10 := hB9.trans (hb10.mono hB9.size)
    replace o9 := hide (o9.out.below hb10 (Nat.le_refl _))
    replace H5 := hide (H5.out.trans (hb10.mono H5.out.size))
    replace H6 := hide (H6.out.trans (hb10.mono H6.out.size))
    replace o8 := hide (o8.out.below9 hb10 (Nat.le_refl _))
    replace K8 := hide (K8.out.below hb10 K8.out.lt)
    go_wp2_with fail
    refine (HT.out _ _ (Hr.out.below hB10 (Nat.le_refl _))).mono ?_
    rintro e w11 ⟨v11, rfl, o11, hb11⟩
    have hB11 : Below w.heap.size w w11 := hB10.trans (hb11.mono hB10.size)
    replace o9 := hide (o9.out.below hb11 (Nat.le_refl _))
    replace H5 := hide (H5.out.trans (hb11.mono H5.out.size))
    replace H6 := hide (H6.out.trans (hb11.mono H6.out.size))
    replace o8 := hide (o8.out.below9 hb11 (Nat.le_refl _))
    replace K8 := hide (K8.out.below hb11 K8.out.lt)
    obtain ⟨a11, c11, rfl⟩ := o11.rd.shape
    go_wp2_with fail
    refine (HE.out _ _ _ (o6.out.below H6.out (Nat.le_refl _)).rd o11.rd).mono ?_
    rintro e w12 ⟨rfl, hb12⟩
    clear o11
    have hB12 : Below w.heap.size w w12 := hB11.trans (hb12.mono hB11.size)
    replace o9 := hide (o9.out.below hb12 (Nat.le_refl _))
    replace H5 := hide (H5.out.trans (hb12.mono H5.out.size))
    replace H6 := hide (H6.out.trans (hb12.mono H6.out.size))
    replace o8 := hide (o8.out.below9 hb12 (Nat.le_refl _))
    replace K8 := hide (K8.out.below hb12 K8.out.lt)
    have hdq : Below w12.heap.size w12 w12.drew := (Below.refl _ w12).drew
    have hB12d : Below w.heap.size w w12.drew := hB12.drew
    replace o9 := hide (o9.out.below hdq (Nat.le_refl _))
    replace H5 := hide (H5.out.trans (hdq.mono H5.out.size))
    replace H6 := hide (H6.out.trans (hdq.mono H6.out.size))
    replace o8 := hide (o8.out.below9 hdq (Nat.le_refl _))
    replace K8 := hide (K8.out.below hdq K8.out.lt)
    have HSq : Hid (∀ W, Blk W w.heap.size 62 [.int .i64 id, .int .i64 ep, .int .i64 rd, .string md, .int .i64 qr, .int .i64 qb, .slice aq0 qw.length cq0, .int .i64 tr, .slice aw0 tw.length cw0, .slice ah0 th.length ch0, .slice at0 ts.length ct0, .bool en, .slice an0 nx.length cn0, .string rt] → Blk W w7.heap.size 37 [.int .i64 id, .int .i64 ep, .int .i64 rd, .string md, .int .i64 qr, .int .i64 qb, .slice aq7 qw.length cq7, .int .i64 tr, .slice aw7 tw.length cw7, .slice ah7 th.length ch7, .slice at7 ts.length ct7, .bool en, .slice an7 nx.length cn7, .string rt] → ((W.cell? ⟨w.heap.size, 0, none⟩ = some (.int .i64 id) ∧ W.cell? ⟨w.heap.size, 1, none⟩ = some (.int .i64 ep) ∧ W.cell? ⟨w.heap.size, 2, none⟩ = some (.int .i64 rd) ∧ W.cell? ⟨w.heap.size, 3, none⟩ = some (.string md) ∧ W.cell? ⟨w.heap.size, 4, none⟩ = some (.int .i64 qr) ∧ W.cell? ⟨w.heap.size, 5, none⟩ = some (.int .i64 qb) ∧ W.cell? ⟨w.heap.size, 6, none⟩ = some (.slice aq0 qw.length cq0) ∧ W.cell? ⟨w.heap.size, 7, none⟩ = some (.int .i64 tr) ∧ W.cell? ⟨w.heap.size, 8, none⟩ = some (.slice aw0 tw.length cw0) ∧ W.cell? ⟨w.heap.size, 9, none⟩ = some (.slice ah0 th.length ch0) ∧ W.cell? ⟨w.heap.size, 10, none⟩ = some (.slice at0 ts.length ct0) ∧ W.cell? ⟨w.heap.size, 11, none⟩ = some (.bool en) ∧ W.cell? ⟨w.heap.size, 12, none⟩ = some (.slice an0 nx.length cn0) ∧ W.cell? ⟨w.heap.size, 13, none⟩ = some (.string rt)) ∧ (W.cell? ⟨w7.heap.size, 0, none⟩ = some (.int .i64 id) ∧ W.cell? ⟨w7.heap.size, 1, none⟩ = some (.int .i64 ep) ∧ W.cell? ⟨w7.heap.size, 2, none⟩ = some (.int .i64 rd) ∧ W.cell? ⟨w7.heap.size, 3, none⟩ = some (.string md) ∧ W.cell? ⟨w7.heap.size, 4, none⟩ = some (.int .i64 qr) ∧ W.cell? ⟨w7.heap.size, 5, none⟩ = some (.int .i64 qb) ∧ W.cell? ⟨w7.heap.size, 6, none⟩ = some (.slice aq7 qw.length cq7) ∧ W.cell? ⟨w7.heap.size, 7, none⟩ = some (.int .i64 tr) ∧ W.cell? ⟨w7.heap.size, 8, none⟩ = some (.slice aw7 tw.length cw7) ∧ W.cell? ⟨w7.heap.size, 9, none⟩ = some (.slice ah7 th.length ch7) ∧ W.cell? ⟨w7.heap.size, 10, none⟩ = some (.slice at7 ts.length ct7) ∧ W.cell? ⟨w7.heap.size, 11, none⟩ = some (.bool en) ∧ W.cell? ⟨w7.heap.size, 12, none⟩ = some (.slice an7 nx.length cn7) ∧ W.cell? ⟨w7.heap.size, 13, none⟩ = some (.string rt)))) := hide (fun W h1 h2 => ⟨⟨h1.cell 0, h1.cell 1, h1.cell 2, h1.cell 3, h1.cell 4, h1.cell 5, h1.cell 6, h1.cell 7, h1.cell 8, h1.cell 9, h1.cell 10, h1.cell 11, h1.cell 12, h1.cell 13⟩, ⟨h2.cell 0, h2.cell 1, h2.cell 2, h2.cell 3, h2.cell 4, h2.cell 5, h2.cell 6, h2.cell 7, h2.cell 8, h2.cell 9, h2.cell 10, h2.cell 11, h2.cell 12, h2.cell 13⟩⟩)
    have Kk := hide (K5.out.below H5.out K5.out.lt)
    have hS0 := HSq.out _ Kk.out K8.out
    go_wp2
    go_region_held_law (fun w' => (w'.cell? ⟨w.heap.size, 0, none⟩ = some (.int .i64 id) ∧ w'.cell? ⟨w.heap.size, 1, none⟩ = some (.int .i64 ep) ∧ w'.cell? ⟨w.heap.size, 2, none⟩ = some (.int .i64 rd) ∧ w'.cell? ⟨w.heap.size, 3, none⟩ = some (.string md) ∧ w'.cell? ⟨w.heap.size, 4, none⟩ = some (.int .i64 qr) ∧ w'.cell? ⟨w.heap.size, 5, none⟩ = some (.int .i64 qb) ∧ w'.cell? ⟨w.heap.size, 6, none⟩ = some (.slice aq0 qw.length cq0) ∧ w'.cell? ⟨w.heap.size, 7, none⟩ = some (.int .i64 tr) ∧ w'.cell? ⟨w.heap.size, 8, none⟩ = some (.slice aw0 tw.length cw0) ∧ w'.cell? ⟨w.heap.size, 9, none⟩ = some (.slice ah0 th.length ch0) ∧ w'.cell? ⟨w.heap.size, 10, none⟩ = some (.slice at0 ts.length ct0) ∧ w'.cell? ⟨w.heap.size, 11, none⟩ = some (.bool en) ∧ w'.cell? ⟨w.heap.size, 12, none⟩ = some (.slice an0 nx.length cn0) ∧ w'.cell? ⟨w.heap.size, 13, none⟩ = some (.string rt)) ∧ (w'.cell? ⟨w7.heap.size, 0, none⟩ = some (.int .i64 id) ∧ w'.cell? ⟨w7.heap.size, 1, none⟩ = some (.int .i64 ep) ∧ w'.cell? ⟨w7.heap.size, 2, none⟩ = some (.int .i64 rd) ∧ w'.cell? ⟨w7.heap.size, 3, none⟩ = some (.string md) ∧ w'.cell? ⟨w7.heap.size, 4, none⟩ = some (.int .i64 qr) ∧ w'.cell? ⟨w7.heap.size, 5, none⟩ = some (.int .i64 qb) ∧ w'.cell? ⟨w7.heap.size, 6, none⟩ = some (.slice aq7 qw.length cq7) ∧ w'.cell? ⟨w7.heap.size, 7, none⟩ = some (.int .i64 tr) ∧ w'.cell? ⟨w7.heap.size, 8, none⟩ = some (.slice aw7 tw.length cw7) ∧ w'.cell? ⟨w7.heap.size, 9, none⟩ = some (.slice ah7 th.length ch7) ∧ w'.cell? ⟨w7.heap.size, 10, none⟩ = some (.slice at7 ts.length ct7) ∧ w'.cell? ⟨w7.heap.size, 11, none⟩ = some (.bool en) ∧ w'.cell? ⟨w7.heap.size, 12, none⟩ = some (.slice an7 nx.length cn7) ∧ w'.cell? ⟨w7.heap.size, 13, none⟩ = some (.string rt))) (first | with_reducible exact hS0 | with_reducible exact hS1 | with_reducible exact hS2) ((first
      | (go_at_call 26; refine (HEb.out ⟨.slice aq7 qw.length cq7, .slice aw7 tw.length cw7, .slice ah7 th.length ch7, .slice at7 ts.length ct7, .slice an7 nx.length cn7⟩ ⟨.slice aqT qw.length cqT, .slice awT tw.length cwT, .slice ahT th.length chT, .slice atT ts.length ctT, .slice anT nx.length cnT⟩ _ (o8.out.below9 hbT (Nat.le_refl _)).rd oT.rd).mono ?_; rintro e w13 ⟨rfl, hbA⟩; have hS2 := HSq.out _ ((Kk.out.below hbT Kk.out.lt).below hbA (Kk.out.below hbT Kk.out.lt).lt) ((K8.out.below hbT K8.out.lt).below hbA (K8.out.below hbT K8.out.lt).lt))
      | (go_at_call 32; refine (HTb.out _ _ (Hrb.out.below hB12d (Nat.le_refl _))).mono ?_; rintro e wT ⟨aqT, cqT, awT, cwT, ahT, chT, atT, ctT, anT, cnT, rfl, oT, -, hbT⟩; have hS1 := HSq.out _ (Kk.out.below hbT Kk.out.lt) (K8.out.below hbT K8.out.lt))))
    have hb13 : Below w12.drew.heap.size w12.drew w13 := hbT.trans (hbA.mono hbT.size)
    have hB13 : Below w.heap.size w w13 := hB12d.trans (hb13.mono hB12.size)
    replace o9 := hide (o9.out.below hb13 (Nat.le_refl _))
    replace H5 := hide (H5.out.trans (hb13.mono H5.out.size))
    replace H6 := hide (H6.out.trans (hb13.mono H6.out.size))
    replace o8 := hide (o8.out.below9 hb13 (Nat.le_refl _))
    replace K8 := hide (K8.out.below hb13 K8.out.lt)
    clear hS0 hS1 hS2 oT HSq Kk hbT hbA
    go_wp2_with fail
    refine (HM.out _ _ _ _ o6.out H6.out).mono ?_
    rintro e w15 ⟨rfl, -, hg15⟩
    have hq15 : Below w5.heap.size w13 w15 := hg15.below (fun k hk => hk.1) H5.out.size
    have hB15 : Below w.heap.size w w15 := hB13.trans (hq15.mono (Nat.le_of_lt hsz25))
    replace H5 := hide (H5.out.trans hq15)
    replace o8 := hide (o8.out.othA hg15 (fun g hg h => by have := Hlt7.out g hg; omega))
    replace K8 := hide (K8.out.othB hg15 (fun h => by omega))
    replace o9 := hide (o9.out.othA hg15 (fun g h1 _ h => by omega))
    clear hg15 hq15 H6 o6
    have k8 := K8.out
    have g0 := k8.cell 0
    have g1 := k8.cell 1
    have g2 := k8.cell 2
    have g3 := k8.cell 3
    have g4 := k8.cell 4
    have g5 := k8.cell 5
    have g6 := k8.cell 6
    have g7 := k8.cell 7
    have g8 := k8.cell 8
    have g9 := k8.cell 9
    have g10 := k8.cell 10
    have g11 := k8.cell 11
    have g12 := k8.cell 12
    have g13 := k8.cell 13
    simp only [List.getElem?_cons_zero, List.getElem?_cons_succ] at g0 g1 g2 g3 g4 g5 g6 g7 g8 g9 g10 g11 g12 g13
    clear k8
    go_wp2_with fail
    refine (HMb.out ⟨.slice aq7 qw.length cq7, .slice aw7 tw.length cw7, .slice ah7 th.length ch7, .slice at7 ts.length ct7, .slice an7 nx.length cn7⟩ _ _ o8.out Hin7.out).mono ?_
    rintro e w16 ⟨rfl, -, hg16⟩
    have hq16 : Below w5.heap.size w15 w16 := hg16.below (fun k hk => by have := Hlt7.out k hk; omega) H5.out.size
    have hB16 : Below w.heap.size w w16 := hB15.trans (hq16.mono (Nat.le_of_lt hsz25))
    replace H5 := hide (H5.out.trans hq16)
    replace o9 := hide (o9.out.othA hg16 (fun g h1 _ h => by have := Hlt7.out g h; omega))
    clear g0 g1 g2 g3 g4 g5 g6 g7 g8 g9 g10 g11 g12 g13
    clear hg16 hq16 o8 K8 Hin7
    go_wp2_with fail
    refine (HEX.out _ _ _ o9.out.rd (R5.out.below H5.out (Nat.le_refl _))).mono ?_
    rintro e w17 ⟨rfl, hb17⟩
    have hB17 : Below w.heap.size w w17 := hB16.trans (hb17.mono hB16.size)
    replace o9 := hide (o9.out.below hb17 (Nat.le_refl _))
    replace H5 := hide (H5.out.trans (hb17.mono H5.out.size))
    go_wp2_with fail
    refine (HMX.out _ _ _ _ o9.out (Below.refl _ w17)).mono ?_
    rintro e w18 ⟨rfl, o18, hg18⟩
    have hq18 : Below w5.heap.size w17 w18 := hg18.below (fun k hk => by have := hk.1; omega) H5.out.size
    have hB18 : Below w.heap.size w w18 := hB17.trans (hq18.mono (Nat.le_of_lt hsz25))
    replace H5 := hide (H5.out.trans hq18)
    replace o18 := hide o18
    clear hg18 hq18 o9
    go_wp2_with fail
    refine (HH.out _ _ o18.out.rd).mono ?_
    rintro e w19 ⟨rfl, hb19⟩
    have hB19 : Below w.heap.size w w19 := hB18.trans (hb19.mono hB18.size)
    replace o18 := hide (o18.out.below hb19 (Nat.le_refl _))
    replace H5 := hide (H5.out.trans (hb19.mono H5.out.size))
    have k2 := K5.out.below H5.out K5.out.lt
    clear K5
    have hdb : Below w19.heap.size w19 w19.drew := (Below.refl _ w19).drew
    have hB19d : Below w.heap.size w w19.drew := hB19.drew
    replace k2 := k2.below hdb k2.lt
    replace o18 := hide (o18.out.below hdb (Nat.le_refl _))
    replace H5 := hide (H5.out.trans (hdb.mono H5.out.size))
    have HSb : Hid (∀ W, Blk W w.heap.size 62 [.int .i64 id, .int .i64 ep, .int .i64 rd, .string md, .int .i64 qr, .int .i64 qb, .slice aq0 qw.length cq0, .int .i64 tr, .slice aw0 tw.length cw0, .slice ah0 th.length ch0, .slice at0 ts.length ct0, .bool en, .slice an0 nx.length cn0, .string rt] → (W.cell? ⟨w.heap.size, 0, none⟩ = some (.int .i64 id) ∧ W.cell? ⟨w.heap.size, 1, none⟩ = some (.int .i64 ep) ∧ W.cell? ⟨w.heap.size, 2, none⟩ = some (.int .i64 rd) ∧ W.cell? ⟨w.heap.size, 3, none⟩ = some (.string md) ∧ W.cell? ⟨w.heap.size, 4, none⟩ = some (.int .i64 qr) ∧ W.cell? ⟨w.heap.size, 5, none⟩ = some (.int .i64 qb) ∧ W.cell? ⟨w.heap.size, 6, none⟩ = some (.slice aq0 qw.length cq0) ∧ W.cell? ⟨w.heap.size, 7, none⟩ = some (.int .i64 tr) ∧ W.cell? ⟨w.heap.size, 8, none⟩ = some (.slice aw0 tw.length cw0) ∧ W.cell? ⟨w.heap.size, 9, none⟩ = some (.slice ah0 th.length ch0) ∧ W.cell? ⟨w.heap.size, 10, none⟩ = some (.slice at0 ts.length ct0) ∧ W.cell? ⟨w.heap.size, 11, none⟩ = some (.bool en) ∧ W.cell? ⟨w.heap.size, 12, none⟩ = some (.slice an0 nx.length cn0) ∧ W.cell? ⟨w.heap.size, 13, none⟩ = some (.string rt))) := hide (fun W h1 => ⟨h1.cell 0, h1.cell 1, h1.cell 2, h1.cell 3, h1.cell 4, h1.cell 5, h1.cell 6, h1.cell 7, h1.cell 8, h1.cell 9, h1.cell 10, h1.cell 11, h1.cell 12, h1.cell 13⟩)
    have hS0 := HSb.out _ k2
    have Kk := hide k2
    clear k2
    go_wp2
    go_region_held_law (fun w' => w'.cell? ⟨w.heap.size, 0, none⟩ = some (.int .i64 id) ∧ w'.cell? ⟨w.heap.size, 1, none⟩ = some (.int .i64 ep) ∧ w'.cell? ⟨w.heap.size, 2, none⟩ = some (.int .i64 rd) ∧ w'.cell? ⟨w.heap.size, 3, none⟩ = some (.string md) ∧ w'.cell? ⟨w.heap.size, 4, none⟩ = some (.int .i64 qr) ∧ w'.cell? ⟨w.heap.size, 5, none⟩ = some (.int .i64 qb) ∧ w'.cell? ⟨w.heap.size, 6, none⟩ = some (.slice aq0 qw.length cq0) ∧ w'.cell? ⟨w.heap.size, 7, none⟩ = some (.int .i64 tr) ∧ w'.cell? ⟨w.heap.size, 8, none⟩ = some (.slice aw0 tw.length cw0) ∧ w'.cell? ⟨w.heap.size, 9, none⟩ = some (.slice ah0 th.length ch0) ∧ w'.cell? ⟨w.heap.size, 10, none⟩ = some (.slice at0 ts.length ct0) ∧ w'.cell? ⟨w.heap.size, 11, none⟩ = some (.bool en) ∧ w'.cell? ⟨w.heap.size, 12, none⟩ = some (.slice an0 nx.length cn0) ∧ w'.cell? ⟨w.heap.size, 13, none⟩ = some (.string rt)) (first | with_reducible exact hS0 | with_reducible exact hS1 | with_reducible exact hS2 | with_reducible exact hS3) ((first
      | (go_at_call 15; refine (HI.out _ ⟨.slice aqT qw.length cqT, .slice awT tw.length cwT, .slice ahT th.length chT, .slice atT ts.length ctT, .slice anT nx.length cnT⟩ _ (oX.out.below hbT (Nat.le_refl _)).rd oT.rd).mono ?_; rintro e w20 ⟨v20, rfl, o20, hbA⟩; have hS3 := HSb.out _ (((Kk.out.below hbX Kk.out.lt).below hbT (Kk.out.below hbX Kk.out.lt).lt).below hbA ((Kk.out.below hbX Kk.out.lt).below hbT (Kk.out.below hbX Kk.out.lt).lt).lt); obtain ⟨a20, c20, hv20⟩ := HLX.out _ _ o20.rd; subst hv20; replace o20 := hide o20)
      | (go_at_call 32; refine (HTb.out _ _ (Hrb.out.below hBX (Nat.le_refl _))).mono ?_; rintro e wT ⟨aqT, cqT, awT, cwT, ahT, chT, atT, ctT, anT, cnT, rfl, oT, -, hbT⟩; have hS2 := HSb.out _ ((Kk.out.below hbX Kk.out.lt).below hbT (Kk.out.below hbX Kk.out.lt).lt))
      | (go_at_call 25; refine (HT.out _ _ (Hr.out.below hB19d (Nat.le_refl _))).mono ?_; rintro e wX ⟨vX, rfl, oX, hbX⟩; obtain ⟨aX, cX, rfl⟩ := oX.rd.shape; replace oX := hide oX; have hBX : Below w.heap.size w wX := hB19d.trans (hbX.mono hB19.size); have hS1 := HSb.out _ (Kk.out.below hbX Kk.out.lt))))
    have k2 := Kk.out
    have hb20 : Below w19.drew.heap.size w19.drew w20 := hbX.trans ((hbT.trans (hbA.mono hbT.size)).mono hbX.size)
    have hB20 : Below w.heap.size w w20 := hB19d.trans (hb20.mono hB19.size)
    replace k2 := k2.below hb20 k2.lt
    replace o18 := hide (o18.out.below hb20 (Nat.le_refl _))
    replace H5 := hide (H5.out.trans (hb20.mono H5.out.size))
    clear hS0 hS1 hS2 hS3 oX oT HSb Kk hbX hbT hbA hBX
    go_wp2_with fail
    refine (HEX.out _ _ _ o20.out.rd (R5.out.below H5.out (Nat.le_refl _))).mono ?_
    rintro e w21 ⟨rfl, hb21⟩
    have hB21 : Below w.heap.size w w21 := hB20.trans (hb21.mono hB20.size)
    replace k2 := k2.below hb21 k2.lt
    replace o18 := hide (o18.out.below hb21 (Nat.le_refl _))
    replace H5 := hide (H5.out.trans (hb21.mono H5.out.size))
    go_wp2_with fail
    refine (HH.out _ _ o18.out.rd).mono ?_
    rintro e w22 ⟨rfl, hb22⟩
    have hB22 : Below w.heap.size w w22 := hB21.trans (hb22.mono hB21.size)
    go_wp2
    go_ret
    exact ⟨rfl, hB22⟩

set_option maxRecDepth 100000 in
theorem fnExactAddTo_lifted (os : Os) (started : os.Started) (H : Type) (enc : TypeId × Value → H) :
    ReturnsInHanded {} Try.checked os 7 .any (Rows.fnExactAddToSpec.pre6 enc Try.prog Try.f7 Rows.fnExactAddToRow.domain false) (Rows.fnExactAddToSpec.post enc Try.prog Try.f7 false true false false) := by
  refine returnsInHanded_of_change (C := Try.checked) fnExactAddTo_own started (by kernel_rfl) Try.func7
    (ChangeSpec.witness6 (enc := enc) (C := Try.checked) false ⟨#[], #[.slice none 0 0, .agg #[.int .i64 0, .int .i64 0, .int .i64 0, .string ByteArray.empty, .int .i64 0, .int .i64 0, .slice none 0 0, .int .i64 0, .slice none 0 0, .slice none 0 0, .slice none 0 0, .bool false, .slice none 0 0, .string ByteArray.empty]], []⟩ 8 (by kernel_rfl) (by kernel_rfl) (by kernel_rfl) (by kernel_rfl)) ?_
  intro W base args ds gs before hval0 hW hcnd _
  have hval : ∀ (j : Nat) t v, Try.f7.params[j]? = some t → args[j]? = some v → Value.okWide Try.prog W .any base t v := hval0
  have hW' := hW
  obtain ⟨p, q, hA0, hV, rfl, hfz, hnd⟩ := hW
  have hA : DataW.TrodAll enc Try.prog W 0 (fun _ => true) true Try.f7.params.toList args.toList ds p := hA0
  rw [Try.params7] at hA hval
  obtain ⟨v0, vs0, d0, ds0, p0, q0, hargs, rfl, rfl, h0, r0⟩ := trodAll_cons hA
  obtain ⟨v1, vs1, d1, ds1, p1, q1, rfl, rfl, rfl, h1, r1⟩ := trodAll_cons r0
  obtain ⟨rfl, rfl, rfl⟩ := trodAll_nil r1
  obtain rfl : args = #[v0, v1] := by cases args; simp_all
  obtain ⟨rfl, rfl⟩ := trodVars_none hV
  have k0 := h0
  have lt0 : ∀ x ∈ p0, x.block < W.heap.size := by obtain ⟨m, hm⟩ := k0; exact DataW.trod_lt m _ _ _ hm
  obtain ⟨a0, len0, cap0, rfl⟩ := okWide_slice Try.underlying50 (hval 0 50 v0 rfl rfl)
  obtain ⟨z0, w0⟩ : ∃ l : List Bk, len0 = l.length ∧ RdKs W (.slice a0 len0 cap0) l ∧ l.length ≤ maxLen ∧ ∀ q ∈ l, FitK q := by
    obtain ⟨fuel, hf⟩ := h0
    exact open_blockS (by simpa [Value.cells] using hf)
  have k1 := h1
  have lt1 : ∀ x ∈ p1, x.block < W.heap.size := by obtain ⟨m, hm⟩ := k1; exact DataW.trod_lt m _ _ _ hm
  obtain ⟨z1, y1, rfl, w1⟩ : ∃ (b : Bk) (v : Bv), v1 = bkV b v ∧ RdK W b v ∧ FitK b := by
    obtain ⟨cs, rfl, hsz⟩ := okWide_struct Try.underlying62 (hval 1 62 _ rfl rfl)
    obtain ⟨fuel, hf⟩ := h1
    obtain ⟨b, v, q, rest⟩ := open_block (by simpa [Value.cells] using hf)
    exact ⟨b, v, by cases cs; simp at q; subst q; rfl, rest⟩
  clear hA0 hval0
  refine (fnExactAddTo_walk a0 len0 cap0 z0 z1 y1 W w0 w1).mono fun e W' ⟨he, bel⟩ => ?_
  subst he
  exact ⟨_, rfl, _, _, _, [], _, [], hW', trodAll_mk1 (shut_bool Try.underlying4 _), (trodAll_cons_mk (Below.trod fnExactAddTo_laidOut (by kernel_rfl) (of_decide_eq_true (by kernel_rfl)) k0 bel lt0) (trodAll_cons_mk (Below.trod fnExactAddTo_laidOut (by kernel_rfl) (of_decide_eq_true (by kernel_rfl)) k1 bel lt1) trodAll_mk0)), rfl, bel.frame _, fun h => by cases h⟩

theorem fnExactAddTo_holds : Rows.FnExactAddToSaid :=
  OpenClaim.holds_of_wide 7 Try.f7 rfl rfl rfl rfl rfl rfl rfl ⟨rfl, rfl, rfl, rfl, rfl⟩ rfl rfl rfl rfl rfl (by kernel_rfl) Try.func7 (by kernel_rfl)
    (of_decide_eq_true (by kernel_rfl)) (by unfold Func.isWrapper; first | (rw [if_pos (by decide +kernel)]; kernel_rfl) | (rw [if_neg (by decide +kernel)]; exact ⟨rfl, rfl⟩))
    (fun os started H enc _ => fnExactAddTo_lifted os started H enc)

end Go.Proofs.Ytbjeonnaannofaa
