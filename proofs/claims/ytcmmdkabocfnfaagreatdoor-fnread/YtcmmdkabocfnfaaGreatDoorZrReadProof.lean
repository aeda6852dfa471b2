/- What is read of drawn bytes as a block has these bytes, where the named error lies as the program's text lays it: the law FnRead returns true. -/
import Derived.Test.YtcmmdkabocfnfaaGreatDoorRows
import Derived.Test.YtcmmdkabocfnfaaGreatDoorTie
import Derived.Test.YtcmmdkabocfnfaaGreatDoorCards
import Derived.Test.YtcmmdkabocfnfaaGreatDoorZrDraw
import Derived.Test.YtcmmdkabocfnfaaGreatDoorZrRound
import Derived.Test.YtcmmdkabocfnfaaGreatDoorZrBkSpC
import Derived.Test.YtcmmdkabocfnfaaGreatDoorZrBkGetI
import Derived.Test.YtcmmdkabocfnfaaGreatDoorZrBkPutI
import Derived.Test.YtcmmdkabocfnfaaGreatDoorZrBkOkI
import Derived.Test.YtcmmdkabocfnfaaGreatDoorZrGeLaid
import Derived.ChangeSame
import Derived.ChangeVars
import Derived.JoinedOf
import Derived.RowKitTokens
import Derived.WalkKit
import Derived.ProofKit
import Derived.OpenShut
import Derived.ShutString
import Derived.ChangeOld
import Derived.Below
import Derived.SliceStrings
import Derived.OpenVars
import Derived.SevenTiedAt
namespace Go.Proofs.YtcmmdkabocfnfaaGreatDoor
open Go.ChangeShapes Go.WideShapes Go.ChangeAt Go.RowKit
open Go.ChangeMaps (open_string shut_string)
set_option linter.unusedVariables false

theorem fnRead_own : ownKnob Tryz.prog.godebug = none := by kernel_rfl
theorem fnRead_laidOut : laidOutB Tryz.prog = true := by kernel_rfl

theorem few_bk0R : FewK bk0 := ⟨by simp [bk0], by simp [bk0], by simp [bk0], by simp [bk0], by simp [bk0], by simp [bk0], by simp [bk0], by simp [bk0], by simp [bk0], by simp [bk0, ByteArray.size], by simp [bk0, ByteArray.size]⟩
theorem few_gR (l : List UInt8) (hl : l.length ≤ 4000000) : FewK (gI l).1 := by
  unfold gI
  split
  · exact few_bI l hl
  · exact few_bk0R
theorem tr_gR (l : List UInt8) : -9223372036854775808 ≤ (gI l).1.tr ∧ (gI l).1.tr ≤ 9223372036854775807 := by
  unfold gI
  split
  · have := rN_bd l (y7 l)
    show -9223372036854775808 ≤ rN l (y7 l) ∧ rN l (y7 l) ≤ 9223372036854775807
    omega
  · show -9223372036854775808 ≤ (0 : Int) ∧ (0 : Int) ≤ 9223372036854775807
    omega
set_option maxRecDepth 20000 in
set_option maxHeartbeats 8000000 in
theorem fnRead_walk (a0 : Option Addr) (len0 cap0 : Nat) (z0 : List Int) (w : World) (b0 : Addr) (hge : Ge w b0) (hG : 0 < w.heap.size) (w0 : IsRow .u8 w a0 len0 cap0 z0) :
    Calls Tryz.prog 4 #[.slice a0 len0 cap0] w fun e w' => e = .returned (.bool true) ∧ Below w.heap.size w w' := by
  obtain ⟨cd, rfl, hr⟩ := w0.rd
  clear w0
  have hcap : cd.length ≤ 9223372036854775807 := by
    rcases hr with ⟨_, _, _, e, _⟩ | ⟨_, _, cap, _, _, h1, h2, _⟩
    · subst e; simp
    · unfold maxLen at h2; omega
  have Hbig := hide (big_any _ cd w hr hcap)
  by_cases hbig : 1048576 < cd.length
  · rw [decide_eq_true hbig] at Hbig
    clear hr
    go_enter Tryz.func4, Tryz.ntmps4
    go_wp2_with fail
    refine Hbig.out.mono ?_
    rintro e w' ⟨rfl, rfl⟩
    go_wp2
    go_ret
    exact ⟨rfl, Below.refl _ _⟩
  rw [decide_eq_false hbig] at Hbig
  have Hd := hide (drawGetBlock_any w _ cd hr (by omega))
  have HGe := hide (fun V (hV : Below w.heap.size w V) => hge.below hV hG)
  clear hr hge
  go_enter Tryz.func4, Tryz.ntmps4
  go_wp2_with fail
  refine Hbig.out.mono ?_
  rintro e w ⟨rfl, rfl⟩
  go_wp2_with fail
  refine Hd.out.mono ?_
  rintro e w2 ⟨v2, l, rfl, hr2, hl4, hb2⟩
  obtain ⟨a2, c2, rfl⟩ := hr2.shape
  have hz2 := hb2.size
  have hFX := few_gR l (by omega)
  have htr := tr_gR l
  have HGood := hide (fun h => gI_right (l := l) h)
  have HI := hide (implGetBlock_any (.slice a2 l.length c2) l w2 b0 hr2 hl4 (HGe.out w2 hb2) (by omega))
  have HS := hide (fun V (hV : Below w2.heap.size w2 V) => specGetBlock_any (.slice a2 l.length c2) l V (hr2.below hV (Nat.le_refl _)) hl4)
  rw [← g_same] at HS
  have HPB := hide (fun v V hr => implPutBlock_any (gI l).1 v V hr hFX htr)
  have HBO := hide (fun v V hr => implBlockOk_any (gI l).1 v V hr hFX htr)
  have Hr2 := hide hr2
  generalize (gI l).1 = X at HS HI HPB HBO HGood
  generalize (gI l).2 = FL at HS HI HGood
  clear hFX htr hr2 HGe Hd Hbig hbig hcap
  obtain ⟨id, ep, rd, md, qr, qb, qw, tr, tw, th, ts, en, nx, rt⟩ := X
  simp only [bkV] at HS HI HPB HBO
  go_wp2_with fail
  refine HI.out.mono ?_
  rintro e w3 ⟨v3, rfl, o3, -, hb3⟩
  have hB3 : Below w.heap.size w w3 := hb2.trans (hb3.mono hz2)
  have hz3 := hb3.size
  obtain ⟨vq, vw, vh, vt, vn⟩ := v3
  obtain ⟨aq3, cq3, e1⟩ := o3.q.rd.shape
  obtain ⟨aw3, cw3, e2⟩ := o3.p.rd.shape
  obtain ⟨ah3, ch3, e3⟩ := o3.h.rd.shape
  obtain ⟨at3, ct3, e4⟩ := o3.t.rd.shape
  obtain ⟨an3, cn3, e5⟩ := o3.n.rd.shape
  simp only at e1 e2 e3 e4 e5
  subst e1 e2 e3 e4 e5
  simp only
  obtain ⟨w4, hw4⟩ : ∃ x, w3.alloc (.cells #[.int .i64 id, .int .i64 ep, .int .i64 rd, .string md, .int .i64 qr, .int .i64 qb, .slice aq3 qw.length cq3, .int .i64 tr, .slice aw3 tw.length cw3, .slice ah3 th.length ch3, .slice at3 ts.length ct3, .bool en, .slice an3 nx.length cn3, .string rt] 32) = x := ⟨_, rfl⟩
  have b4 : Below w3.heap.size w3 w4 := by rw [← hw4]; exact (Below.refl _ w3).alloc (Nat.le_refl _) _
  have k4 : Blk w4 w3.heap.size 32 [.int .i64 id, .int .i64 ep, .int .i64 rd, .string md, .int .i64 qr, .int .i64 qb, .slice aq3 qw.length cq3, .int .i64 tr, .slice aw3 tw.length cw3, .slice ah3 th.length ch3, .slice at3 ts.length ct3, .bool en, .slice an3 nx.length cn3, .string rt] := by rw [← hw4]; exact Blk.new w3 _ _
  have hB4 : Below w.heap.size w w4 := hB3.trans (b4.mono hB3.size)
  have hb24 : Below w2.heap.size w2 w4 := hb3.trans (b4.mono hb3.size)
  have s4 : w3.heap.size < w4.heap.size := k4.lt
  have R3 := hide (RdK.below o3.rd b4 (Nat.le_refl _))
  have K4 := hide k4
  have Hw4 := hide hw4
  clear o3 k4 b4 hb3 HI hw4
  go_wp2_with fail
  rw [Hw4.out]
  refine (HS.out _ hb24).mono ?_
  rintro e w5 ⟨v5, rfl, o5, hb5⟩
  have hB5 : Below w.heap.size w w5 := hB4.trans (hb5.mono hB4.size)
  have hb25 : Below w2.heap.size w2 w5 := hb24.trans (hb5.mono hb24.size)
  have hz5 := hb5.size
  obtain ⟨vq, vw, vh, vt, vn⟩ := v5
  obtain ⟨aq5, cq5, e1⟩ := o5.q.rd.shape
  obtain ⟨aw5, cw5, e2⟩ := o5.p.rd.shape
  obtain ⟨ah5, ch5, e3⟩ := o5.h.rd.shape
  obtain ⟨at5, ct5, e4⟩ := o5.t.rd.shape
  obtain ⟨an5, cn5, e5⟩ := o5.n.rd.shape
  simp only at e1 e2 e3 e4 e5
  subst e1 e2 e3 e4 e5
  simp only
  obtain ⟨w6, hw6⟩ : ∃ x, w5.alloc (.cells #[.int .i64 id, .int .i64 ep, .int .i64 rd, .string md, .int .i64 qr, .int .i64 qb, .slice aq5 qw.length cq5, .int .i64 tr, .slice aw5 tw.length cw5, .slice ah5 th.length ch5, .slice at5 ts.length ct5, .bool en, .slice an5 nx.length cn5, .string rt] 32) = x := ⟨_, rfl⟩
  have b6 : Below w5.heap.size w5 w6 := by rw [← hw6]; exact (Below.refl _ w5).alloc (Nat.le_refl _) _
  have hB6 : Below w.heap.size w w6 := hB5.trans (b6.mono hB5.size)
  have hb26 : Below w2.heap.size w2 w6 := hb25.trans (b6.mono hb25.size)
  have k6 := (K4.out.below hb5 (Blk.lt K4.out)).below b6 (by omega)
  have R6 := (R3.out.below hb5 (Nat.le_refl _)).below b6 (Nat.le_refl _)
  have hz6 := b6.size
  have k6l := k6.lt
  have p0 := k6.cell 0
  have p1 := k6.cell 1
  have p2 := k6.cell 2
  have p3 := k6.cell 3
  have p4 := k6.cell 4
  have p5 := k6.cell 5
  have p6 := k6.cell 6
  have p7 := k6.cell 7
  have p8 := k6.cell 8
  have p9 := k6.cell 9
  have p10 := k6.cell 10
  have p11 := k6.cell 11
  have p12 := k6.cell 12
  have p13 := k6.cell 13
  simp only [List.getElem?_cons_zero, List.getElem?_cons_succ] at p0 p1 p2 p3 p4 p5 p6 p7 p8 p9 p10 p11 p12 p13
  have HSA : Hid (∀ V, Below w6.heap.size w6 V → (V.cell? ⟨w3.heap.size, 0, none⟩ = some (.int .i64 id) ∧ V.cell? ⟨w3.heap.size, 1, none⟩ = some (.int .i64 ep) ∧ V.cell? ⟨w3.heap.size, 2, none⟩ = some (.int .i64 rd) ∧ V.cell? ⟨w3.heap.size, 3, none⟩ = some (.string md) ∧ V.cell? ⟨w3.heap.size, 4, none⟩ = some (.int .i64 qr) ∧ V.cell? ⟨w3.heap.size, 5, none⟩ = some (.int .i64 qb) ∧ V.cell? ⟨w3.heap.size, 6, none⟩ = some (.slice aq3 qw.length cq3) ∧ V.cell? ⟨w3.heap.size, 7, none⟩ = some (.int .i64 tr) ∧ V.cell? ⟨w3.heap.size, 8, none⟩ = some (.slice aw3 tw.length cw3) ∧ V.cell? ⟨w3.heap.size, 9, none⟩ = some (.slice ah3 th.length ch3) ∧ V.cell? ⟨w3.heap.size, 10, none⟩ = some (.slice at3 ts.length ct3) ∧ V.cell? ⟨w3.heap.size, 11, none⟩ = some (.bool en) ∧ V.cell? ⟨w3.heap.size, 12, none⟩ = some (.slice an3 nx.length cn3) ∧ V.cell? ⟨w3.heap.size, 13, none⟩ = some (.string rt) ∧ (convert 22 9 (.slice a2 l.length c2)).run Tryz.prog V = .ok (.string ⟨l.toArray⟩) V)) := hide (fun V hv => by
    have kv := k6.below hv k6l
    have q0 := kv.cell 0
    have q1 := kv.cell 1
    have q2 := kv.cell 2
    have q3 := kv.cell 3
    have q4 := kv.cell 4
    have q5 := kv.cell 5
    have q6 := kv.cell 6
    have q7 := kv.cell 7
    have q8 := kv.cell 8
    have q9 := kv.cell 9
    have q10 := kv.cell 10
    have q11 := kv.cell 11
    have q12 := kv.cell 12
    have q13 := kv.cell 13
    simp only [List.getElem?_cons_zero, List.getElem?_cons_succ] at q0 q1 q2 q3 q4 q5 q6 q7 q8 q9 q10 q11 q12 q13
    exact ⟨q0, q1, q2, q3, q4, q5, q6, q7, q8, q9, q10, q11, q12, q13, str_any V _ _ (Hr2.out.below (hb26.trans (hv.mono hb26.size)) (Nat.le_refl _))⟩)
  have bD : Below w6.heap.size w6 w6.drew := (Below.refl _ w6).drew
  have HP6 := hide (fun V (hV : Below w6.heap.size w6 V) => HPB.out _ V (R6.below hV (Nat.le_refl _)))
  have HO6 := hide (fun V (hV : Below w6.heap.size w6 V) => HBO.out _ V (R6.below hV (Nat.le_refl _)))
  have HB6 := hide hB6
  have Hw6 := hide hw6
  clear o5 b6 hb5 k6 R6 R3 K4 hB6 hB5 hB4 hB3 hb26 hb25 hb24 HS HPB HBO Hw4 hw6
  cases FL
  · clear HSA HP6 HO6 HGood
    go_wp2
    all_goals (try rw [Hw6.out])
    refine wp_region_quiet_below (by kernel_rfl) (by kernel_rfl) ?_
    repeat (go_big_quiet_step (fail))
    refine wpQuiet_nil ?_
    intro _ hw9
    obtain ⟨⟨dq, osq⟩, hw8⟩ := hw9
    subst hw8
    have d1 := below_regrown w6 dq osq
    generalize Sort.grow (redrawn w6 dq) osq = u1 at d1 ⊢
    have HF := hide (HB6.out.trans (d1.mono HB6.out.size))
    clear d1
    go_wp2
    go_ret
    exact ⟨rfl, HF.out⟩
  · obtain ⟨hgb, hgl⟩ := HGood.out rfl
    rw [hgb] at HO6
    rw [hgl] at HP6
    clear HGood hgb hgl
    go_wp2
    all_goals (try rw [Hw6.out])
    go_region_held_law (fun w' => w'.cell? ⟨w3.heap.size, 0, none⟩ = some (.int .i64 id) ∧ w'.cell? ⟨w3.heap.size, 1, none⟩ = some (.int .i64 ep) ∧ w'.cell? ⟨w3.heap.size, 2, none⟩ = some (.int .i64 rd) ∧ w'.cell? ⟨w3.heap.size, 3, none⟩ = some (.string md) ∧ w'.cell? ⟨w3.heap.size, 4, none⟩ = some (.int .i64 qr) ∧ w'.cell? ⟨w3.heap.size, 5, none⟩ = some (.int .i64 qb) ∧ w'.cell? ⟨w3.heap.size, 6, none⟩ = some (.slice aq3 qw.length cq3) ∧ w'.cell? ⟨w3.heap.size, 7, none⟩ = some (.int .i64 tr) ∧ w'.cell? ⟨w3.heap.size, 8, none⟩ = some (.slice aw3 tw.length cw3) ∧ w'.cell? ⟨w3.heap.size, 9, none⟩ = some (.slice ah3 th.length ch3) ∧ w'.cell? ⟨w3.heap.size, 10, none⟩ = some (.slice at3 ts.length ct3) ∧ w'.cell? ⟨w3.heap.size, 11, none⟩ = some (.bool en) ∧ w'.cell? ⟨w3.heap.size, 12, none⟩ = some (.slice an3 nx.length cn3) ∧ w'.cell? ⟨w3.heap.size, 13, none⟩ = some (.string rt) ∧ (convert 22 9 (.slice a2 l.length c2)).run Tryz.prog w' = .ok (.string ⟨l.toArray⟩) w') ((refine HSA.out _ ?_; repeat (first | with_reducible exact bD | with_reducible exact d2 | with_reducible exact d1 | with_reducible exact Below.refl _ _ | refine Below.drew ?_))) ((first
      | (go_at_call 17; (with_reducible refine (HO6.out u1 d1).mono ?_); rintro e u2 ⟨rfl, hb2'⟩; have d2 := d1.trans (hb2'.mono d1.size))
      | (go_at_call 16; (with_reducible refine (HP6.out w6.drew bD).mono ?_); rintro e u1 ⟨v1, rfl, o1, hb1⟩; have d1 := bD.trans (hb1.mono bD.size); obtain ⟨a7, c7, rfl⟩ := o1.rd.shape; have cv1 := str_any u1 _ _ o1.rd)))
    have HF := hide (HB6.out.trans (d2.mono HB6.out.size))
    clear d2 d1 o1 hb1 hb2'
    go_wp2
    go_ret
    exact ⟨rfl, HF.out⟩

theorem fnRead_met (os : Os) (args : Array Value) : laidMetH Tryz.prog Rows.fnReadRow.laid ((sentOn (World.holding Tryz.prog os ⟨#[.cells #[.string noBlockS] 195], #[], []⟩) (World.holding Tryz.prog default ⟨#[], #[], []⟩).heap.size).forCall (fun _ _ => 0) ⟨#[], args, []⟩).memory := by
  rw [MakeChecks.laidMetH_plain _ _ _ (by kernel_rfl)]
  exact laidMet_of_run (ps := [.cell 0 0, .cell (World.holding Tryz.prog default ⟨#[], #[], []⟩).heap.size 0]) 8 (by kernel_rfl) (by kernel_rfl) (by kernel_rfl)
theorem fnRead_vars {H : Type} (enc : TypeId × Value → H) {W : World} {x0 : Value} (h0 : W.var? Tryz.prog "loop.example/g00194/impl.errNoBlock" = some #[x0]) (i0 : IsIface x0) (sp : Nat → Bool) :
    DataW.TrodVars enc Tryz.prog W sp ["loop.example/g00194/impl.errNoBlock"] [tok enc x0] [.cell 0 0] :=
  ⟨0, 58, #[x0], 1, [], [], Tryz.gEb, Tryz.gEbType, h0, trod_held Tryz.underlying58 i0 0, rfl, rfl⟩

set_option maxRecDepth 100000 in
theorem fnRead_lifted (os : Os) (started : os.Started) (H : Type) (enc : TypeId × Value → H) :
    ReturnsInHanded {} Tryz.checked os 4 .any (fun w args => (Rows.fnReadSpec.pre enc Tryz.prog Tryz.f4 [] false w args ∧ laidMetH Tryz.prog Rows.fnReadRow.laid w) ∧ sizedMet enc Tryz.prog Tryz.f4 (OpenSpec.ofChange Rows.fnReadSpec) false w args)
      (Rows.fnReadSpec.post enc Tryz.prog Tryz.f4 false true false false) := by
  refine returnsInHanded_of_change_and (C := Tryz.checked) (X := fun w _ => laidMetH Tryz.prog Rows.fnReadRow.laid w) (fun _ _ _ hh h => h.of_heap hh) fnRead_own started (by kernel_rfl) Tryz.func4
    (ChangeSpec.witness_at (enc := enc) (C := Tryz.checked) (os := os) (X := fun w _ => laidMetH Tryz.prog Rows.fnReadRow.laid w) false (sentOn (World.holding Tryz.prog os ⟨#[.cells #[.string noBlockS] 195], #[], []⟩) (World.holding Tryz.prog default ⟨#[], #[], []⟩).heap.size) #[.slice none 0 0] 8 rfl (by kernel_rfl) (by kernel_rfl) (by kernel_rfl) (by kernel_rfl) (by kernel_rfl) (fnRead_met os _)) ?_
  intro W base args ds gs before hval0 hW _ _ hL0 _
  have hL : laidMet Tryz.prog Rows.fnReadRow.laid W := by rw [MakeChecks.laidMetH_plain _ _ _ (by kernel_rfl)] at hL0; exact hL0
  have hval : ∀ (j : Nat) t v, Tryz.f4.params[j]? = some t → args[j]? = some v → Value.okWide Tryz.prog W .any base t v := hval0
  have hW' := hW
  obtain ⟨p, q, hA0, hV0, rfl, hfz, hnd⟩ := hW
  have hV : DataW.TrodVars enc Tryz.prog W (fun _ => true) ["loop.example/g00194/impl.errNoBlock"] gs q := hV0
  obtain ⟨b0, s0, hv0, hc0, hs0, hz0⟩ := laid_sentinel hL Tryz.gEb Tryz.gEbType Tryz.underlying58 Tryz.rowEb Tryz.underlying171 Tryz.underlying195 rfl rfl Tryz.underlying9 Tryz.cellsEs Tryz.cellsStr
  obtain ⟨rfl, rfl⟩ := hV.unique (fnRead_vars enc hv0 trivial _)
  have hge : Ge W b0 := by unfold Ge sentV; simpa using World.var?_cell Tryz.gEb hv0 0
  have hG : 0 < W.heap.size := by
    rcases Nat.lt_or_ge 0 W.heap.size with h | h
    · exact h
    · unfold Ge at hge; simp [World.cell?, Array.getElem?_eq_none h] at hge
  have hA : DataW.TrodAll enc Tryz.prog W 0 (fun _ => true) true Tryz.f4.params.toList args.toList ds p := hA0
  rw [Tryz.params4] at hA hval
  obtain ⟨v0, vs0, d0, ds0, p0, q0, hargs, rfl, rfl, h0, r0⟩ := trodAll_cons hA
  obtain ⟨rfl, rfl, rfl⟩ := trodAll_nil r0
  obtain rfl : args = #[v0] := by cases args; simp_all
  obtain ⟨a0, len0, cap0, rfl⟩ := okWide_slice Tryz.underlying22 (hval 0 22 v0 rfl rfl)
  have k0 := h0
  have lt0 : ∀ x ∈ p0, x.block < W.heap.size := by obtain ⟨m, hm⟩ := k0; exact DataW.trod_lt m _ _ _ hm
  obtain ⟨z0, w0⟩ : ∃ zs, IsRow .u8 W a0 len0 cap0 zs := by
    obtain ⟨fuel, hf⟩ := h0
    rcases open_ints Tryz.underlying22 Tryz.underlying5 (by kernel_rfl) hf with ⟨hcs, _⟩ | ⟨x, l, c, zs, hcs, _, hl, hm, hz, _, hcell, hwz⟩
    · simp [Value.cells] at hcs
      obtain ⟨rfl, rfl, rfl⟩ := hcs
      exact ⟨[], .inl ⟨rfl, rfl, rfl, rfl⟩⟩
    · simp [Value.cells] at hcs
      obtain ⟨rfl, rfl, rfl⟩ := hcs
      exact ⟨zs, .inr ⟨_, rfl, hl, hm, by simpa using hz, hcell, hwz⟩⟩
  clear hA0 hval0
  refine (fnRead_walk a0 len0 cap0 z0 W b0 hge hG w0).mono fun e W' ⟨he, bel⟩ => ?_
  subst he
  exact ⟨_, rfl, _, _, _, [], _, [.cell 0 0], hW', trodAll_mk1 (shut_bool Tryz.underlying4 _), (trodAll_cons_mk (Below.trod fnRead_laidOut (by kernel_rfl) (of_decide_eq_true (by kernel_rfl)) k0 bel lt0) trodAll_mk0), fnRead_vars enc (var_belowE hv0 bel hG) trivial _, bel.frame _, fun h => by cases h⟩

theorem fnRead_holds : Rows.FnReadSaid :=
  OpenClaim.holds_of_wide 4 Tryz.f4 rfl rfl rfl rfl rfl rfl rfl ⟨rfl, rfl, rfl, rfl, rfl⟩ rfl rfl rfl rfl rfl (by kernel_rfl) Tryz.func4 (by kernel_rfl)
    (of_decide_eq_true (by kernel_rfl)) (by unfold Func.isWrapper; first | (rw [if_pos (by decide +kernel)]; kernel_rfl) | (rw [if_neg (by decide +kernel)]; exact ⟨rfl, rfl⟩))
    (fun os started H enc _ => fnRead_lifted os started H enc)

/-- The card: the variable is tied to the program's text by the given tie. -/
theorem fnRead_card : Rows.FnReadCardSaid :=
  Claim7.holds_tied_plain_at .later [] [.sentinel] true Rows.fnReadCard.stood.harness true
    fnRead_holds (fun _ h => by cases h) (by kernel_rfl) (fun _ h => by cases h) fnRead_row_tie rfl ⟨rfl, rfl⟩ (by kernel_rfl) rfl
    (fun f fn hf hfn => by
      obtain rfl : f = 4 := Option.some.inj ((show Tryz.prog.funcNamed Rows.fnReadRow.func = some 4 by kernel_rfl).symm.trans hf) |>.symm
      obtain rfl : fn = Tryz.f4 := (Option.some.inj (Tryz.func4.symm.trans hfn)).symm
      exact ⟨by kernel_rfl, fun j t ht => by
        rw [Tryz.params4] at ht
        have hm : t ∈ [22] := by simpa using Array.mem_of_getElem? ht
        have hall : ([22].all fun u => !Tryz.prog.wantsStandIn u) = true := by kernel_rfl
        exact (show Tryz.prog.wantsStandIn t = false by simpa using List.all_eq_true.1 hall t hm)⟩)
    (by kernel_rfl)

end Go.Proofs.YtcmmdkabocfnfaaGreatDoor
