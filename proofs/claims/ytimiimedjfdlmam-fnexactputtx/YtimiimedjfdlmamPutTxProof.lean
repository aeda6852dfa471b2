/- At all bytes and every order PutTx of the program answers as the model's PutTx, writes into no argument, and its answer owns its memory: the law FnExactPutTx returns true, with no condition. -/
import Derived.Test.YtimiimedjfdlmamRows
import Derived.Test.YtimiimedjfdlmamRow
import Derived.Test.YtimiimedjfdlmamTxOpen
import Derived.Test.YtimiimedjfdlmamTxPut
import Derived.Test.YtimiimedjfdlmamTxPutI
import Derived.Test.YtimiimedjfdlmamMarks
import Derived.Test.YtimiimedjfdlmamHeld
import Derived.WalkKit
import Derived.ProofKit
import Derived.OpenShut
import Derived.ShutString
import Derived.ChangeOld
import Derived.Below
import Derived.SliceStrings
namespace Go.Proofs.Ytimiimedjfdlmam
open Go.ChangeShapes Go.WideShapes Go.ChangeAt Go.RowKit
open Go.ChangeMaps (open_string shut_string)
set_option linter.unusedVariables false

theorem fnExactPutTx_own : ownKnob Try.prog.godebug = none := by kernel_rfl
theorem fnExactPutTx_laidOut : laidOutB Try.prog = true := by kernel_rfl

set_option maxRecDepth 20000 in
set_option maxHeartbeats 4000000 in
theorem fnExactPutTx_walk (a0 : Option Addr) (len0 cap0 : Nat) (z0 : List Int) (z1 : Tx5) (w : World) (w0 : IsRow .u8 w a0 len0 cap0 z0) (w1 : z1.2.1.size ≤ maxLen ∧ z1.2.2.1.size ≤ maxLen ∧ (Lit.int .i64 z1.1).wf = true ∧ (Lit.int .i64 z1.2.2.2.1).wf = true ∧ (Lit.int .i64 z1.2.2.2.2).wf = true) :
    Calls Try.prog 3 #[.slice a0 len0 cap0, txV z1] w fun e w' => e = .returned (.bool true) ∧ Below w.heap.size w w' := by
  obtain ⟨l, rfl, hr⟩ := w0.rd
  obtain ⟨h1, h2, f1, f2, f3⟩ := w1
  have i1 := wf_i64 f1
  have i2 := wf_i64 f2
  have i3 := wf_i64 f3
  clear w0 f1 f2 f3
  have hcap : l.length ≤ 9223372036854775807 := by
    rcases hr with ⟨_, _, _, e, _⟩ | ⟨_, _, cap, _, _, h1, h2, _⟩
    · subst e; simp
    · unfold maxLen at h2; omega
  have Hz := hide (fun w => szTx_any z1 1048576 w (by omega) (by omega) (by unfold maxLen at h1; omega) (by unfold maxLen at h2; omega))
  have Hfit : Hid (¬ szT z1 1048576 < 0 → z1.2.1.size + z1.2.2.1.size ≤ 1048576) := hide (fun h => by have := szT_ok z1 1048576 (by omega); omega)
  have HT := hide (fun w => toTx_any z1 w)
  have HPl := hide (txP_len z1)
  have HS0 := hide (fun v w hr hl q1 q2 => specPutTx_any v l z1 w hr hl q1 q2 i1 i2 i3)
  have HI0 := hide (fun v w hr hl q1 q2 => implPutTx_any v l z1 w hr hl q1 q2 i1 i2 i3)
  obtain ⟨P, hP⟩ : ∃ P, l ++ (if txB z1 = true then txP z1 else []) = P := ⟨_, rfl⟩
  have HPP : Hid (z1.2.1.size + z1.2.2.1.size ≤ 1048576 → P.length ≤ l.length + 1048606) := hide (fun h => by
    rw [← hP, List.length_append]
    have := HPl.out
    split
    · omega
    · simp)
  rw [hP] at HS0 HI0
  clear hP HPl h1 h2 i1 i2 i3
  obtain ⟨k, f, to, am, no⟩ := z1
  have hT : TxAt (w.alloc (.cells #[.int .i64 k, .string f, .string to, .int .i64 am, .int .i64 no] 24)) w.heap.size (k, f, to, am, no) := by
    refine ⟨?_, ?_, ?_, ?_, ?_⟩ <;> (rw [World.cell?_alloc_at _ _ _ _ rfl]; rfl)
  obtain ⟨wA, hwA⟩ : ∃ wA, w.alloc (.cells #[.int .i64 k, .string f, .string to, .int .i64 am, .int .i64 no] 24) = wA := ⟨_, rfl⟩
  have hBA : Below w.heap.size w wA := by rw [← hwA]; exact (Below.refl _ w).alloc (Nat.le_refl _) _
  have hsA : wA.heap.size = w.heap.size + 1 := by rw [← hwA]; simp
  rw [hwA] at hT
  have HTA := hide hT
  have HrA := hide (hr.below hBA (Nat.le_refl _))
  obtain ⟨c0, c1, c2, c3, c4⟩ := hT
  simp only [txV] at *
  have HBA := hide hBA
  clear hr hBA
  by_cases hbig : 1048576 < l.length
  · go_enter Try.func3, Try.ntmps3
    go_wp2
    go_ret
    exact ⟨rfl, HBA.out⟩
  by_cases hneg : szT (k, f, to, am, no) 1048576 < 0
  · generalize szT (k, f, to, am, no) 1048576 = z at hneg Hz
    clear Hfit
    go_enter Try.func3, Try.ntmps3
    go_wp2_with fail
    refine (Hz.out _).mono ?_
    rintro e w1 ⟨rfl, hb1⟩
    have HB1 := hide (HBA.out.trans (hb1.mono HBA.out.size))
    clear c0 c1 c2 c3 c4 hb1
    go_wp2
    go_ret
    exact ⟨rfl, HB1.out⟩
  · have hfit := Hfit.out hneg
    have hPl := HPP.out hfit
    have hl4 : l.length ≤ 4000000 := by omega
    have HS := hide (fun v w hr => HS0.out v w hr (by omega) (by omega) (by omega))
    have HI := hide (fun v w hr => HI0.out v w hr (by omega) (by omega) (by omega))
    have HY := hide (fun v w h => toByteS_any v l w h hl4)
    generalize szT (k, f, to, am, no) 1048576 = z at hneg Hz
    have HSof : Hid (∀ W, Below wA.heap.size wA W → W.cell? ⟨w.heap.size, 0, none⟩ = some (.int .i64 k) ∧ W.cell? ⟨w.heap.size, 1, none⟩ = some (.string f) ∧ W.cell? ⟨w.heap.size, 2, none⟩ = some (.string to) ∧ W.cell? ⟨w.heap.size, 3, none⟩ = some (.int .i64 am) ∧ W.cell? ⟨w.heap.size, 4, none⟩ = some (.int .i64 no)) := hide (fun W h => HTA.out.below h (by omega))
    clear Hfit HPP HS0 HI0 hfit
    go_enter Try.func3, Try.ntmps3
    go_wp2_with fail
    refine (Hz.out _).mono ?_
    rintro e w1 ⟨rfl, hb1⟩
    have hA1 : Below wA.heap.size wA w1.drew := hb1.drew
    have hSd := HSof.out _ hA1
    clear c0 c1 c2 c3 c4
    go_wp2
    go_region_held_law (fun W => W.cell? ⟨w.heap.size, 0, none⟩ = some (.int .i64 k) ∧ W.cell? ⟨w.heap.size, 1, none⟩ = some (.string f) ∧ W.cell? ⟨w.heap.size, 2, none⟩ = some (.string to) ∧ W.cell? ⟨w.heap.size, 3, none⟩ = some (.int .i64 am) ∧ W.cell? ⟨w.heap.size, 4, none⟩ = some (.int .i64 no)) (first | exact hSd | exact hS2 | exact hS3 | exact hS4) (first
      | (go_at_call 7; refine (HS.out _ _ (ho2.rd.below hb3 (Nat.le_refl _))).mono ?_; rintro e w4 ⟨v4, rfl, ho4, hb4⟩; have hA4 : Below wA.heap.size wA w4 := hA3.trans (hb4.mono hA3.size); have hS4 := HSof.out _ hA4)
      | (go_at_call 9; refine (HT.out _).mono ?_; rintro e w3 ⟨rfl, hb3⟩; have hA3 : Below wA.heap.size wA w3 := hA2.trans (hb3.mono hA2.size); have hS3 := HSof.out _ hA3)
      | (go_at_call 8; refine (HY.out _ _ (HrA.out.below hA1 (Nat.le_refl _))).mono ?_; rintro e w2 ⟨v2, rfl, ho2, hb2⟩; have hA2 : Below wA.heap.size wA w2 := hA1.trans (hb2.mono hA1.size); have hS2 := HSof.out _ hA2))
    have lt4 := ho4.lt
    clear hSd hS2 hS3 hS4 ho2 hb2 hb3 hA1 hA2 hA3
    go_wp2_with fail
    refine (HY.out _ _ (HrA.out.below hA4 (Nat.le_refl _))).mono ?_
    rintro e w5 ⟨v5, rfl, ho5, hb5⟩
    have hA5 : Below wA.heap.size wA w5 := hA4.trans (hb5.mono hA4.size)
    have ho4 := ho4.below hb5 (Nat.le_refl _)
    have ge5 := ho5.ge
    have lt5 := ho5.lt
    obtain ⟨d0, d1, d2, d3, d4⟩ := HTA.out.below hA5 (by omega)
    simp only at d0 d1 d2 d3 d4
    go_wp2_with fail
    refine (HT.out _).mono ?_
    rintro e w6 ⟨rfl, hb6⟩
    have hA6 : Below wA.heap.size wA w6 := hA5.trans (hb6.mono hA5.size)
    have ho4 := ho4.below hb6 (Nat.le_refl _)
    have ho5 := ho5.below hb6 (Nat.le_refl _)
    clear d0 d1 d2 d3 d4
    go_wp2_with fail
    refine (HI.out _ _ ho5.rd).mono ?_
    rintro e w7 ⟨v7, rfl, ho7, hb7⟩
    have hA7 : Below wA.heap.size wA w7 := hA6.trans (hb7.mono hA6.size)
    have ho4 := ho4.below hb7 (Nat.le_refl _)
    have ho5 := ho5.below hb7 (Nat.le_refl _)
    have ge7 := ho7.ge
    go_wp2_with fail
    refine (eqByteS_any _ _ P P _ ho7.rd ho4.rd (by omega) (by omega)).mono ?_
    rintro e w8 ⟨rfl, hs8⟩
    have hA8 : Below wA.heap.size wA w8 := hA7.trans (hs8 _)
    have ho4 := ho4.below (hs8 _) (Nat.le_refl _)
    have ho5 := ho5.below (hs8 _) (Nat.le_refl _)
    have ho7 := ho7.below (hs8 _) (Nat.le_refl _)
    go_wp2_with fail
    refine (HY.out _ _ (HrA.out.below hA8 (Nat.le_refl _))).mono ?_
    rintro e w9 ⟨v9, rfl, ho9, hb9⟩
    have hA9 : Below wA.heap.size wA w9 := hA8.trans (hb9.mono hA8.size)
    have ho4 := ho4.below hb9 (Nat.le_refl _)
    have ho5 := ho5.below hb9 (Nat.le_refl _)
    have ho7 := ho7.below hb9 (Nat.le_refl _)
    go_wp2_with fail
    refine (eqByteS_any _ _ l l _ ho5.rd ho9.rd (by omega) (by omega)).mono ?_
    rintro e w10 ⟨rfl, hs10⟩
    have hA10 : Below wA.heap.size wA w10 := hA9.trans (hs10 _)
    have ho4 := ho4.below (hs10 _) (Nat.le_refl _)
    have ho5 := ho5.below (hs10 _) (Nat.le_refl _)
    have ho7 := ho7.below (hs10 _) (Nat.le_refl _)
    clear ho9
    go_wp2_with fail
    refine (markByteS_any _ l 1 _ _ ho5 (by omega) (by omega)).mono ?_
    rintro e w11 ⟨rfl, -, hg11⟩
    have hA11 : Below wA.heap.size wA w11 := hA10.grown hg11 hA10.size (fun j hj => Nat.le_trans hA4.size (ge5 j hj))
    have ho4 := ho4.kept hg11 (apart_of lt4 ge5 (Nat.le_refl _))
    have ho7 := ho7.kept hg11 (apart_of' ge7 lt5 hb6.size)
    go_wp2_with fail
    refine (eqByteS_any _ _ P P _ ho7.rd ho4.rd (by omega) (by omega)).mono ?_
    rintro e w12 ⟨rfl, hs12⟩
    have hA12 : Below wA.heap.size wA w12 := hA11.trans (hs12 _)
    have ho4 := ho4.below (hs12 _) (Nat.le_refl _)
    have ho7 := ho7.below (hs12 _) (Nat.le_refl _)
    go_wp2_with fail
    refine (markByteS_any _ P 1 _ _ ho7 (by omega) (by omega)).mono ?_
    rintro e w13 ⟨rfl, hm7, hg13⟩
    have hA13 : Below wA.heap.size wA w13 := hA12.grown hg13 hA12.size (fun j hj => Nat.le_trans hA6.size (ge7 j hj))
    have ho4 := ho4.kept hg13 (apart_of lt4 ge7 (Nat.le_trans hb5.size hb6.size))
    go_wp2_with fail
    refine (heldByteS_any _ 1 P.length _ hm7.rd (by omega) (by omega)).mono ?_
    rintro e w14 ⟨rfl, rfl⟩
    have hA14d : Below wA.heap.size wA w14.drew := hA13.drew
    have hSe := HSof.out _ hA14d
    go_wp2
    go_region_held_law (fun W => W.cell? ⟨w.heap.size, 0, none⟩ = some (.int .i64 k) ∧ W.cell? ⟨w.heap.size, 1, none⟩ = some (.string f) ∧ W.cell? ⟨w.heap.size, 2, none⟩ = some (.string to) ∧ W.cell? ⟨w.heap.size, 3, none⟩ = some (.int .i64 am) ∧ W.cell? ⟨w.heap.size, 4, none⟩ = some (.int .i64 no)) (first | exact hSe | exact hS15 | exact hS16 | exact hS17) (first
      | (go_at_call 10; refine (HI.out _ _ (ho15.rd.below hb16 (Nat.le_refl _))).mono ?_; rintro e w17 ⟨v17, rfl, ho17, hb17⟩; have hA17 : Below wA.heap.size wA w17 := hA16.trans (hb17.mono hA16.size); have hS17 := HSof.out _ hA17)
      | (go_at_call 9; refine (HT.out _).mono ?_; rintro e w16 ⟨rfl, hb16⟩; have hA16 : Below wA.heap.size wA w16 := hA15.trans (hb16.mono hA15.size); have hS16 := HSof.out _ hA16)
      | (go_at_call 8; refine (HY.out _ _ (HrA.out.below hA14d (Nat.le_refl _))).mono ?_; rintro e w15 ⟨v15, rfl, ho15, hb15⟩; have hA15 : Below wA.heap.size wA w15 := hA14d.trans (hb15.mono hA14d.size); have hS15 := HSof.out _ hA15))
    have hb1417 : Below w14.heap.size w14 w17 := (((Below.refl w14.heap.size w14).drew.trans (hb15.mono (Nat.le_refl _))).trans (hb16.mono hb15.size)).trans (hb17.mono (Nat.le_trans hb15.size hb16.size))
    have ho4 := ho4.below hb1417 (Nat.le_refl _)
    have hm7 := hm7.below hb1417 (Nat.le_refl _)
    clear hSe hS15 hS16 hS17 ho15 hb15 hb16 hb17 hA14d hA15 hA16 hb1417
    go_wp2_with fail
    refine (eqByteS_any _ _ P P _ ho17.rd ho4.rd (by omega) (by omega)).mono ?_
    rintro e w18 ⟨rfl, hs18⟩
    have hA18 : Below wA.heap.size wA w18 := hA17.trans (hs18 _)
    have hm7 := hm7.below (hs18 _) (Nat.le_refl _)
    go_wp2_with fail
    refine (heldByteS_any _ 1 P.length _ hm7.rd (by omega) (by omega)).mono ?_
    rintro e w19 ⟨rfl, rfl⟩
    have HB := hide (HBA.out.trans (hA18.mono HBA.out.size))
    clear ho4 ho17 hm7
    go_wp2
    go_ret
    exact ⟨rfl, HB.out⟩

set_option maxRecDepth 100000 in
theorem fnExactPutTx_lifted (os : Os) (started : os.Started) (H : Type) (enc : TypeId × Value → H) :
    ReturnsInHanded {} Try.checked os 3 .any (Rows.fnExactPutTxSpec.pre6 enc Try.prog Try.f3 Rows.fnExactPutTxRow.domain false) (Rows.fnExactPutTxSpec.post enc Try.prog Try.f3 false true false false) := by
  refine returnsInHanded_of_change (C := Try.checked) fnExactPutTx_own started (by kernel_rfl) Try.func3
    (ChangeSpec.witness6 (enc := enc) (C := Try.checked) false ⟨#[], #[.slice none 0 0, .agg #[.int .i64 0, .string ByteArray.empty, .string ByteArray.empty, .int .i64 0, .int .i64 0]], []⟩ 8 (by kernel_rfl) (by kernel_rfl) (by kernel_rfl) (by kernel_rfl)) ?_
  intro W base args ds gs before hval0 hW hcnd _
  have hval : ∀ (j : Nat) t v, Try.f3.params[j]? = some t → args[j]? = some v → Value.okWide Try.prog W .any base t v := hval0
  have hW' := hW
  obtain ⟨p, q, hA0, hV, rfl, hfz, hnd⟩ := hW
  have hA : DataW.TrodAll enc Try.prog W 0 (fun _ => true) true Try.f3.params.toList args.toList ds p := hA0
  rw [Try.params3] at hA hval
  obtain ⟨v0, vs0, d0, ds0, p0, q0, hargs, rfl, rfl, h0, r0⟩ := trodAll_cons hA
  obtain ⟨v1, vs1, d1, ds1, p1, q1, rfl, rfl, rfl, h1, r1⟩ := trodAll_cons r0
  obtain ⟨rfl, rfl, rfl⟩ := trodAll_nil r1
  obtain rfl : args = #[v0, v1] := by cases args; simp_all
  obtain ⟨rfl, rfl⟩ := trodVars_none hV
  obtain ⟨a0, len0, cap0, rfl⟩ := okWide_slice Try.underlying22 (hval 0 22 v0 rfl rfl)
  have k0 := h0
  have lt0 : ∀ x ∈ p0, x.block < W.heap.size := by obtain ⟨m, hm⟩ := k0; exact DataW.trod_lt m _ _ _ hm
  obtain ⟨z0, w0⟩ : ∃ zs, IsRow .u8 W a0 len0 cap0 zs := by
    obtain ⟨fuel, hf⟩ := h0
    rcases open_ints Try.underlying22 Try.underlying5 (by kernel_rfl) hf with ⟨hcs, _⟩ | ⟨x, l, c, zs, hcs, _, hl, hm, hz, _, hcell, hwz⟩
    · simp [Value.cells] at hcs
      obtain ⟨rfl, rfl, rfl⟩ := hcs
      exact ⟨[], .inl ⟨rfl, rfl, rfl, rfl⟩⟩
    · simp [Value.cells] at hcs
      obtain ⟨rfl, rfl, rfl⟩ := hcs
      exact ⟨zs, .inr ⟨_, rfl, hl, hm, by simpa using hz, hcell, hwz⟩⟩
  have k1 := h1
  have lt1 : ∀ x ∈ p1, x.block < W.heap.size := by obtain ⟨m, hm⟩ := k1; exact DataW.trod_lt m _ _ _ hm
  obtain ⟨z1, rfl, w1⟩ : ∃ t : Tx5, v1 = txV t ∧ t.2.1.size ≤ maxLen ∧ t.2.2.1.size ≤ maxLen ∧ (Lit.int .i64 t.1).wf = true ∧ (Lit.int .i64 t.2.2.2.1).wf = true ∧ (Lit.int .i64 t.2.2.2.2).wf = true := by
    obtain ⟨cs, rfl, hsz⟩ := okWide_struct Try.underlying24 (hval 1 24 _ rfl rfl)
    obtain ⟨fuel, hf⟩ := h1
    obtain ⟨t, e, r⟩ := open_tx (by simpa [Value.cells] using hf)
    exact ⟨t, by cases cs; simp at e; subst e; rfl, r⟩
  clear hA0 hval0
  refine (fnExactPutTx_walk a0 len0 cap0 z0 z1 W w0 w1).mono fun e W' ⟨he, bel⟩ => ?_
  subst he
  exact ⟨_, rfl, _, _, _, [], _, [], hW', trodAll_mk1 (shut_bool Try.underlying4 _), (trodAll_cons_mk (Below.trod fnExactPutTx_laidOut (by kernel_rfl) (of_decide_eq_true (by kernel_rfl)) k0 bel lt0) (trodAll_cons_mk (Below.trod fnExactPutTx_laidOut (by kernel_rfl) (of_decide_eq_true (by kernel_rfl)) k1 bel lt1) trodAll_mk0)), rfl, bel.frame _, fun h => by cases h⟩

theorem fnExactPutTx_holds : Rows.FnExactPutTxSaid :=
  OpenClaim.holds_of_wide 3 Try.f3 rfl rfl rfl rfl rfl rfl rfl ⟨rfl, rfl, rfl, rfl, rfl⟩ rfl rfl rfl rfl rfl (by kernel_rfl) Try.func3 (by kernel_rfl)
    (of_decide_eq_true (by kernel_rfl)) (by unfold Func.isWrapper; first | (rw [if_pos (by decide +kernel)]; kernel_rfl) | (rw [if_neg (by decide +kernel)]; exact ⟨rfl, rfl⟩))
    (fun os started H enc _ => fnExactPutTx_lifted os started H enc)

end Go.Proofs.Ytimiimedjfdlmam
