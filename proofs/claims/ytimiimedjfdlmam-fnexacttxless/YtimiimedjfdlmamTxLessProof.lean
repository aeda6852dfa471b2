/- At every two orders TxLess of the program answers as the model's TxLess: the law FnExactTxLess returns true, with no condition. -/
import Derived.Test.YtimiimedjfdlmamRows
import Derived.Test.YtimiimedjfdlmamTxOpen
import Derived.Test.YtimiimedjfdlmamTxSpec
import Derived.Test.YtimiimedjfdlmamTxAtL
import Derived.Test.YtimiimedjfdlmamTxLessI
import Derived.WalkKit
import Derived.ProofKit
import Derived.OpenShut
import Derived.ShutString
import Derived.ChangeOld
import Derived.Below
import Derived.SliceStrings
namespace Go.Proofs.Ytimiimedjfdlmam
open Go.ChangeShapes Go.WideShapes Go.ChangeAt Go.RowKit
open Go.ChangeMaps (open_string shut_string)
set_option linter.unusedVariables false

theorem fnExactTxLess_own : ownKnob Try.prog.godebug = none := by kernel_rfl
theorem fnExactTxLess_laidOut : laidOutB Try.prog = true := by kernel_rfl

set_option maxRecDepth 20000 in
set_option maxHeartbeats 2000000 in
theorem fnExactTxLess_walk (z0 z1 : Tx5) (w : World) (w0 : z0.2.1.size ≤ maxLen ∧ z0.2.2.1.size ≤ maxLen ∧ (Lit.int .i64 z0.1).wf = true ∧ (Lit.int .i64 z0.2.2.2.1).wf = true ∧ (Lit.int .i64 z0.2.2.2.2).wf = true) (w1 : z1.2.1.size ≤ maxLen ∧ z1.2.2.1.size ≤ maxLen ∧ (Lit.int .i64 z1.1).wf = true ∧ (Lit.int .i64 z1.2.2.2.1).wf = true ∧ (Lit.int .i64 z1.2.2.2.2).wf = true) :
    Calls Try.prog 5 #[txV z0, txV z1] w fun e w' => e = .returned (.bool true) ∧ Below w.heap.size w w' := by
  obtain ⟨h1, h2, -, -, -⟩ := w0
  obtain ⟨g1, g2, -, -, -⟩ := w1
  have Hz := hide (fun w => szTx_any z0 1048576 w (by omega) (by omega) (by unfold maxLen at h1; omega) (by unfold maxLen at h2; omega))
  have hzle : szT z0 1048576 ≤ 1048576 := by
    unfold szT
    split
    · omega
    · split <;> omega
  have Hz1 : Hid (∀ z : Int, 0 ≤ z → z ≤ 1048576 → ∀ w, Calls Try.prog 6 #[txV z1, .int .i64 z] w fun e w' => e = .returned (.int .i64 (szT z1 z)) ∧ Below w.heap.size w w') := hide (fun z q1 q2 w => szTx_any z1 z w q1 (by omega) (by unfold maxLen at g1; omega) (by unfold maxLen at g2; omega))
  have HT0 := hide (fun w => toTx_any z0 w)
  have HT1 := hide (fun w => toTx_any z1 w)
  have HS := hide (fun w => specTxLess_any z0 z1 w)
  have HI := hide (fun w => implTxLess_any z0 z1 w)
  generalize lessT z0 z1 = B at HS HI
  generalize szT z0 1048576 = z at Hz hzle
  obtain ⟨k, f, to, am, no⟩ := z0
  obtain ⟨k', f', to', am', no'⟩ := z1
  simp only [txV] at *
  obtain ⟨wA, hwA⟩ : ∃ wA, (w.alloc (.cells #[.int .i64 k, .string f, .string to, .int .i64 am, .int .i64 no] 24)).alloc (.cells #[.int .i64 k', .string f', .string to', .int .i64 am', .int .i64 no'] 24) = wA := ⟨_, rfl⟩
  have HBA : Hid (Below w.heap.size w wA) := hide (by rw [← hwA]; exact ((Below.refl _ w).alloc (Nat.le_refl _) _).alloc (by simp) _)
  have hsA : wA.heap.size = w.heap.size + 2 := by rw [← hwA]; simp
  have hT : TxAtL wA w.heap.size (k, f, to, am, no) := by
    rw [← hwA]
    have h : TxAtL (w.alloc (.cells #[.int .i64 k, .string f, .string to, .int .i64 am, .int .i64 no] 24)) w.heap.size (k, f, to, am, no) := by
      refine ⟨?_, ?_, ?_, ?_, ?_⟩ <;> (rw [World.cell?_alloc_at _ _ _ _ rfl]; rfl)
    exact h.below ((Below.refl (w.heap.size + 1) _).alloc (by simp) _) (by omega)
  have hU : TxAtL wA (w.heap.size + 1) (k', f', to', am', no') := by
    rw [← hwA]
    refine ⟨?_, ?_, ?_, ?_, ?_⟩ <;> (rw [World.cell?_alloc_at _ _ _ _ (by simp)]; rfl)
  have HTA := hide hT
  have HUA := hide hU
  obtain ⟨c0, c1, c2, c3, c4⟩ := hT
  simp only at c0 c1 c2 c3 c4
  clear h1 h2 g1 g2 hU
  by_cases hneg : z < 0
  · clear HT0 HT1 HS HI Hz1
    go_enter Try.func5, Try.ntmps5
    go_wp2_with fail
    refine (Hz.out _).mono ?_
    rintro e w1 ⟨rfl, hb1⟩
    go_wp2
    go_ret
    exact ⟨rfl, HBA.out.trans (hb1.mono HBA.out.size)⟩
  · have Hz1 := hide (Hz1.out z (by omega) hzle)
    generalize szT (k', f', to', am', no') z = y at Hz1
    go_enter Try.func5, Try.ntmps5
    go_wp2_with fail
    refine (Hz.out _).mono ?_
    rintro e w1 ⟨rfl, hb1⟩
    have hA1 : Below wA.heap.size wA w1 := hb1
    obtain ⟨d0, d1, d2, d3, d4⟩ := HUA.out.below hA1 (by omega)
    simp only at d0 d1 d2 d3 d4
    clear c0 c1 c2 c3 c4
    by_cases hneg2 : y < 0
    · go_wp2_with fail
      refine (Hz1.out _).mono ?_
      rintro e w2 ⟨rfl, hb2⟩
      have HB2 := hide (HBA.out.trans ((hA1.trans (hb2.mono hA1.size)).mono HBA.out.size))
      clear d0 d1 d2 d3 d4
      go_wp2
      go_ret
      exact ⟨rfl, HB2.out⟩
    · go_wp2_with fail
      refine (Hz1.out _).mono ?_
      rintro e w2 ⟨rfl, hb2⟩
      have hA2 : Below wA.heap.size wA w2 := hA1.trans (hb2.mono hA1.size)
      have hs2 := hA2.size
      clear d0 d1 d2 d3 d4
      have HSof : Hid (∀ W, Below wA.heap.size wA W → (W.cell? ⟨w.heap.size, 0, none⟩ = some (.int .i64 k) ∧ W.cell? ⟨w.heap.size, 1, none⟩ = some (.string f) ∧ W.cell? ⟨w.heap.size, 2, none⟩ = some (.string to) ∧ W.cell? ⟨w.heap.size, 3, none⟩ = some (.int .i64 am) ∧ W.cell? ⟨w.heap.size, 4, none⟩ = some (.int .i64 no)) ∧ W.cell? ⟨w.heap.size + 1, 0, none⟩ = some (.int .i64 k') ∧ W.cell? ⟨w.heap.size + 1, 1, none⟩ = some (.string f') ∧ W.cell? ⟨w.heap.size + 1, 2, none⟩ = some (.string to') ∧ W.cell? ⟨w.heap.size + 1, 3, none⟩ = some (.int .i64 am') ∧ W.cell? ⟨w.heap.size + 1, 4, none⟩ = some (.int .i64 no')) := hide (fun W h => ⟨HTA.out.below h (by omega), HUA.out.below h (by omega)⟩)
      have hA2d : Below wA.heap.size wA w2.drew := hA2.drew
      have hSd := HSof.out _ hA2d
      go_wp2
      go_region_held_law (fun W => (W.cell? ⟨w.heap.size, 0, none⟩ = some (.int .i64 k) ∧ W.cell? ⟨w.heap.size, 1, none⟩ = some (.string f) ∧ W.cell? ⟨w.heap.size, 2, none⟩ = some (.string to) ∧ W.cell? ⟨w.heap.size, 3, none⟩ = some (.int .i64 am) ∧ W.cell? ⟨w.heap.size, 4, none⟩ = some (.int .i64 no)) ∧ W.cell? ⟨w.heap.size + 1, 0, none⟩ = some (.int .i64 k') ∧ W.cell? ⟨w.heap.size + 1, 1, none⟩ = some (.string f') ∧ W.cell? ⟨w.heap.size + 1, 2, none⟩ = some (.string to') ∧ W.cell? ⟨w.heap.size + 1, 3, none⟩ = some (.int .i64 am') ∧ W.cell? ⟨w.heap.size + 1, 4, none⟩ = some (.int .i64 no')) (first | exact hSd | exact hS3 | exact hS4 | exact hS5) (first
        | (go_at_call 17; refine (HS.out _).mono ?_; rintro e w5 ⟨rfl, hb5⟩; have hA5 : Below wA.heap.size wA w5 := hA4.trans (hb5.mono hA4.size); have hS5 := HSof.out _ hA5)
        | (go_at_call 9; have _t := hb3; refine (HT1.out _).mono ?_; rintro e w4 ⟨rfl, hb4⟩; have hA4 : Below wA.heap.size wA w4 := hA3.trans (hb4.mono hA3.size); have hS4 := HSof.out _ hA4)
        | (go_at_call 9; refine (HT0.out _).mono ?_; rintro e w3 ⟨rfl, hb3⟩; have hA3 : Below wA.heap.size wA w3 := hA2d.trans (hb3.mono hA2d.size); have hS3 := HSof.out _ hA3))
      clear hSd hS3 hS4 hS5 hA4 hA3 hA2d hb3 hb4 hb5
      have hA5d : Below wA.heap.size wA w5.drew := hA5.drew
      have hSe := HSof.out _ hA5d
      go_wp2
      go_region_held_law (fun W => (W.cell? ⟨w.heap.size, 0, none⟩ = some (.int .i64 k) ∧ W.cell? ⟨w.heap.size, 1, none⟩ = some (.string f) ∧ W.cell? ⟨w.heap.size, 2, none⟩ = some (.string to) ∧ W.cell? ⟨w.heap.size, 3, none⟩ = some (.int .i64 am) ∧ W.cell? ⟨w.heap.size, 4, none⟩ = some (.int .i64 no)) ∧ W.cell? ⟨w.heap.size + 1, 0, none⟩ = some (.int .i64 k') ∧ W.cell? ⟨w.heap.size + 1, 1, none⟩ = some (.string f') ∧ W.cell? ⟨w.heap.size + 1, 2, none⟩ = some (.string to') ∧ W.cell? ⟨w.heap.size + 1, 3, none⟩ = some (.int .i64 am') ∧ W.cell? ⟨w.heap.size + 1, 4, none⟩ = some (.int .i64 no')) (first | exact hSe | exact hS6 | exact hS7 | exact hS8) (first
        | (go_at_call 18; refine (HI.out _).mono ?_; rintro e w8 ⟨rfl, hb8⟩; have hA8 : Below wA.heap.size wA w8 := hA7.trans (hb8.mono hA7.size); have hS8 := HSof.out _ hA8)
        | (go_at_call 9; have _t := hb6; refine (HT1.out _).mono ?_; rintro e w7 ⟨rfl, hb7⟩; have hA7 : Below wA.heap.size wA w7 := hA6.trans (hb7.mono hA6.size); have hS7 := HSof.out _ hA7)
        | (go_at_call 9; refine (HT0.out _).mono ?_; rintro e w6 ⟨rfl, hb6⟩; have hA6 : Below wA.heap.size wA w6 := hA5d.trans (hb6.mono hA5d.size); have hS6 := HSof.out _ hA6))
      have HB8 := hide (HBA.out.trans (hA8.mono HBA.out.size))
      clear hSe hS6 hS7 hS8 hA7 hA6 hA8 hb6 hb7 hb8
      go_wp2
      go_ret
      exact ⟨rfl, HB8.out⟩

set_option maxRecDepth 100000 in
theorem fnExactTxLess_lifted (os : Os) (started : os.Started) (H : Type) (enc : TypeId × Value → H) :
    ReturnsInHanded {} Try.checked os 5 .any (Rows.fnExactTxLessSpec.pre6 enc Try.prog Try.f5 Rows.fnExactTxLessRow.domain false) (Rows.fnExactTxLessSpec.post enc Try.prog Try.f5 false true false false) := by
  refine returnsInHanded_of_change (C := Try.checked) fnExactTxLess_own started (by kernel_rfl) Try.func5
    (ChangeSpec.witness6 (enc := enc) (C := Try.checked) false ⟨#[], #[.agg #[.int .i64 0, .string ByteArray.empty, .string ByteArray.empty, .int .i64 0, .int .i64 0], .agg #[.int .i64 0, .string ByteArray.empty, .string ByteArray.empty, .int .i64 0, .int .i64 0]], []⟩ 8 (by kernel_rfl) (by kernel_rfl) (by kernel_rfl) (by kernel_rfl)) ?_
  intro W base args ds gs before hval0 hW hcnd _
  have hval : ∀ (j : Nat) t v, Try.f5.params[j]? = some t → args[j]? = some v → Value.okWide Try.prog W .any base t v := hval0
  have hW' := hW
  obtain ⟨p, q, hA0, hV, rfl, hfz, hnd⟩ := hW
  have hA : DataW.TrodAll enc Try.prog W 0 (fun _ => true) true Try.f5.params.toList args.toList ds p := hA0
  rw [Try.params5] at hA hval
  obtain ⟨v0, vs0, d0, ds0, p0, q0, hargs, rfl, rfl, h0, r0⟩ := trodAll_cons hA
  obtain ⟨v1, vs1, d1, ds1, p1, q1, rfl, rfl, rfl, h1, r1⟩ := trodAll_cons r0
  obtain ⟨rfl, rfl, rfl⟩ := trodAll_nil r1
  obtain rfl : args = #[v0, v1] := by cases args; simp_all
  obtain ⟨rfl, rfl⟩ := trodVars_none hV
  have k0 := h0
  have lt0 : ∀ x ∈ p0, x.block < W.heap.size := by obtain ⟨m, hm⟩ := k0; exact DataW.trod_lt m _ _ _ hm
  obtain ⟨z0, rfl, w0⟩ : ∃ t : Tx5, v0 = txV t ∧ t.2.1.size ≤ maxLen ∧ t.2.2.1.size ≤ maxLen ∧ (Lit.int .i64 t.1).wf = true ∧ (Lit.int .i64 t.2.2.2.1).wf = true ∧ (Lit.int .i64 t.2.2.2.2).wf = true := by
    obtain ⟨cs, rfl, hsz⟩ := okWide_struct Try.underlying24 (hval 0 24 _ rfl rfl)
    obtain ⟨fuel, hf⟩ := h0
    obtain ⟨t, e, r⟩ := open_tx (by simpa [Value.cells] using hf)
    exact ⟨t, by cases cs; simp at e; subst e; rfl, r⟩
  have k1 := h1
  have lt1 : ∀ x ∈ p1, x.block < W.heap.size := by obtain ⟨m, hm⟩ := k1; exact DataW.trod_lt m _ _ _ hm
  obtain ⟨z1, rfl, w1⟩ : ∃ t : Tx5, v1 = txV t ∧ t.2.1.size ≤ maxLen ∧ t.2.2.1.size ≤ maxLen ∧ (Lit.int .i64 t.1).wf = true ∧ (Lit.int .i64 t.2.2.2.1).wf = true ∧ (Lit.int .i64 t.2.2.2.2).wf = true := by
    obtain ⟨cs, rfl, hsz⟩ := okWide_struct Try.underlying24 (hval 1 24 _ rfl rfl)
    obtain ⟨fuel, hf⟩ := h1
    obtain ⟨t, e, r⟩ := open_tx (by simpa [Value.cells] using hf)
    exact ⟨t, by cases cs; simp at e; subst e; rfl, r⟩
  clear hA0 hval0
  refine (fnExactTxLess_walk z0 z1 W w0 w1).mono fun e W' ⟨he, bel⟩ => ?_
  subst he
  exact ⟨_, rfl, _, _, _, [], _, [], hW', trodAll_mk1 (shut_bool Try.underlying4 _), (trodAll_cons_mk (Below.trod fnExactTxLess_laidOut (by kernel_rfl) (of_decide_eq_true (by kernel_rfl)) k0 bel lt0) (trodAll_cons_mk (Below.trod fnExactTxLess_laidOut (by kernel_rfl) (of_decide_eq_true (by kernel_rfl)) k1 bel lt1) trodAll_mk0)), rfl, bel.frame _, fun h => by cases h⟩

theorem fnExactTxLess_holds : Rows.FnExactTxLessSaid :=
  OpenClaim.holds_of_wide 5 Try.f5 rfl rfl rfl rfl rfl rfl rfl ⟨rfl, rfl, rfl, rfl, rfl⟩ rfl rfl rfl rfl rfl (by kernel_rfl) Try.func5 (by kernel_rfl)
    (of_decide_eq_true (by kernel_rfl)) (by unfold Func.isWrapper; first | (rw [if_pos (by decide +kernel)]; kernel_rfl) | (rw [if_neg (by decide +kernel)]; exact ⟨rfl, rfl⟩))
    (fun os started H enc _ => fnExactTxLess_lifted os started H enc)

end Go.Proofs.Ytimiimedjfdlmam
