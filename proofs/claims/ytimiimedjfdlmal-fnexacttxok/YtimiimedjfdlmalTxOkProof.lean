/- At every order TxOk of the program answers as the model's TxOk: the law FnExactTxOk returns true, with no condition. -/
import Derived.Test.YtimiimedjfdlmalRows
import Derived.Test.YtimiimedjfdlmalTxOpen
import Derived.Test.YtimiimedjfdlmalTxSpec
import Derived.Test.YtimiimedjfdlmalTxAtL
import Derived.Test.YtimiimedjfdlmalTxOkI
import Derived.WalkKit
import Derived.ProofKit
import Derived.OpenShut
import Derived.ShutString
import Derived.ChangeOld
import Derived.Below
import Derived.SliceStrings
namespace Go.Proofs.Ytimiimedjfdlmal
open Go.ChangeShapes Go.WideShapes Go.ChangeAt Go.RowKit
open Go.ChangeMaps (open_string shut_string)
set_option linter.unusedVariables false

theorem fnExactTxOk_own : ownKnob Try.prog.godebug = none := by kernel_rfl
theorem fnExactTxOk_laidOut : laidOutB Try.prog = true := by kernel_rfl

set_option maxRecDepth 20000 in
set_option maxHeartbeats 2000000 in
theorem fnExactTxOk_walk (z0 : Tx5) (w : World) (w0 : z0.2.1.size ≤ maxLen ∧ z0.2.2.1.size ≤ maxLen ∧ (Lit.int .i64 z0.1).wf = true ∧ (Lit.int .i64 z0.2.2.2.1).wf = true ∧ (Lit.int .i64 z0.2.2.2.2).wf = true) :
    Calls Try.prog 8 #[txV z0] w fun e w' => e = .returned (.bool true) ∧ Below w.heap.size w w' := by
  obtain ⟨h1, h2, -, -, -⟩ := w0
  have Hz := hide (fun w => szTx_any z0 1048576 w (by omega) (by omega) (by unfold maxLen at h1; omega) (by unfold maxLen at h2; omega))
  have HT := hide (fun w => toTx_any z0 w)
  have HS := hide (fun w => specTxOk_any z0 w h1 h2)
  have HI := hide (fun w => implTxOk_any z0 w h1 h2)
  generalize txB z0 = B at HS HI
  generalize szT z0 1048576 = z at Hz
  obtain ⟨k, f, to, am, no⟩ := z0
  have hT : TxAtL (w.alloc (.cells #[.int .i64 k, .string f, .string to, .int .i64 am, .int .i64 no] 48)) w.heap.size (k, f, to, am, no) := by
    refine ⟨?_, ?_, ?_, ?_, ?_⟩ <;> (rw [World.cell?_alloc_at _ _ _ _ rfl]; rfl)
  obtain ⟨wA, hwA⟩ : ∃ wA, w.alloc (.cells #[.int .i64 k, .string f, .string to, .int .i64 am, .int .i64 no] 48) = wA := ⟨_, rfl⟩
  have HBA : Hid (Below w.heap.size w wA) := hide (by rw [← hwA]; exact (Below.refl _ w).alloc (Nat.le_refl _) _)
  have hsA : wA.heap.size = w.heap.size + 1 := by rw [← hwA]; simp
  rw [hwA] at hT
  have HTA := hide hT
  obtain ⟨c0, c1, c2, c3, c4⟩ := hT
  simp only [txV] at *
  clear h1 h2
  by_cases hneg : z < 0
  · clear HT HS HI
    go_enter Try.func8, Try.ntmps8
    go_wp2_with fail
    refine (Hz.out _).mono ?_
    rintro e w1 ⟨rfl, hb1⟩
    go_wp2
    go_ret
    exact ⟨rfl, HBA.out.trans (hb1.mono HBA.out.size)⟩
  · go_enter Try.func8, Try.ntmps8
    go_wp2_with fail
    refine (Hz.out _).mono ?_
    rintro e w1 ⟨rfl, hb1⟩
    have hA1 : Below wA.heap.size wA w1 := hb1
    obtain ⟨d0, d1, d2, d3, d4⟩ := HTA.out.below hA1 (by omega)
    simp only at d0 d1 d2 d3 d4
    clear c0 c1 c2 c3 c4
    go_wp2_with fail
    refine (HT.out _).mono ?_
    rintro e w2 ⟨rfl, hb2⟩
    have hA2 : Below wA.heap.size wA w2 := hA1.trans (hb2.mono hA1.size)
    go_wp2_with fail
    refine (HS.out _).mono ?_
    rintro e w3 ⟨rfl, hb3⟩
    have hA3 : Below wA.heap.size wA w3 := hA2.trans (hb3.mono hA2.size)
    obtain ⟨e0, e1, e2, e3, e4⟩ := HTA.out.below hA3 (by omega)
    simp only at e0 e1 e2 e3 e4
    clear d0 d1 d2 d3 d4
    go_wp2_with fail
    refine (HT.out _).mono ?_
    rintro e w4 ⟨rfl, hb4⟩
    have hA4 : Below wA.heap.size wA w4 := hA3.trans (hb4.mono hA3.size)
    go_wp2_with fail
    refine (HI.out _).mono ?_
    rintro e w5 ⟨rfl, hb5⟩
    have hA5 : Below wA.heap.size wA w5 := hA4.trans (hb5.mono hA4.size)
    have HB5 := hide (HBA.out.trans (hA5.mono HBA.out.size))
    clear e0 e1 e2 e3 e4
    go_wp2
    go_ret
    exact ⟨rfl, HB5.out⟩

set_option maxRecDepth 100000 in
theorem fnExactTxOk_lifted (os : Os) (started : os.Started) (H : Type) (enc : TypeId × Value → H) :
    ReturnsInHanded {} Try.checked os 8 .any (Rows.fnExactTxOkSpec.pre6 enc Try.prog Try.f8 Rows.fnExactTxOkRow.domain false) (Rows.fnExactTxOkSpec.post enc Try.prog Try.f8 false true false false) := by
  refine returnsInHanded_of_change (C := Try.checked) fnExactTxOk_own started (by kernel_rfl) Try.func8
    (ChangeSpec.witness6 (enc := enc) (C := Try.checked) false ⟨#[], #[.agg #[.int .i64 0, .string ByteArray.empty, .string ByteArray.empty, .int .i64 0, .int .i64 0]], []⟩ 8 (by kernel_rfl) (by kernel_rfl) (by kernel_rfl) (by kernel_rfl)) ?_
  intro W base args ds gs before hval0 hW hcnd _
  have hval : ∀ (j : Nat) t v, Try.f8.params[j]? = some t → args[j]? = some v → Value.okWide Try.prog W .any base t v := hval0
  have hW' := hW
  obtain ⟨p, q, hA0, hV, rfl, hfz, hnd⟩ := hW
  have hA : DataW.TrodAll enc Try.prog W 0 (fun _ => true) true Try.f8.params.toList args.toList ds p := hA0
  rw [Try.params8] at hA hval
  obtain ⟨v0, vs0, d0, ds0, p0, q0, hargs, rfl, rfl, h0, r0⟩ := trodAll_cons hA
  obtain ⟨rfl, rfl, rfl⟩ := trodAll_nil r0
  obtain rfl : args = #[v0] := by cases args; simp_all
  obtain ⟨rfl, rfl⟩ := trodVars_none hV
  have k0 := h0
  have lt0 : ∀ x ∈ p0, x.block < W.heap.size := by obtain ⟨m, hm⟩ := k0; exact DataW.trod_lt m _ _ _ hm
  obtain ⟨z0, rfl, w0⟩ : ∃ t : Tx5, v0 = txV t ∧ t.2.1.size ≤ maxLen ∧ t.2.2.1.size ≤ maxLen ∧ (Lit.int .i64 t.1).wf = true ∧ (Lit.int .i64 t.2.2.2.1).wf = true ∧ (Lit.int .i64 t.2.2.2.2).wf = true := by
    obtain ⟨cs, rfl, hsz⟩ := okWide_struct Try.underlying48 (hval 0 48 _ rfl rfl)
    obtain ⟨fuel, hf⟩ := h0
    obtain ⟨t, e, r⟩ := open_tx (by simpa [Value.cells] using hf)
    exact ⟨t, by cases cs; simp at e; subst e; rfl, r⟩
  clear hA0 hval0
  refine (fnExactTxOk_walk z0 W w0).mono fun e W' ⟨he, bel⟩ => ?_
  subst he
  exact ⟨_, rfl, _, _, _, [], _, [], hW', trodAll_mk1 (shut_bool Try.underlying4 _), (trodAll_cons_mk (Below.trod fnExactTxOk_laidOut (by kernel_rfl) (of_decide_eq_true (by kernel_rfl)) k0 bel lt0) trodAll_mk0), rfl, bel.frame _, fun h => by cases h⟩

theorem fnExactTxOk_holds : Rows.FnExactTxOkSaid :=
  OpenClaim.holds_of_wide 8 Try.f8 rfl rfl rfl rfl rfl rfl rfl ⟨rfl, rfl, rfl, rfl, rfl⟩ rfl rfl rfl rfl rfl (by kernel_rfl) Try.func8 (by kernel_rfl)
    (of_decide_eq_true (by kernel_rfl)) (by unfold Func.isWrapper; first | (rw [if_pos (by decide +kernel)]; kernel_rfl) | (rw [if_neg (by decide +kernel)]; exact ⟨rfl, rfl⟩))
    (fun os started H enc _ => fnExactTxOk_lifted os started H enc)

end Go.Proofs.Ytimiimedjfdlmal
