/- At all bytes and every place GetTx of the program answers as the model's GetTx, and writes into no argument: the law FnExactGetTx returns true, with no condition. -/
import Derived.Test.YtimiimedjfdlmamRows
import Derived.Test.YtimiimedjfdlmamRow
import Derived.Test.YtimiimedjfdlmamTxGet
import Derived.Test.YtimiimedjfdlmamTxGetJ
import Derived.WalkKit
import Derived.ProofKit
import Derived.OpenShut
import Derived.ShutString
import Derived.ChangeOld
import Derived.Below
import Derived.SliceStrings
namespace Go.Proofs.Ytimiimedjfdlmam
open Go.ChangeShapes Go.WideShapes Go.ChangeAt Go.RowKit
open Go.ChangeMaps (open_string shut_string)
set_option linter.unusedVariables false

theorem fnExactGetTx_own : ownKnob Try.prog.godebug = none := by kernel_rfl
theorem fnExactGetTx_laidOut : laidOutB Try.prog = true := by kernel_rfl

set_option maxRecDepth 20000 in
set_option maxHeartbeats 2000000 in
theorem fnExactGetTx_walk (a0 : Option Addr) (len0 cap0 : Nat) (z0 : List Int) (a1 : Int) (w : World) (w0 : IsRow .u8 w a0 len0 cap0 z0) (w1 : (Lit.int .i64 a1).wf = true) :
    Calls Try.prog 4 #[.slice a0 len0 cap0, .int .i64 a1] w fun e w' => e = .returned (.bool true) ∧ Below w.heap.size w w' := by
  obtain ⟨l, rfl, hr⟩ := w0.rd
  obtain ⟨p1, p2⟩ := wf_i64 w1
  clear w0 w1
  have hcap : l.length ≤ 9223372036854775807 := by
    rcases hr with ⟨_, _, _, e, _⟩ | ⟨_, _, cap, _, _, h1, h2, _⟩
    · subst e; simp
    · unfold maxLen at h2; omega
  by_cases hbig : 1048576 < l.length
  · clear hr
    go_enter Try.func4, Try.ntmps4
    go_wp2
    go_ret
    exact ⟨rfl, Below.refl _ _⟩
  · have hl4 : l.length ≤ 4000000 := by omega
    have HT := hide (fun v w h => toByteS_any v l w h hl4)
    have HS := hide (fun v w h => specGetTx_any v l a1 w h hl4 p1 p2)
    have HI := hide (fun v w h => implGetTx_any v l a1 w h hl4 p1 p2)
    have HE := hide (fun v1 v2 w h1 h2 => eqByteS_any v1 v2 l l w h1 h2 (by omega) (by omega))
    have HQ := hide (fun w => eqTx_any (getX l a1).1 (getX l a1).1 w)
    rw [decide_eq_true rfl] at HQ HE
    generalize (getX l a1).1 = T at HS HI HQ
    generalize (getX l a1).2.1 = Q at HS HI
    generalize (getX l a1).2.2 = B at HS HI
    obtain ⟨k, f, to, am, no⟩ := T
    simp only [txV] at HS HI HQ
    have Hr := hide hr
    clear hr hcap p1 p2
    go_enter Try.func4, Try.ntmps4
    go_wp2_with fail
    refine (HT.out _ _ Hr.out).mono ?_
    rintro e w1 ⟨v1, rfl, ho1, hb1⟩
    go_wp2_with fail
    refine (HS.out _ _ ho1.rd).mono ?_
    rintro e w2 ⟨rfl, hb2⟩
    have hB2 : Below w.heap.size w w2 := hb1.trans (hb2.mono hb1.size)
    have hT3 : TxAt (w2.alloc (.cells #[.int .i64 k, .string f, .string to, .int .i64 am, .int .i64 no] 28)) w2.heap.size (k, f, to, am, no) := txAt_new w2 (k, f, to, am, no)
    have hB3 : Below w.heap.size w (w2.alloc (.cells #[.int .i64 k, .string f, .string to, .int .i64 am, .int .i64 no] 28)) := hB2.alloc hB2.size _
    clear ho1 hb1 hb2
    go_wp2_with fail
    refine (HT.out _ _ (Hr.out.below hB3 (Nat.le_refl _))).mono ?_
    rintro e w4 ⟨v4, rfl, ho4, hb4⟩
    have hB4 : Below w.heap.size w w4 := hB3.trans (hb4.mono hB3.size)
    have hT4 := hT3.below hb4 (by simp)
    have hs4 := hb4.size
    go_wp2_with fail
    refine (HI.out _ _ ho4.rd).mono ?_
    rintro e w5 ⟨rfl, hb5⟩
    have hB5 : Below w.heap.size w w5 := hB4.trans (hb5.mono hB4.size)
    have hT5 := hT4.below hb5 (by simp at hs4; omega)
    have hs5 := hb5.size
    obtain ⟨w6, hw6⟩ : ∃ w6, w5.alloc (.cells #[.int .i64 k, .string f, .string to, .int .i64 am, .int .i64 no] 28) = w6 := ⟨_, rfl⟩
    have hT6 : TxAt w6 w5.heap.size (k, f, to, am, no) := by rw [← hw6]; exact txAt_new w5 (k, f, to, am, no)
    have hb6 : Below w5.heap.size w5 w6 := by rw [← hw6]; exact (Below.refl _ w5).alloc (Nat.le_refl _) _
    have hT56 := hT5.below hb6 (by simp at hs4; omega)
    have hB6 : Below w.heap.size w w6 := hB5.trans (hb6.mono hB5.size)
    have ho6 := (ho4.below hb5 (Nat.le_refl _)).below hb6 (Nat.le_refl _)
    obtain ⟨c0, c1, c2, c3, c4⟩ := hT56
    obtain ⟨d0, d1, d2, d3, d4⟩ := hT6
    simp only at c0 c1 c2 c3 c4 d0 d1 d2 d3 d4
    clear hT3 hT4 hT5 hb4 hb5 hb6 ho4
    go_wp2_with fail
    refine (HQ.out _).mono ?_
    rintro e w7 ⟨rfl, hb7⟩
    have hB7 : Below w.heap.size w w7 := hB6.trans (hb7.mono hB6.size)
    have ho7 := ho6.below hb7 (Nat.le_refl _)
    clear c0 c1 c2 c3 c4 d0 d1 d2 d3 d4 hb7 ho6
    go_wp2_with fail
    refine (HT.out _ _ (Hr.out.below hB7 (Nat.le_refl _))).mono ?_
    rintro e w8 ⟨v8, rfl, ho8, hb8⟩
    have hB8 : Below w.heap.size w w8 := hB7.trans (hb8.mono hB7.size)
    go_wp2_with fail
    refine (HE.out _ _ _ (ho7.rd.below hb8 (Nat.le_refl _)) ho8.rd).mono ?_
    rintro e w9 ⟨rfl, hs9⟩
    have HB9 := hide (hB8.trans (hs9 _))
    clear ho7 ho8 hb8 hs9
    go_wp2
    go_ret
    exact ⟨rfl, HB9.out⟩

set_option maxRecDepth 100000 in
theorem fnExactGetTx_lifted (os : Os) (started : os.Started) (H : Type) (enc : TypeId × Value → H) :
    ReturnsInHanded {} Try.checked os 4 .any (Rows.fnExactGetTxSpec.pre6 enc Try.prog Try.f4 Rows.fnExactGetTxRow.domain false) (Rows.fnExactGetTxSpec.post enc Try.prog Try.f4 false true false false) := by
  refine returnsInHanded_of_change (C := Try.checked) fnExactGetTx_own started (by kernel_rfl) Try.func4
    (ChangeSpec.witness6 (enc := enc) (C := Try.checked) false ⟨#[], #[.slice none 0 0, .int .i64 0], []⟩ 8 (by kernel_rfl) (by kernel_rfl) (by kernel_rfl) (by kernel_rfl)) ?_
  intro W base args ds gs before hval0 hW hcnd _
  have hval : ∀ (j : Nat) t v, Try.f4.params[j]? = some t → args[j]? = some v → Value.okWide Try.prog W .any base t v := hval0
  have hW' := hW
  obtain ⟨p, q, hA0, hV, rfl, hfz, hnd⟩ := hW
  have hA : DataW.TrodAll enc Try.prog W 0 (fun _ => true) true Try.f4.params.toList args.toList ds p := hA0
  rw [Try.params4] at hA hval
  obtain ⟨v0, vs0, d0, ds0, p0, q0, hargs, rfl, rfl, h0, r0⟩ := trodAll_cons hA
  obtain ⟨v1, vs1, d1, ds1, p1, q1, rfl, rfl, rfl, h1, r1⟩ := trodAll_cons r0
  obtain ⟨rfl, rfl, rfl⟩ := trodAll_nil r1
  obtain rfl : args = #[v0, v1] := by cases args; simp_all
  obtain ⟨rfl, rfl⟩ := trodVars_none hV
  obtain ⟨a0, len0, cap0, rfl⟩ := okWide_slice Try.underlying22 (hval 0 22 v0 rfl rfl)
  have k0 := h0
  have lt0 : ∀ x ∈ p0, x.block < W.heap.size := by obtain ⟨m, hm⟩ := k0; exact DataW.trod_lt m _ _ _ hm
  obtain ⟨z0, w0⟩ : ∃ zs, IsRow .u8 W a0 len0 cap0 zs := by
    obtain ⟨fuel, hf⟩ := h0
    rcases open_ints Try.underlying22 Try.underlying5 (by kernel_rfl) hf with ⟨hcs, _⟩ | ⟨x, l, c, zs, hcs, _, hl, hm, hz, _, hcell, hwz⟩
    · simp [Value.cells] at hcs
      obtain ⟨rfl, rfl, rfl⟩ := hcs
      exact ⟨[], .inl ⟨rfl, rfl, rfl, rfl⟩⟩
    · simp [Value.cells] at hcs
      obtain ⟨rfl, rfl, rfl⟩ := hcs
      exact ⟨zs, .inr ⟨_, rfl, hl, hm, by simpa using hz, hcell, hwz⟩⟩
  obtain ⟨a1, rfl, rfl, rfl, w1⟩ := open_int Try.underlying3 (hval 1 3 v1 rfl rfl) h1
  clear hA0 hval0
  refine (fnExactGetTx_walk a0 len0 cap0 z0 a1 W w0 w1).mono fun e W' ⟨he, bel⟩ => ?_
  subst he
  exact ⟨_, rfl, _, _, _, [], _, [], hW', trodAll_mk1 (shut_bool Try.underlying4 _), (trodAll_cons_mk (Below.trod fnExactGetTx_laidOut (by kernel_rfl) (of_decide_eq_true (by kernel_rfl)) k0 bel lt0) (trodAll_cons_mk (shut_int Try.underlying3 w1) trodAll_mk0)), rfl, bel.frame _, fun h => by cases h⟩

theorem fnExactGetTx_holds : Rows.FnExactGetTxSaid :=
  OpenClaim.holds_of_wide 4 Try.f4 rfl rfl rfl rfl rfl rfl rfl ⟨rfl, rfl, rfl, rfl, rfl⟩ rfl rfl rfl rfl rfl (by kernel_rfl) Try.func4 (by kernel_rfl)
    (of_decide_eq_true (by kernel_rfl)) (by unfold Func.isWrapper; first | (rw [if_pos (by decide +kernel)]; kernel_rfl) | (rw [if_neg (by decide +kernel)]; exact ⟨rfl, rfl⟩))
    (fun os started H enc _ => fnExactGetTx_lifted os started H enc)

end Go.Proofs.Ytimiimedjfdlmam
