/- Of two drawn orders one is less just if they are not the same, and then the other one is not: the law FnLess returns true at every code, with no condition. -/
import Derived.Test.YtmofbnmklldngaaRows
import Derived.Test.YtmofbnmklldngaaRow
import Derived.Test.YtmofbnmklldngaaBig
import Derived.Test.YtmofbnmklldngaaDrawTx6
import Derived.Test.YtmofbnmklldngaaTxSpec
import Derived.Test.YtmofbnmklldngaaTxTwo
import Derived.Test.YtmofbnmklldngaaTxLessI
import Derived.WalkKit
import Derived.ProofKit
import Derived.OpenShut
import Derived.ShutString
import Derived.ChangeOld
import Derived.Below
import Derived.SliceStrings
namespace Go.Proofs.Ytmofbnmklldngaa
open Go.ChangeShapes Go.WideShapes Go.ChangeAt Go.RowKit
open Go.ChangeMaps (open_string shut_string)
set_option linter.unusedVariables false

theorem fnLess_own : ownKnob Try.prog.godebug = none := by kernel_rfl
theorem fnLess_laidOut : laidOutB Try.prog = true := by kernel_rfl

set_option maxRecDepth 20000 in
set_option maxHeartbeats 4000000 in
theorem fnLess_walk (p0 : Option Addr) (len0 cap0 : Nat) (z0 : List Int) (w : World) (w0 : IsRow .u8 w p0 len0 cap0 z0) :
    Calls Try.prog 4 #[.slice p0 len0 cap0] w fun e w' => e = .returned (.bool true) ∧ Below w.heap.size w w' := by
  obtain ⟨cd, rfl, hr⟩ := w0.rd
  clear w0
  have hcap : cd.length ≤ 9223372036854775807 := by
    rcases hr with ⟨_, _, _, e, _⟩ | ⟨_, _, cap, _, _, h1, h2, _⟩
    · subst e; simp
    · unfold maxLen at h2; omega
  have Hbig := hide (big_any _ cd w hr hcap)
  by_cases hbig : 1048576 < cd.length
  · rw [decide_eq_true hbig] at Hbig
    clear hr
    go_enter Try.func4, Try.ntmps4
    go_wp2_with fail
    refine Hbig.out.mono ?_
    rintro e w' ⟨rfl, rfl⟩
    go_wp2
    go_ret
    exact ⟨rfl, Below.refl _ _⟩
  rw [decide_eq_false hbig] at Hbig
  have Hd := hide (drawTxLess_any w _ cd hr (by omega))
  clear hr
  go_enter Try.func4, Try.ntmps4
  go_wp2_with fail
  refine Hbig.out.mono ?_
  rintro e w ⟨rfl, rfl⟩
  go_wp2_with fail
  refine Hd.out.mono ?_
  rintro e w2 ⟨⟨k1, f1, t1, m1, n1⟩, ⟨k2, f2, t2, m2, n2⟩, rfl, -, -, hB2⟩
  have HL := hide (lessT_two (k1, f1, t1, m1, n1) (k2, f2, t2, m2, n2))
  have HI := hide (fun w => implTxLess_any (k1, f1, t1, m1, n1) (k2, f2, t2, m2, n2) w)
  have HJ := hide (fun w => implTxLess_any (k2, f2, t2, m2, n2) (k1, f1, t1, m1, n1) w)
  have HS := hide (fun w => specTxLess_any (k1, f1, t1, m1, n1) (k2, f2, t2, m2, n2) w)
  clear Hbig Hd hbig hcap
  obtain ⟨w3, hw3⟩ : ∃ w3, (w2.alloc (.cells #[.int .i64 k1, .string f1, .string t1, .int .i64 m1, .int .i64 n1] 25)).alloc (.cells #[.int .i64 k2, .string f2, .string t2, .int .i64 m2, .int .i64 n2] 25) = w3 := ⟨_, rfl⟩
  have hb3 : Below w2.heap.size w2 w3 := by rw [← hw3]; exact ((Below.refl _ w2).alloc (Nat.le_refl _) _).alloc (by simp) _
  have hs3 : w3.heap.size = w2.heap.size + 2 := by rw [← hw3]; simp
  have hs2 := hB2.size
  have A3 : Hid (Blk w3 w2.heap.size 25 [.int .i64 k1, .string f1, .string t1, .int .i64 m1, .int .i64 n1]) := hide (by rw [← hw3]; exact (Blk.new w2 _ _).below ((Below.refl (w2.heap.size + 1) _).alloc (by simp) _) (by omega))
  have B3 : Hid (Blk w3 (w2.heap.size + 1) 25 [.int .i64 k2, .string f2, .string t2, .int .i64 m2, .int .i64 n2]) := hide (by rw [← hw3, show w2.heap.size + 1 = (w2.alloc (.cells #[.int .i64 k1, .string f1, .string t1, .int .i64 m1, .int .i64 n1] 25)).heap.size by simp]; exact Blk.new _ _ _)
  have hB3 : Below w.heap.size w w3 := hB2.trans (hb3.mono hs2)
  simp only [txV] at HI HJ HS ⊢
  generalize lessT (k1, f1, t1, m1, n1) (k2, f2, t2, m2, n2) = X at HI HJ HS HL
  generalize lessT (k2, f2, t2, m2, n2) (k1, f1, t1, m1, n1) = Y at HI HJ HS HL
  have ha3 := A3.out
  have hb3' := B3.out
  have a0 := ha3.cell 0
  have a1 := ha3.cell 1
  have a2 := ha3.cell 2
  have a3 := ha3.cell 3
  have a4 := ha3.cell 4
  have b0 := hb3'.cell 0
  have b1 := hb3'.cell 1
  have b2 := hb3'.cell 2
  have b3 := hb3'.cell 3
  have b4 := hb3'.cell 4
  simp only [List.getElem?_cons_zero, List.getElem?_cons_succ] at a0 a1 a2 a3 a4 b0 b1 b2 b3 b4
  clear hB2 hb3 ha3 hb3'
  go_wp2_with fail
  refine (HI.out _).mono ?_
  rintro e w4 ⟨rfl, hb4⟩
  clear hw3 a0 a1 a2 a3 a4 b0 b1 b2 b3 b4
  have hs4 := hb4.size
  have A4 := hide (A3.out.below hb4 (by omega))
  have B4 := hide (B3.out.below hb4 (by omega))
  have HB4 := hide (hB3.trans (hb4.mono (by omega)))
  have ha4 := A4.out
  have hb4' := B4.out
  have a0 := ha4.cell 0
  have a1 := ha4.cell 1
  have a2 := ha4.cell 2
  have a3 := ha4.cell 3
  have a4 := ha4.cell 4
  have b0 := hb4'.cell 0
  have b1 := hb4'.cell 1
  have b2 := hb4'.cell 2
  have b3 := hb4'.cell 3
  have b4 := hb4'.cell 4
  simp only [List.getElem?_cons_zero, List.getElem?_cons_succ] at a0 a1 a2 a3 a4 b0 b1 b2 b3 b4
  clear hb4 A3 B3 hB3 ha4 hb4'
  go_wp2_with fail
  refine (HJ.out _).mono ?_
  rintro e w5 ⟨rfl, hb5⟩
  clear a0 a1 a2 a3 a4 b0 b1 b2 b3 b4
  have hs5 := hb5.size
  have A5 := hide (A4.out.below hb5 (by omega))
  have B5 := hide (B4.out.below hb5 (by omega))
  have HB5 := hide (HB4.out.trans (hb5.mono (by omega)))
  have ha5 := A5.out
  have hb5' := B5.out
  have a0 := ha5.cell 0
  have a1 := ha5.cell 1
  have a2 := ha5.cell 2
  have a3 := ha5.cell 3
  have a4 := ha5.cell 4
  have b0 := hb5'.cell 0
  have b1 := hb5'.cell 1
  have b2 := hb5'.cell 2
  have b3 := hb5'.cell 3
  have b4 := hb5'.cell 4
  simp only [List.getElem?_cons_zero, List.getElem?_cons_succ] at a0 a1 a2 a3 a4 b0 b1 b2 b3 b4
  clear hb5 A4 B4 HB4 ha5 hb5'
  go_wp2_with fail
  refine (HS.out _).mono ?_
  rintro e w6 ⟨rfl, hb6⟩
  clear a0 a1 a2 a3 a4 b0 b1 b2 b3 b4
  have hs6 := hb6.size
  have ha6 := A5.out.below hb6 (by omega)
  have hb6' := B5.out.below hb6 (by omega)
  have HB6 := hide (HB5.out.trans (hb6.mono (by omega)))
  have a0 := ha6.cell 0
  have a1 := ha6.cell 1
  have a2 := ha6.cell 2
  have a3 := ha6.cell 3
  have a4 := ha6.cell 4
  have b0 := hb6'.cell 0
  have b1 := hb6'.cell 1
  have b2 := hb6'.cell 2
  have b3 := hb6'.cell 3
  have b4 := hb6'.cell 4
  simp only [List.getElem?_cons_zero, List.getElem?_cons_succ] at a0 a1 a2 a3 a4 b0 b1 b2 b3 b4
  clear hb6 A5 B5 HB5 ha6 hb6' HI HJ HS
  by_cases he : ((k1, f1, t1, m1, n1) : Tx5) = (k2, f2, t2, m2, n2)
  · have hX : X = false := HL.out.2 he
    have hY : Y = false := by rw [HL.out.1]; simp [he]
    subst hX hY
    simp only [Prod.mk.injEq] at he
    obtain ⟨rfl, rfl, rfl, rfl, rfl⟩ := he
    clear HL
    go_wp2
    go_ret
    exact ⟨rfl, HB6.out⟩
  · have hXY : Y = !X := by rw [HL.out.1]; simp [he]
    subst hXY
    have hD : ¬ (k1 = k2 ∧ f1.toList = f2.toList ∧ t1.toList = t2.toList ∧ m1 = m2 ∧ n1 = n2) := fun ⟨q1, q2, q3, q4, q5⟩ => he (by rw [q1, list_inj5 q2, list_inj5 q3, q4, q5])
    clear he
    clear HL
    cases X
    · go_wp2
      all_goals
        first
          | (go_ret; exact ⟨rfl, HB6.out⟩)
          | (exfalso; simp_all)
    · go_wp2
      all_goals
        first
          | (go_ret; exact ⟨rfl, HB6.out⟩)
          | (exfalso; simp_all)

set_option maxRecDepth 100000 in
theorem fnLess_lifted (os : Os) (started : os.Started) (H : Type) (enc : TypeId × Value → H) :
    ReturnsInHanded {} Try.checked os 4 .any (Rows.fnLessSpec.pre6 enc Try.prog Try.f4 Rows.fnLessRow.domain false) (Rows.fnLessSpec.post enc Try.prog Try.f4 false true false false) := by
  refine returnsInHanded_of_change (C := Try.checked) fnLess_own started (by kernel_rfl) Try.func4
    (ChangeSpec.witness6 (enc := enc) (C := Try.checked) false ⟨#[], #[.slice none 0 0], []⟩ 8 (by kernel_rfl) (by kernel_rfl) (by kernel_rfl) (by kernel_rfl)) ?_
  intro W base args ds gs before hval0 hW hcnd _
  have hval : ∀ (j : Nat) t v, Try.f4.params[j]? = some t → args[j]? = some v → Value.okWide Try.prog W .any base t v := hval0
  have hW' := hW
  obtain ⟨p, q, hA0, hV, rfl, hfz, hnd⟩ := hW
  have hA : DataW.TrodAll enc Try.prog W 0 (fun _ => true) true Try.f4.params.toList args.toList ds p := hA0
  rw [Try.params4] at hA hval
  obtain ⟨v0, vs0, d0, ds0, p0, q0, hargs, rfl, rfl, h0, r0⟩ := trodAll_cons hA
  obtain ⟨rfl, rfl, rfl⟩ := trodAll_nil r0
  obtain rfl : args = #[v0] := by cases args; simp_all
  obtain ⟨rfl, rfl⟩ := trodVars_none hV
  obtain ⟨a0, len0, cap0, rfl⟩ := okWide_slice Try.underlying22 (hval 0 22 v0 rfl rfl)
  have k0 := h0
  have lt0 : ∀ x ∈ p0, x.block < W.heap.size := by obtain ⟨m, hm⟩ := k0; exact DataW.trod_lt m _ _ _ hm
  obtain ⟨z0, w0⟩ : ∃ zs, IsRow .u8 W a0 len0 cap0 zs := by
    obtain ⟨fuel, hf⟩ := h0
    rcases open_ints Try.underlying22 Try.underlying5 (by kernel_rfl) hf with ⟨hcs, _⟩ | ⟨x, l, c, zs, hcs, _, hl, hm, hz, _, hcell, hwz⟩
    · simp [Value.cells] at hcs
      obtain ⟨rfl, rfl, rfl⟩ := hcs
      exact ⟨[], .inl ⟨rfl, rfl, rfl, rfl⟩⟩
    · simp [Value.cells] at hcs
      obtain ⟨rfl, rfl, rfl⟩ := hcs
      exact ⟨zs, .inr ⟨_, rfl, hl, hm, by simpa using hz, hcell, hwz⟩⟩
  clear hA0 hval0
  refine (fnLess_walk a0 len0 cap0 z0 W w0).mono fun e W' ⟨he, bel⟩ => ?_
  subst he
  exact ⟨_, rfl, _, _, _, [], _, [], hW', trodAll_mk1 (shut_bool Try.underlying4 _), (trodAll_cons_mk (Below.trod fnLess_laidOut (by kernel_rfl) (of_decide_eq_true (by kernel_rfl)) k0 bel lt0) trodAll_mk0), rfl, bel.frame _, fun h => by cases h⟩

theorem fnLess_holds : Rows.FnLessSaid :=
  OpenClaim.holds_of_wide 4 Try.f4 rfl rfl rfl rfl rfl rfl rfl ⟨rfl, rfl, rfl, rfl, rfl⟩ rfl rfl rfl rfl rfl (by kernel_rfl) Try.func4 (by kernel_rfl)
    (of_decide_eq_true (by kernel_rfl)) (by unfold Func.isWrapper; first | (rw [if_pos (by decide +kernel)]; kernel_rfl) | (rw [if_neg (by decide +kernel)]; exact ⟨rfl, rfl⟩))
    (fun os started H enc _ => fnLess_lifted os started H enc)

end Go.Proofs.Ytmofbnmklldngaa
