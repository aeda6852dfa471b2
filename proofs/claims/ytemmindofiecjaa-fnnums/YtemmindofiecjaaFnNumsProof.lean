/- Whatever number is drawn, it, or the nearest that is kept, comes back of its bytes, and cut it does not: the law FnNums returns true at every code, with no condition. -/
import Derived.Test.YtemmindofiecjaaRows
import Derived.Test.YtemmindofiecjaaRow
import Derived.Test.YtemmindofiecjaaBig
import Derived.Test.YtemmindofiecjaaDrawPutNum
import Derived.Test.YtemmindofiecjaaRound
import Derived.Test.YtemmindofiecjaaPut
import Derived.Test.YtemmindofiecjaaGetNumImpl
import Derived.WalkKit
import Derived.ProofKit
import Derived.OpenShut
import Derived.ShutString
import Derived.ChangeOld
import Derived.Below
import Derived.SliceStrings
namespace Go.Proofs.Ytemmindofiecjaa
open Go.ChangeShapes Go.WideShapes Go.ChangeAt Go.RowKit
open Go.ChangeMaps (open_string shut_string)
set_option linter.unusedVariables false

theorem fnNums_own : ownKnob Try.prog.godebug = none := by kernel_rfl
theorem fnNums_laidOut : laidOutB Try.prog = true := by kernel_rfl

theorem num3 (n : Int) : (1000000000 < n ∧ clampN n = 1000000000) ∨ (n < -1000000000 ∧ clampN n = -1000000000) ∨ (-1000000000 ≤ n ∧ n ≤ 1000000000 ∧ clampN n = n) := by
  unfold clampN
  split
  · exact .inl ⟨‹_›, rfl⟩
  · split
    · exact .inr (.inl ⟨‹_›, rfl⟩)
    · exact .inr (.inr ⟨by omega, by omega, rfl⟩)

set_option maxRecDepth 20000 in
set_option maxHeartbeats 1000000 in
theorem fnNums_walk (a0 : Option Addr) (len0 cap0 : Nat) (z0 : List Int) (w : World) (w0 : IsRow .u8 w a0 len0 cap0 z0) :
    Calls Try.prog 3 #[.slice a0 len0 cap0] w fun e w' => e = .returned (.bool true) ∧ Below w.heap.size w w' := by
  obtain ⟨l, rfl, hr⟩ := w0.rd
  clear w0
  have hcap : l.length ≤ 9223372036854775807 := by
    rcases hr with ⟨_, _, _, e, _⟩ | ⟨_, _, cap, _, _, h1, h2, _⟩
    · subst e; simp
    · unfold maxLen at h2; omega
  have Hbig := hide (big_any _ l w hr hcap)
  by_cases hbig : 1048576 < l.length
  · rw [decide_eq_true hbig] at Hbig
    clear hr
    go_enter Try.func3, Try.ntmps3
    go_wp2_with fail
    refine Hbig.out.mono ?_
    rintro e w' ⟨rfl, rfl⟩
    go_wp2
    go_ret
    exact ⟨rfl, Below.refl _ _⟩
  · rw [decide_eq_false hbig] at Hbig
    have Hd := hide (drawPutNum_any w _ l hr (by omega))
    clear hr
    go_enter Try.func3, Try.ntmps3
    go_wp2_with fail
    refine Hbig.out.mono ?_
    rintro e w' ⟨rfl, rfl⟩
    go_wp2_with fail
    refine Hd.out.mono ?_
    rintro e w1 ⟨v1, b, n, rfl, ho1, hb9, hn1, hn2, hB1⟩
    obtain ⟨a1, c1, hv1⟩ := ho1.rd.shape
    rw [hv1] at ho1 ⊢
    clear hv1
    have Hp := hide (implPutNum_any _ b n w1 ho1.rd (by omega) hn1 hn2)
    have hnl := numB_len n
    have Hget := hide (getN_put b [] n)
    have Hcut := hide (getN_cut b n)
    have hne : 0 < (numB n).length := by
      have : numB n ≠ [] := putG_ne _ _
      cases h : numB n with
      | nil => exact absurd h this
      | cons _ _ => simp
    have Hdl : Hid ((b ++ numB n).take ((b ++ numB n).length - 1) = b ++ (numB n).dropLast) := hide (by
      rw [← List.dropLast_eq_take, List.dropLast_append_of_ne_nil (show numB n ≠ [] from putG_ne _ _)])
    rw [List.append_nil] at Hget
    have Hpl : Hid ((b ++ numB n).length = b.length + (numB n).length) := hide (by simp)
    clear ho1
    go_wp2_with fail
    refine Hp.out.mono ?_
    rintro e w2 ⟨v2, rfl, ho2, hb2⟩
    have hB2 : Below w'.heap.size w' w2 := hB1.trans (hb2.mono hB1.size)
    obtain ⟨g, c2, hv2, hc2, hc3⟩ := ho2.shape (by intro e; have := congrArg List.length e; rw [List.length_append] at this; simp only [List.length_nil] at this; omega)
    rw [hv2] at ho2 ⊢
    clear hv2
    have hP : (b ++ numB n).length ≤ 15 := by simp; omega
    have Hg1 := hide (implGetNum_any _ (b ++ numB n) (b.length : Int) w2 ho2.rd (by omega) (by omega) (by omega))
    have Hg2 := hide (implGetNum_any _ _ (b.length : Int) w2 (ho2.rd.cut ((b ++ numB n).length - 1) (by omega)) (by simp; omega) (by omega) (by omega))
    rw [Hget.out] at Hg1
    rw [Hdl.out, Hcut.out] at Hg2
    simp only [tri] at Hg1 Hg2
    have hPe := Hpl.out
    have HPe := hide hPe
    have hP1 : 1 ≤ (b ++ numB n).length := by omega
    generalize (b ++ numB n).length = K at Hg1 Hg2 hP hc2 HPe hP1
    clear hPe
    go_wp2_with fail
    refine Hg1.out.mono ?_
    rintro e w3 ⟨rfl, rfl⟩
    have hKe : (b.length : Int) + ((numB n).length : Int) = (K : Int) := by have := HPe.out; omega
    rw [hKe]
    clear hKe
    have hKi : ((K : Int) - 1).toNat = K - 1 := by omega
    have hKK : ((K : Int) == (K : Int)) = true := by simp
    clear Hg1 Hget Hcut Hdl
    rcases num3 n with ⟨h, hcl⟩ | ⟨h, hcl⟩ | ⟨h, h', hcl⟩
    all_goals
      rw [hcl]
      clear hcl
      go_wp2_with fail
      refine Hg2.out.mono ?_
      rintro e w4 ⟨rfl, rfl⟩
      go_wp2
      go_ret
      exact ⟨rfl, hB2⟩

set_option maxRecDepth 100000 in
theorem fnNums_lifted (os : Os) (started : os.Started) (H : Type) (enc : TypeId × Value → H) :
    ReturnsInHanded {} Try.checked os 3 .any (Rows.fnNumsSpec.pre6 enc Try.prog Try.f3 Rows.fnNumsRow.domain false) (Rows.fnNumsSpec.post enc Try.prog Try.f3 false true false false) := by
  refine returnsInHanded_of_change (C := Try.checked) fnNums_own started (by kernel_rfl) Try.func3
    (ChangeSpec.witness6 (enc := enc) (C := Try.checked) false ⟨#[], #[.slice none 0 0], []⟩ 8 (by kernel_rfl) (by kernel_rfl) (by kernel_rfl) (by kernel_rfl)) ?_
  intro W base args ds gs before hval0 hW hcnd _
  have hval : ∀ (j : Nat) t v, Try.f3.params[j]? = some t → args[j]? = some v → Value.okWide Try.prog W .any base t v := hval0
  have hW' := hW
  obtain ⟨p, q, hA0, hV, rfl, hfz, hnd⟩ := hW
  have hA : DataW.TrodAll enc Try.prog W 0 (fun _ => true) true Try.f3.params.toList args.toList ds p := hA0
  rw [Try.params3] at hA hval
  obtain ⟨v0, vs0, d0, ds0, p0, q0, hargs, rfl, rfl, h0, r0⟩ := trodAll_cons hA
  obtain ⟨rfl, rfl, rfl⟩ := trodAll_nil r0
  obtain rfl : args = #[v0] := by cases args; simp_all
  obtain ⟨rfl, rfl⟩ := trodVars_none hV
  obtain ⟨a0, len0, cap0, rfl⟩ := okWide_slice Try.underlying22 (hval 0 22 v0 rfl rfl)
  have k0 := h0
  have lt0 : ∀ x ∈ p0, x.block < W.heap.size := by obtain ⟨m, hm⟩ := k0; exact DataW.trod_lt m _ _ _ hm
  obtain ⟨z0, w0⟩ : ∃ zs, IsRow .u8 W a0 len0 cap0 zs := by
    obtain ⟨fuel, hf⟩ := h0
    rcases open_ints Try.underlying22 Try.underlying5 (by kernel_rfl) hf with ⟨hcs, _⟩ | ⟨x, l, c, zs, hcs, _, hl, hm, hz, _, hcell, hwz⟩
    · simp [Value.cells] at hcs
      obtain ⟨rfl, rfl, rfl⟩ := hcs
      exact ⟨[], .inl ⟨rfl, rfl, rfl, rfl⟩⟩
    · simp [Value.cells] at hcs
      obtain ⟨rfl, rfl, rfl⟩ := hcs
      exact ⟨zs, .inr ⟨_, rfl, hl, hm, by simpa using hz, hcell, hwz⟩⟩
  clear hA0 hval0
  refine (fnNums_walk a0 len0 cap0 z0 W w0).mono fun e W' ⟨he, bel⟩ => ?_
  subst he
  exact ⟨_, rfl, _, _, _, [], _, [], hW', trodAll_mk1 (shut_bool Try.underlying4 _), (trodAll_cons_mk (Below.trod fnNums_laidOut (by kernel_rfl) (of_decide_eq_true (by kernel_rfl)) k0 bel lt0) trodAll_mk0), rfl, bel.frame _, fun h => by cases h⟩

theorem fnNums_holds : Rows.FnNumsSaid :=
  OpenClaim.holds_of_wide 3 Try.f3 rfl rfl rfl rfl rfl rfl rfl ⟨rfl, rfl, rfl, rfl, rfl⟩ rfl rfl rfl rfl rfl (by kernel_rfl) Try.func3 (by kernel_rfl)
    (of_decide_eq_true (by kernel_rfl)) (by unfold Func.isWrapper; first | (rw [if_pos (by decide +kernel)]; kernel_rfl) | (rw [if_neg (by decide +kernel)]; exact ⟨rfl, rfl⟩))
    (fun os started H enc _ => fnNums_lifted os started H enc)

end Go.Proofs.Ytemmindofiecjaa
