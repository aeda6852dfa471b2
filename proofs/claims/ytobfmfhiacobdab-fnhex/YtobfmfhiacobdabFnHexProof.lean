/- Whatever text is drawn, it comes back of its hex digits, which are twice as many, and what comes of drawn hex digits has them: the law FnHex returns true at every code, with no condition. -/
import Derived.Test.YtobfmfhiacobdabRows
import Derived.Test.YtobfmfhiacobdabRow
import Derived.Test.YtobfmfhiacobdabBig
import Derived.Test.YtobfmfhiacobdabDrawHex
import Derived.Test.YtobfmfhiacobdabHexBack
import Derived.WalkKit
import Derived.ProofKit
import Derived.OpenShut
import Derived.ShutString
import Derived.ChangeOld
import Derived.Below
import Derived.SliceStrings
namespace Go.Proofs.Ytobfmfhiacobdab
open Go.ChangeShapes Go.WideShapes Go.ChangeAt Go.RowKit
open Go.ChangeMaps (open_string shut_string)
set_option linter.unusedVariables false

theorem fnHex_own : ownKnob Try.prog.godebug = none := by kernel_rfl
theorem fnHex_laidOut : laidOutB Try.prog = true := by kernel_rfl

theorem sz_toArray (t : List UInt8) : (⟨t.toArray⟩ : ByteArray).size = t.length := by show t.toArray.size = _; simp
set_option maxRecDepth 20000 in
set_option maxHeartbeats 1000000 in
theorem fnHex_walk (a0 : Option Addr) (len0 cap0 : Nat) (z0 : List Int) (w : World) (w0 : IsRow .u8 w a0 len0 cap0 z0) :
    Calls Try.prog 3 #[.slice a0 len0 cap0] w fun e w' => e = .returned (.bool true) ∧ Below w.heap.size w w' := by
  obtain ⟨l, rfl, hr⟩ := w0.rd
  clear w0
  have hcap : l.length ≤ 9223372036854775807 := by
    rcases hr with ⟨_, _, _, e, _⟩ | ⟨_, _, cap, _, _, h1, h2, _⟩
    · subst e; simp
    · unfold maxLen at h2; omega
  have Hbig := hide (big_any _ l w hr hcap)
  by_cases hbig : 1048576 < l.length
  · rw [decide_eq_true hbig] at Hbig
    clear hr
    go_enter Try.func3, Try.ntmps3
    go_wp2_with fail
    refine Hbig.out.mono ?_
    rintro e w ⟨rfl, rfl⟩
    go_wp2
    go_ret
    exact ⟨rfl, Below.refl _ _⟩
  · rw [decide_eq_false hbig] at Hbig
    have hl : l.length ≤ 1048576 := by omega
    have Hr := hide hr
    clear hr hbig
    go_enter Try.func3, Try.ntmps3
    go_wp2_with fail
    refine Hbig.out.mono ?_
    rintro e w ⟨rfl, rfl⟩
    go_wp2_with fail
    refine (drawHexOf_any _ _ l Hr.out hl).mono ?_
    rintro e w1 ⟨t, rfl, ht, hB1⟩
    have HI := hide (fun w => implHexOf_any ⟨t.toArray⟩ w (by rw [sz_toArray]; omega))
    rw [show (⟨t.toArray⟩ : ByteArray).data.toList = t from rfl] at HI
    have HU := hide (fun w => implUnHex_any ⟨(hexB t).toArray⟩ w (by rw [sz_toArray, hexB_len]; omega))
    rw [show (⟨(hexB t).toArray⟩ : ByteArray).data.toList = hexB t from rfl, un_hex, good_hex] at HU
    have hXl := hexB_len t
    generalize hexB t = X at HI HU hXl
    go_wp2_with fail
    refine (HI.out _).mono ?_
    rintro e w2 ⟨rfl, hb2⟩
    have hB2 : Below w.heap.size w w2 := hB1.trans (hb2.mono hB1.size)
    go_wp2_with fail
    refine (HU.out _).mono ?_
    rintro e w3 ⟨rfl, hb3⟩
    have hB3 : Below w.heap.size w w3 := hB2.trans (hb3.mono hB2.size)
    go_wp2_with fail
    refine (drawUnHex_any _ _ l (Hr.out.below hB3 (Nat.le_refl _)) hl).mono ?_
    rintro e w4 ⟨t2, rfl, ht2, hb4⟩
    have hB4 : Below w.heap.size w w4 := hB3.trans (hb4.mono hB3.size)
    go_wp2_with fail
    refine (implUnHex_any ⟨t2.toArray⟩ _ (by rw [sz_toArray]; omega)).mono ?_
    rintro e w5 ⟨rfl, hb5⟩
    have hB5 : Below w.heap.size w w5 := hB4.trans (hb5.mono hB4.size)
    rw [show (⟨t2.toArray⟩ : ByteArray).data.toList = t2 from rfl]
    have hXi : (X.length : Int) = 2 * (t.length : Int) := by omega
    cases hg : good t2 with
    | false =>
      rw [un_bad hg]
      clear hg HI HU
      go_wp2
      go_ret
      exact ⟨rfl, hB5⟩
    | true =>
      have HI2 := hide (fun w => implHexOf_any ⟨(unB t2).toArray⟩ w (by rw [sz_toArray]; have := dec_le t2; omega))
      rw [show (⟨(unB t2).toArray⟩ : ByteArray).data.toList = unB t2 from rfl, hex_un t2 hg] at HI2
      generalize unB t2 = y at HI2
      clear hg HI HU
      go_wp2_with fail
      refine (HI2.out _).mono ?_
      rintro e w6 ⟨rfl, hb6⟩
      have hB6 : Below w.heap.size w w6 := hB5.trans (hb6.mono hB5.size)
      go_wp2
      go_ret
      exact ⟨rfl, hB6⟩

set_option maxRecDepth 100000 in
theorem fnHex_lifted (os : Os) (started : os.Started) (H : Type) (enc : TypeId × Value → H) :
    ReturnsInHanded {} Try.checked os 3 .any (Rows.fnHexSpec.pre6 enc Try.prog Try.f3 Rows.fnHexRow.domain false) (Rows.fnHexSpec.post enc Try.prog Try.f3 false true false false) := by
  refine returnsInHanded_of_change (C := Try.checked) fnHex_own started (by kernel_rfl) Try.func3
    (ChangeSpec.witness6 (enc := enc) (C := Try.checked) false ⟨#[], #[.slice none 0 0], []⟩ 8 (by kernel_rfl) (by kernel_rfl) (by kernel_rfl) (by kernel_rfl)) ?_
  intro W base args ds gs before hval0 hW hcnd _
  have hval : ∀ (j : Nat) t v, Try.f3.params[j]? = some t → args[j]? = some v → Value.okWide Try.prog W .any base t v := hval0
  have hW' := hW
  obtain ⟨p, q, hA0, hV, rfl, hfz, hnd⟩ := hW
  have hA : DataW.TrodAll enc Try.prog W 0 (fun _ => true) true Try.f3.params.toList args.toList ds p := hA0
  rw [Try.params3] at hA hval
  obtain ⟨v0, vs0, d0, ds0, p0, q0, hargs, rfl, rfl, h0, r0⟩ := trodAll_cons hA
  obtain ⟨rfl, rfl, rfl⟩ := trodAll_nil r0
  obtain rfl : args = #[v0] := by cases args; simp_all
  obtain ⟨rfl, rfl⟩ := trodVars_none hV
  obtain ⟨a0, len0, cap0, rfl⟩ := okWide_slice Try.underlying22 (hval 0 22 v0 rfl rfl)
  have k0 := h0
  have lt0 : ∀ x ∈ p0, x.block < W.heap.size := by obtain ⟨m, hm⟩ := k0; exact DataW.trod_lt m _ _ _ hm
  obtain ⟨z0, w0⟩ : ∃ zs, IsRow .u8 W a0 len0 cap0 zs := by
    obtain ⟨fuel, hf⟩ := h0
    rcases open_ints Try.underlying22 Try.underlying5 (by kernel_rfl) hf with ⟨hcs, _⟩ | ⟨x, l, c, zs, hcs, _, hl, hm, hz, _, hcell, hwz⟩
    · simp [Value.cells] at hcs
      obtain ⟨rfl, rfl, rfl⟩ := hcs
      exact ⟨[], .inl ⟨rfl, rfl, rfl, rfl⟩⟩
    · simp [Value.cells] at hcs
      obtain ⟨rfl, rfl, rfl⟩ := hcs
      exact ⟨zs, .inr ⟨_, rfl, hl, hm, by simpa using hz, hcell, hwz⟩⟩
  clear hA0 hval0
  refine (fnHex_walk a0 len0 cap0 z0 W w0).mono fun e W' ⟨he, bel⟩ => ?_
  subst he
  exact ⟨_, rfl, _, _, _, [], _, [], hW', trodAll_mk1 (shut_bool Try.underlying4 _), (trodAll_cons_mk (Below.trod fnHex_laidOut (by kernel_rfl) (of_decide_eq_true (by kernel_rfl)) k0 bel lt0) trodAll_mk0), rfl, bel.frame _, fun h => by cases h⟩

theorem fnHex_holds : Rows.FnHexSaid :=
  OpenClaim.holds_of_wide 3 Try.f3 rfl rfl rfl rfl rfl rfl rfl ⟨rfl, rfl, rfl, rfl, rfl⟩ rfl rfl rfl rfl rfl (by kernel_rfl) Try.func3 (by kernel_rfl)
    (of_decide_eq_true (by kernel_rfl)) (by unfold Func.isWrapper; first | (rw [if_pos (by decide +kernel)]; kernel_rfl) | (rw [if_neg (by decide +kernel)]; exact ⟨rfl, rfl⟩))
    (fun os started H enc _ => fnHex_lifted os started H enc)

end Go.Proofs.Ytobfmfhiacobdab
