/- Whatever text and whatever names are drawn, they come back of their bytes: the law FnTexts returns true at every code, with no condition. -/
import Derived.Test.YtemmindofiecjaaRows
import Derived.Test.YtemmindofiecjaaRow
import Derived.Test.YtemmindofiecjaaBig
import Derived.Test.YtemmindofiecjaaDrawText
import Derived.Test.YtemmindofiecjaaRoundText
import Derived.Test.YtemmindofiecjaaToStr
import Derived.WalkKit
import Derived.ProofKit
import Derived.OpenShut
import Derived.ShutString
import Derived.ChangeOld
import Derived.Below
import Derived.SliceStrings
namespace Go.Proofs.Ytemmindofiecjaa
open Go.ChangeShapes Go.WideShapes Go.ChangeAt Go.RowKit
open Go.ChangeMaps (open_string shut_string)
set_option linter.unusedVariables false

theorem fnTexts_own : ownKnob Try.prog.godebug = none := by kernel_rfl
theorem fnTexts_laidOut : laidOutB Try.prog = true := by kernel_rfl

set_option maxRecDepth 20000 in
set_option maxHeartbeats 1000000 in
theorem fnTexts_walk (a0 : Option Addr) (len0 cap0 : Nat) (z0 : List Int) (w : World) (w0 : IsRow .u8 w a0 len0 cap0 z0) :
    Calls Try.prog 4 #[.slice a0 len0 cap0] w fun e w' => e = .returned (.bool true) ∧ Below w.heap.size w w' := by
  obtain ⟨l, rfl, hr⟩ := w0.rd
  clear w0
  have hcap : l.length ≤ 9223372036854775807 := by
    rcases hr with ⟨_, _, _, e, _⟩ | ⟨_, _, cap, _, _, h1, h2, _⟩
    · subst e; simp
    · unfold maxLen at h2; omega
  have Hbig := hide (big_any _ l w hr hcap)
  by_cases hbig : 1048576 < l.length
  · rw [decide_eq_true hbig] at Hbig
    clear hr
    go_enter Try.func4, Try.ntmps4
    go_wp2_with fail
    refine Hbig.out.mono ?_
    rintro e w' ⟨rfl, rfl⟩
    go_wp2
    go_ret
    exact ⟨rfl, Below.refl _ _⟩
  · rw [decide_eq_false hbig] at Hbig
    have hl20 : l.length ≤ 1048576 := by omega
    have Hd := hide (drawPutText_any w _ l hr hl20)
    have Hr := hide hr
    clear hr
    go_enter Try.func4, Try.ntmps4
    go_wp2_with fail
    refine Hbig.out.mono ?_
    rintro e w' ⟨rfl, rfl⟩
    go_wp2_with fail
    refine Hd.out.mono ?_
    rintro e w1 ⟨v1, b, t, rfl, ho1, hb9, ht9, hB1⟩
    obtain ⟨a1, c1, hv1⟩ := ho1.rd.shape
    rw [hv1] at ho1 ⊢
    clear hv1
    obtain ⟨s, hs, hs9⟩ : ∃ s : ByteArray, (⟨t.toArray⟩ : ByteArray) = s ∧ s.size ≤ 9 := ⟨_, rfl, by show t.toArray.size ≤ 9; simpa using ht9⟩
    rw [hs]
    clear hs ht9
    have Hp := hide (implPutText_any _ b s w1 ho1.rd (by omega) (by omega))
    have Hget := hide (getT_put b [] s (by omega))
    rw [List.append_nil] at Hget
    have htl := textB_len s
    have hne : 0 < (textB s).length := by
      have : numB (s.size : Int) ≠ [] := putG_ne _ _
      have h2 : 0 < (numB (s.size : Int)).length := by
        cases h : numB (s.size : Int) with
        | nil => exact absurd h this
        | cons _ _ => simp
      unfold textB; simp; omega
    clear ho1
    -- p := impl.PutText(b, s)
    go_wp2_with fail
    refine Hp.out.mono ?_
    rintro e w2 ⟨v2, rfl, ho2, hb2⟩
    have hB2 : Below w'.heap.size w' w2 := hB1.trans (hb2.mono hB1.size)
    obtain ⟨g, c2, hv2, hc2, hc3⟩ := ho2.shape (by intro e; have := congrArg List.length e; rw [List.length_append] at this; simp only [List.length_nil] at this; omega)
    rw [hv2] at ho2 ⊢
    clear hv2
    have hPl : (b ++ textB s).length = b.length + (textB s).length := by simp
    have Hg1 := hide (implGetText_any _ (b ++ textB s) (b.length : Int) w2 ho2.rd (by omega) (by omega) (by omega))
    rw [Hget.out] at Hg1
    simp only [trs, back_bytes] at Hg1
    have hKe : (b.length : Int) + ((textB s).length : Int) = ((b ++ textB s).length : Int) := by omega
    rw [hKe] at Hg1
    have Hdn := hide (drawPutNames_any w2 _ l (Hr.out.below hB2 (Nat.le_refl _)) hl20)
    generalize (b ++ textB s).length = K at Hg1 hc2 hPl hKe
    clear hKe Hget ho2
    have hK30 : K ≤ 100 := by omega
    clear hPl
    -- x, next, ok := impl.GetText(p, len(b))
    go_wp2_with fail
    refine Hg1.out.mono ?_
    rintro e w3 ⟨rfl, rfl⟩
    -- c, l := spec.DrawPutNames(code)
    go_wp2_with fail
    refine Hdn.out.mono ?_
    rintro e w4 ⟨v4, vs4, d, ls, rfl, ho4, hos4, hd9, hls5, hsz1, hb4⟩
    have hB4 : Below w'.heap.size w' w4 := hB2.trans (hb4.mono hB2.size)
    obtain ⟨a4, c4, hv4⟩ := ho4.rd.shape
    rw [hv4] at ho4 ⊢
    clear hv4
    have htot : tot ls ≤ 5 := by
      have : ∀ (m : List ByteArray), (∀ s ∈ m, s.size = 1) → tot m = m.length := by
        intro m
        induction m with
        | nil => intro _; rfl
        | cons u r ih =>
          intro h
          have h1 := h u (by simp)
          have h2 := ih (fun s hs => h s (by simp [hs]))
          simp only [tot, List.map_cons, List.sum_cons, List.length_cons] at h2 ⊢
          omega
      rw [this ls hsz1]; omega
    have Hp2 := hide (implPutNames_any _ _ d ls w4 ho4.rd hos4.rd (by omega) (by omega) (by omega))
    have Hget2 := hide (getNs_put d ls (by omega) (fun u hu => by rw [hsz1 u hu]; omega))
    have hnl := namesB_len ls
    have hne2 : 0 < (namesB ls).length := by
      have : numB (ls.length : Int) ≠ [] := putG_ne _ _
      have h2 : 0 < (numB (ls.length : Int)).length := by
        cases h : numB (ls.length : Int) with
        | nil => exact absurd h this
        | cons _ _ => simp
      unfold namesB; simp; omega
    clear hsz1 ho4
    -- q := impl.PutNames(c, l)
    go_wp2_with fail
    refine Hp2.out.mono ?_
    rintro e w5 ⟨v5, rfl, ho5, hb5⟩
    have hB5 : Below w'.heap.size w' w5 := hB4.trans (hb5.mono hB4.size)
    have hos5 := hos4.below hb5 (Nat.le_refl _)
    obtain ⟨g5, c5, hv5, hc5, hc6⟩ := ho5.shape (by intro e; have := congrArg List.length e; rw [List.length_append] at this; simp only [List.length_nil] at this; omega)
    rw [hv5] at ho5 ⊢
    clear hv5
    have hPl2 : (d ++ namesB ls).length = d.length + (namesB ls).length := by simp
    have Hg2 := hide (implGetNames_any _ (d ++ namesB ls) (d.length : Int) w5 ho5.rd (by omega) (by omega) (by omega))
    rw [Hget2.out] at Hg2
    have hKe2 : (d.length : Int) + ((namesB ls).length : Int) = ((d ++ namesB ls).length : Int) := by omega
    rw [hKe2] at Hg2
    generalize (d ++ namesB ls).length = K2 at Hg2 hc5 hPl2 hKe2
    clear hKe2 Hget2 ho5 hPl2
    -- y, end, is := impl.GetNames(q, len(c))
    go_wp2_with fail
    refine Hg2.out.mono ?_
    rintro e w6 ⟨v6, rfl, ho6, hb6⟩
    have hB6 : Below w'.heap.size w' w6 := hB5.trans (hb6.mono hB5.size)
    have hos6 := hos5.below hb6 (Nat.le_refl _)
    go_wp2_with fail
    refine (sameTexts_any _ _ ls ls _ ho6.rd hos6.rd (by omega) (by omega)).mono ?_
    rintro e w7 ⟨rfl, hs7⟩
    have hB7 : Below w'.heap.size w' w7 := hB6.trans (hs7 _)
    go_wp2
    go_ret
    exact ⟨rfl, hB7⟩

set_option maxRecDepth 100000 in
theorem fnTexts_lifted (os : Os) (started : os.Started) (H : Type) (enc : TypeId × Value → H) :
    ReturnsInHanded {} Try.checked os 4 .any (Rows.fnTextsSpec.pre6 enc Try.prog Try.f4 Rows.fnTextsRow.domain false) (Rows.fnTextsSpec.post enc Try.prog Try.f4 false true false false) := by
  refine returnsInHanded_of_change (C := Try.checked) fnTexts_own started (by kernel_rfl) Try.func4
    (ChangeSpec.witness6 (enc := enc) (C := Try.checked) false ⟨#[], #[.slice none 0 0], []⟩ 8 (by kernel_rfl) (by kernel_rfl) (by kernel_rfl) (by kernel_rfl)) ?_
  intro W base args ds gs before hval0 hW hcnd _
  have hval : ∀ (j : Nat) t v, Try.f4.params[j]? = some t → args[j]? = some v → Value.okWide Try.prog W .any base t v := hval0
  have hW' := hW
  obtain ⟨p, q, hA0, hV, rfl, hfz, hnd⟩ := hW
  have hA : DataW.TrodAll enc Try.prog W 0 (fun _ => true) true Try.f4.params.toList args.toList ds p := hA0
  rw [Try.params4] at hA hval
  obtain ⟨v0, vs0, d0, ds0, p0, q0, hargs, rfl, rfl, h0, r0⟩ := trodAll_cons hA
  obtain ⟨rfl, rfl, rfl⟩ := trodAll_nil r0
  obtain rfl : args = #[v0] := by cases args; simp_all
  obtain ⟨rfl, rfl⟩ := trodVars_none hV
  obtain ⟨a0, len0, cap0, rfl⟩ := okWide_slice Try.underlying22 (hval 0 22 v0 rfl rfl)
  have k0 := h0
  have lt0 : ∀ x ∈ p0, x.block < W.heap.size := by obtain ⟨m, hm⟩ := k0; exact DataW.trod_lt m _ _ _ hm
  obtain ⟨z0, w0⟩ : ∃ zs, IsRow .u8 W a0 len0 cap0 zs := by
    obtain ⟨fuel, hf⟩ := h0
    rcases open_ints Try.underlying22 Try.underlying5 (by kernel_rfl) hf with ⟨hcs, _⟩ | ⟨x, l, c, zs, hcs, _, hl, hm, hz, _, hcell, hwz⟩
    · simp [Value.cells] at hcs
      obtain ⟨rfl, rfl, rfl⟩ := hcs
      exact ⟨[], .inl ⟨rfl, rfl, rfl, rfl⟩⟩
    · simp [Value.cells] at hcs
      obtain ⟨rfl, rfl, rfl⟩ := hcs
      exact ⟨zs, .inr ⟨_, rfl, hl, hm, by simpa using hz, hcell, hwz⟩⟩
  clear hA0 hval0
  refine (fnTexts_walk a0 len0 cap0 z0 W w0).mono fun e W' ⟨he, bel⟩ => ?_
  subst he
  exact ⟨_, rfl, _, _, _, [], _, [], hW', trodAll_mk1 (shut_bool Try.underlying4 _), (trodAll_cons_mk (Below.trod fnTexts_laidOut (by kernel_rfl) (of_decide_eq_true (by kernel_rfl)) k0 bel lt0) trodAll_mk0), rfl, bel.frame _, fun h => by cases h⟩

theorem fnTexts_holds : Rows.FnTextsSaid :=
  OpenClaim.holds_of_wide 4 Try.f4 rfl rfl rfl rfl rfl rfl rfl ⟨rfl, rfl, rfl, rfl, rfl⟩ rfl rfl rfl rfl rfl (by kernel_rfl) Try.func4 (by kernel_rfl)
    (of_decide_eq_true (by kernel_rfl)) (by unfold Func.isWrapper; first | (rw [if_pos (by decide +kernel)]; kernel_rfl) | (rw [if_neg (by decide +kernel)]; exact ⟨rfl, rfl⟩))
    (fun os started H enc _ => fnTexts_lifted os started H enc)

end Go.Proofs.Ytemmindofiecjaa
