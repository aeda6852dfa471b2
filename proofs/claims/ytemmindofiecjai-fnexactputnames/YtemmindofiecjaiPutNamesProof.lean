/- At all bytes and all lists of texts PutNames of the program answers as the model's PutNames, writes into no argument, and its answer owns its memory: the law FnExactPutNames returns true, with no condition. -/
import Derived.Test.YtemmindofiecjaiRows
import Derived.Test.YtemmindofiecjaiRow
import Derived.Test.YtemmindofiecjaiRowS
import Derived.Test.YtemmindofiecjaiToStr
import Derived.Test.YtemmindofiecjaiPutNames
import Derived.Test.YtemmindofiecjaiMarks
import Derived.Test.YtemmindofiecjaiHeld
import Derived.Test.YtemmindofiecjaiMarkStr
import Derived.WalkKit
import Derived.ProofKit
import Derived.OpenShut
import Derived.ShutString
import Derived.ChangeOld
import Derived.Below
import Derived.SliceStrings
namespace Go.Proofs.Ytemmindofiecjai
open Go.ChangeShapes Go.WideShapes Go.ChangeAt Go.RowKit
open Go.ChangeMaps (open_string shut_string)
set_option linter.unusedVariables false

theorem fnExactPutNames_own : ownKnob Try.prog.godebug = none := by kernel_rfl
theorem fnExactPutNames_laidOut : laidOutB Try.prog = true := by kernel_rfl

theorem szR_ok (l : List ByteArray) (m : Nat) (h : 0 ≤ szR l m) : l.length + tot l ≤ m := by
  unfold szR at h
  split at h
  · assumption
  · omega

set_option maxRecDepth 20000 in
set_option maxHeartbeats 2000000 in
theorem fnExactPutNames_walk (a0 : Option Addr) (len0 cap0 : Nat) (z0 : List Int) (a1 : Option Addr) (len1 cap1 : Nat) (z1 : List ByteArray) (w : World) (w0 : IsRow .u8 w a0 len0 cap0 z0) (w1 : IsRowS w a1 len1 cap1 z1) :
    Calls Try.prog 7 #[.slice a0 len0 cap0, .slice a1 len1 cap1] w fun e w' => e = .returned (.bool true) ∧ Below w.heap.size w w' := by
  obtain ⟨l, rfl, hr⟩ := w0.rd
  obtain ⟨ls, rfl, hrs, hlm, hsm⟩ := w1.rd
  clear w0 w1
  have hcap : l.length ≤ 9223372036854775807 := by
    rcases hr with ⟨_, _, _, e, _⟩ | ⟨_, _, cap, _, _, h1, h2, _⟩
    · subst e; simp
    · unfold maxLen at h2; omega
  have hlm' : ls.length ≤ 9223372036854775807 := by unfold maxLen at hlm; omega
  have hsm' : ∀ s ∈ ls, s.size ≤ 9223372036854775807 := fun s hs => by have := hsm s hs; unfold maxLen at this; omega
  by_cases hbig : 1048576 < l.length
  · clear hr hrs hsm hsm'
    go_enter Try.func7, Try.ntmps7
    go_wp2
    go_ret
    exact ⟨rfl, Below.refl _ _⟩
  have Hz := hide (szStringS_any _ ls 1048576 w hrs (by omega) hlm' hsm')
  have Hok := hide (szR_ok ls 1048576)
  have Hrs := hide hrs
  have Hr := hide hr
  clear hr hrs hsm hsm'
  by_cases hneg : szR ls 1048576 < 0
  · generalize szR ls 1048576 = z at hneg Hz
    clear Hok
    go_enter Try.func7, Try.ntmps7
    go_wp2_with fail
    refine Hz.out.mono ?_
    rintro e w' ⟨rfl, rfl⟩
    go_wp2
    go_ret
    exact ⟨rfl, Below.refl _ _⟩
  · have htl := Hok.out (by omega)
    have hls4 : ls.length ≤ 4000000 := by omega
    have hls2 : ls.length ≤ 2000000 := by omega
    have htt : tot ls ≤ 10000000 := by omega
    have hl4 : l.length ≤ 4000000 := by omega
    have hl10 : l.length ≤ 10000000 := by omega
    generalize szR ls 1048576 = z at hneg Hz
    obtain ⟨P, hP, hP2⟩ : ∃ P, l ++ namesB ls = P ∧ P.length ≤ 9000000 := ⟨_, rfl, by have := namesB_len ls; simp; omega⟩
    have HS := hide (fun v vs w hr hrs => specPutNames_any v vs l ls w hr hrs hl10 hls2 htt)
    have HI := hide (fun v vs w hr hrs => implPutNames_any v vs l ls w hr hrs hl10 hls2 htt)
    rw [hP] at HS HI
    clear Hok htl hP
    go_enter Try.func7, Try.ntmps7
    go_wp2_with fail
    refine Hz.out.mono ?_
    rintro e w' ⟨rfl, rfl⟩
    -- w0 := spec.PutNames(toByteS(aB), toStringS(aL))
    go_wp2_with fail
    refine (toByteS_any _ l _ Hr.out hl4).mono ?_
    rintro e w1 ⟨v1, rfl, ho1, hb1⟩
    go_wp2_with fail
    refine (toStringS_any _ ls _ (Hrs.out.below hb1 (Nat.le_refl _)) hls4).mono ?_
    rintro e w2 ⟨v2, rfl, ho2, hb2⟩
    have hB2 : Below w'.heap.size w' w2 := hb1.trans (hb2.mono hb1.size)
    go_wp2_with fail
    refine (HS.out _ _ _ (ho1.rd.below hb2 (Nat.le_refl _)) ho2.rd).mono ?_
    rintro e w3 ⟨v3, rfl, ho3, hb3⟩
    have hB3 : Below w'.heap.size w' w3 := hB2.trans (hb3.mono hB2.size)
    clear ho1 ho2
    have lt3 := ho3.lt
    -- x0 := toByteS(aB); x1 := toStringS(aL)
    go_wp2_with fail
    refine (toByteS_any _ l _ (Hr.out.below hB3 (Nat.le_refl _)) hl4).mono ?_
    rintro e w4 ⟨v4, rfl, ho4, hb4⟩
    have hB4 : Below w'.heap.size w' w4 := hB3.trans (hb4.mono hB3.size)
    have ho3 := ho3.below hb4 (Nat.le_refl _)
    have ge4 := ho4.ge
    have lt4 := ho4.lt
    go_wp2_with fail
    refine (toStringS_any _ ls _ (Hrs.out.below hB4 (Nat.le_refl _)) hls4).mono ?_
    rintro e w5 ⟨v5, rfl, ho5, hb5⟩
    have hB5 : Below w'.heap.size w' w5 := hB4.trans (hb5.mono hB4.size)
    have ho3 := ho3.below hb5 (Nat.le_refl _)
    have ho4 := ho4.below hb5 (Nat.le_refl _)
    have ge5 := ho5.ge
    have lt5 := ho5.lt
    -- g0 := impl.PutNames(x0, x1)
    go_wp2_with fail
    refine (HI.out _ _ _ ho4.rd ho5.rd).mono ?_
    rintro e w6 ⟨v6, rfl, ho6, hb6⟩
    have hB6 : Below w'.heap.size w' w6 := hB5.trans (hb6.mono hB5.size)
    have ho3 := ho3.below hb6 (Nat.le_refl _)
    have ho4 := ho4.below hb6 (Nat.le_refl _)
    have ho5 := ho5.below hb6 (Nat.le_refl _)
    have ge6 := ho6.ge
    -- eqByteS(g0, w0)
    go_wp2_with fail
    refine (eqByteS_any _ _ P P _ ho6.rd ho3.rd (by omega) (by omega)).mono ?_
    rintro e w7 ⟨rfl, hs7⟩
    have hB7 : Below w'.heap.size w' w7 := hB6.trans (hs7 _)
    have ho3 := ho3.below (hs7 _) (Nat.le_refl _)
    have ho4 := ho4.below (hs7 _) (Nat.le_refl _)
    have ho5 := ho5.below (hs7 _) (Nat.le_refl _)
    have ho6 := ho6.below (hs7 _) (Nat.le_refl _)
    -- eqByteS(x0, toByteS(aB))
    go_wp2_with fail
    refine (toByteS_any _ l _ (Hr.out.below hB7 (Nat.le_refl _)) hl4).mono ?_
    rintro e w8 ⟨v8, rfl, ho8, hb8⟩
    have hB8 : Below w'.heap.size w' w8 := hB7.trans (hb8.mono hB7.size)
    have ho3 := ho3.below hb8 (Nat.le_refl _)
    have ho4 := ho4.below hb8 (Nat.le_refl _)
    have ho5 := ho5.below hb8 (Nat.le_refl _)
    have ho6 := ho6.below hb8 (Nat.le_refl _)
    go_wp2_with fail
    refine (eqByteS_any _ _ l l _ ho4.rd ho8.rd (by omega) (by omega)).mono ?_
    rintro e w9 ⟨rfl, hs9⟩
    have hB9 : Below w'.heap.size w' w9 := hB8.trans (hs9 _)
    have ho3 := ho3.below (hs9 _) (Nat.le_refl _)
    have ho4 := ho4.below (hs9 _) (Nat.le_refl _)
    have ho5 := ho5.below (hs9 _) (Nat.le_refl _)
    have ho6 := ho6.below (hs9 _) (Nat.le_refl _)
    clear ho8
    -- eqStringS(x1, toStringS(aL))
    go_wp2_with fail
    refine (toStringS_any _ ls _ (Hrs.out.below hB9 (Nat.le_refl _)) hls4).mono ?_
    rintro e w10 ⟨v10, rfl, ho10, hb10⟩
    have hB10 : Below w'.heap.size w' w10 := hB9.trans (hb10.mono hB9.size)
    have ho3 := ho3.below hb10 (Nat.le_refl _)
    have ho4 := ho4.below hb10 (Nat.le_refl _)
    have ho5 := ho5.below hb10 (Nat.le_refl _)
    have ho6 := ho6.below hb10 (Nat.le_refl _)
    go_wp2_with fail
    refine (eqStringS_any _ _ ls ls _ ho5.rd ho10.rd hls4 hls4).mono ?_
    rintro e w11 ⟨rfl, hs11⟩
    have hB11 : Below w'.heap.size w' w11 := hB10.trans (hs11 _)
    have ho3 := ho3.below (hs11 _) (Nat.le_refl _)
    have ho4 := ho4.below (hs11 _) (Nat.le_refl _)
    have ho5 := ho5.below (hs11 _) (Nat.le_refl _)
    have ho6 := ho6.below (hs11 _) (Nat.le_refl _)
    clear ho10
    -- k = markByteS(x0, 1)
    go_wp2_with fail
    refine (markByteS_any _ l 1 _ _ ho4 (by omega) (by omega)).mono ?_
    rintro e w12 ⟨rfl, ho4', hg12⟩
    have hB12 : Below w'.heap.size w' w12 := hB11.grown hg12 hB11.size (fun k hk => Nat.le_trans hB3.size (ge4 k hk))
    have ho3 := ho3.kept hg12 (apart_of lt3 ge4 (Nat.le_refl _))
    have ho5 := ho5.kept hg12 (apart_of' ge5 lt4 (Nat.le_refl _))
    have ho6 := ho6.kept hg12 (apart_of' ge6 lt4 hb5.size)
    -- k = markStringS(x1, k)
    go_wp2_with fail
    refine (markStringS_any _ ls (1 + l.length) _ _ ho5 (by omega) (by omega) (by omega)).mono ?_
    rintro e w13 ⟨rfl, ho5', hg13⟩
    have hB13 : Below w'.heap.size w' w13 := hB12.grown hg13 hB12.size (fun k hk => Nat.le_trans hB4.size (ge5 k hk))
    have ho3 := ho3.kept hg13 (apart_of lt3 ge5 hb4.size)
    have ho6 := ho6.kept hg13 (apart_of' ge6 lt5 (Nat.le_refl _))
    -- !eqByteS(g0, w0)
    go_wp2_with fail
    refine (eqByteS_any _ _ P P _ ho6.rd ho3.rd (by omega) (by omega)).mono ?_
    rintro e w14 ⟨rfl, hs14⟩
    have hB14 : Below w'.heap.size w' w14 := hB13.trans (hs14 _)
    have ho3 := ho3.below (hs14 _) (Nat.le_refl _)
    have ho6 := ho6.below (hs14 _) (Nat.le_refl _)
    -- m = markByteS(g0, 1)
    go_wp2_with fail
    refine (markByteS_any _ P 1 _ _ ho6 (by omega) (by omega)).mono ?_
    rintro e w15 ⟨rfl, hm6, hg15⟩
    have hB15 : Below w'.heap.size w' w15 := hB14.grown hg15 hB14.size (fun k hk => Nat.le_trans hB5.size (ge6 k hk))
    have ho3 := ho3.kept hg15 (apart_of lt3 ge6 (Nat.le_trans hb4.size hb5.size))
    -- q = heldByteS(g0, 1)
    go_wp2_with fail
    refine (heldByteS_any _ 1 P.length _ hm6.rd (by omega) (by omega)).mono ?_
    rintro e w15' ⟨rfl, rfl⟩
    -- h0 := impl.PutNames(toByteS(aB), toStringS(aL))
    go_wp2_with fail
    refine (toByteS_any _ l _ (Hr.out.below hB15 (Nat.le_refl _)) hl4).mono ?_
    rintro e w16 ⟨v16, rfl, ho16, hb16⟩
    have hB16 : Below w'.heap.size w' w16 := hB15.trans (hb16.mono hB15.size)
    have ho3 := ho3.below hb16 (Nat.le_refl _)
    have hm6 := hm6.below hb16 (Nat.le_refl _)
    go_wp2_with fail
    refine (toStringS_any _ ls _ (Hrs.out.below hB16 (Nat.le_refl _)) hls4).mono ?_
    rintro e w17 ⟨v17, rfl, ho17, hb17⟩
    have hB17 : Below w'.heap.size w' w17 := hB16.trans (hb17.mono hB16.size)
    have ho3 := ho3.below hb17 (Nat.le_refl _)
    have hm6 := hm6.below hb17 (Nat.le_refl _)
    go_wp2_with fail
    refine (HI.out _ _ _ (ho16.rd.below hb17 (Nat.le_refl _)) ho17.rd).mono ?_
    rintro e w18 ⟨v18, rfl, ho18, hb18⟩
    have hB18 : Below w'.heap.size w' w18 := hB17.trans (hb18.mono hB17.size)
    have ho3 := ho3.below hb18 (Nat.le_refl _)
    have hm6 := hm6.below hb18 (Nat.le_refl _)
    clear ho16 ho17
    -- !eqByteS(h0, w0)
    go_wp2_with fail
    refine (eqByteS_any _ _ P P _ ho18.rd ho3.rd (by omega) (by omega)).mono ?_
    rintro e w19 ⟨rfl, hs19⟩
    have hB19 : Below w'.heap.size w' w19 := hB18.trans (hs19 _)
    have hm6 := hm6.below (hs19 _) (Nat.le_refl _)
    -- q = heldByteS(g0, 1)
    go_wp2_with fail
    refine (heldByteS_any _ 1 P.length _ hm6.rd (by omega) (by omega)).mono ?_
    rintro e w20 ⟨rfl, rfl⟩
    go_wp2
    go_ret
    exact ⟨rfl, hB19⟩

set_option maxRecDepth 100000 in
theorem fnExactPutNames_lifted (os : Os) (started : os.Started) (H : Type) (enc : TypeId × Value → H) :
    ReturnsInHanded {} Try.checked os 7 .any (Rows.fnExactPutNamesSpec.pre6 enc Try.prog Try.f7 Rows.fnExactPutNamesRow.domain false) (Rows.fnExactPutNamesSpec.post enc Try.prog Try.f7 false true false false) := by
  refine returnsInHanded_of_change (C := Try.checked) fnExactPutNames_own started (by kernel_rfl) Try.func7
    (ChangeSpec.witness6 (enc := enc) (C := Try.checked) false ⟨#[], #[.slice none 0 0, .slice none 0 0], []⟩ 8 (by kernel_rfl) (by kernel_rfl) (by kernel_rfl) (by kernel_rfl)) ?_
  intro W base args ds gs before hval0 hW hcnd _
  have hval : ∀ (j : Nat) t v, Try.f7.params[j]? = some t → args[j]? = some v → Value.okWide Try.prog W .any base t v := hval0
  have hW' := hW
  obtain ⟨p, q, hA0, hV, rfl, hfz, hnd⟩ := hW
  have hA : DataW.TrodAll enc Try.prog W 0 (fun _ => true) true Try.f7.params.toList args.toList ds p := hA0
  rw [Try.params7] at hA hval
  obtain ⟨v0, vs0, d0, ds0, p0, q0, hargs, rfl, rfl, h0, r0⟩ := trodAll_cons hA
  obtain ⟨v1, vs1, d1, ds1, p1, q1, rfl, rfl, rfl, h1, r1⟩ := trodAll_cons r0
  obtain ⟨rfl, rfl, rfl⟩ := trodAll_nil r1
  obtain rfl : args = #[v0, v1] := by cases args; simp_all
  obtain ⟨rfl, rfl⟩ := trodVars_none hV
  obtain ⟨a0, len0, cap0, rfl⟩ := okWide_slice Try.underlying22 (hval 0 22 v0 rfl rfl)
  have k0 := h0
  have lt0 : ∀ x ∈ p0, x.block < W.heap.size := by obtain ⟨m, hm⟩ := k0; exact DataW.trod_lt m _ _ _ hm
  obtain ⟨z0, w0⟩ : ∃ zs, IsRow .u8 W a0 len0 cap0 zs := by
    obtain ⟨fuel, hf⟩ := h0
    rcases open_ints Try.underlying22 Try.underlying5 (by kernel_rfl) hf with ⟨hcs, _⟩ | ⟨x, l, c, zs, hcs, _, hl, hm, hz, _, hcell, hwz⟩
    · simp [Value.cells] at hcs
      obtain ⟨rfl, rfl, rfl⟩ := hcs
      exact ⟨[], .inl ⟨rfl, rfl, rfl, rfl⟩⟩
    · simp [Value.cells] at hcs
      obtain ⟨rfl, rfl, rfl⟩ := hcs
      exact ⟨zs, .inr ⟨_, rfl, hl, hm, by simpa using hz, hcell, hwz⟩⟩
  obtain ⟨a1, len1, cap1, rfl⟩ := okWide_slice Try.underlying34 (hval 1 34 v1 rfl rfl)
  have k1 := h1
  have lt1 : ∀ x ∈ p1, x.block < W.heap.size := by obtain ⟨m, hm⟩ := k1; exact DataW.trod_lt m _ _ _ hm
  obtain ⟨z1, w1⟩ : ∃ zs, IsRowS W a1 len1 cap1 zs := by
    obtain ⟨fuel, hf⟩ := h1
    rcases open_strings Try.underlying34 Try.underlying9 (by kernel_rfl) hf with ⟨hcs, _⟩ | ⟨x, l, c, zs, hcs, _, hl, hm, hz, _, hcell, hwz⟩
    · simp [Value.cells] at hcs
      obtain ⟨rfl, rfl, rfl⟩ := hcs
      exact ⟨[], .inl ⟨rfl, rfl, rfl, rfl⟩⟩
    · simp [Value.cells] at hcs
      obtain ⟨rfl, rfl, rfl⟩ := hcs
      exact ⟨zs, .inr ⟨_, rfl, hl, hm, by simpa using hz, hcell, hwz⟩⟩
  clear hA0 hval0
  refine (fnExactPutNames_walk a0 len0 cap0 z0 a1 len1 cap1 z1 W w0 w1).mono fun e W' ⟨he, bel⟩ => ?_
  subst he
  exact ⟨_, rfl, _, _, _, [], _, [], hW', trodAll_mk1 (shut_bool Try.underlying4 _), (trodAll_cons_mk (Below.trod fnExactPutNames_laidOut (by kernel_rfl) (of_decide_eq_true (by kernel_rfl)) k0 bel lt0) (trodAll_cons_mk (Below.trod fnExactPutNames_laidOut (by kernel_rfl) (of_decide_eq_true (by kernel_rfl)) k1 bel lt1) trodAll_mk0)), rfl, bel.frame _, fun h => by cases h⟩

theorem fnExactPutNames_holds : Rows.FnExactPutNamesSaid :=
  OpenClaim.holds_of_wide 7 Try.f7 rfl rfl rfl rfl rfl rfl rfl ⟨rfl, rfl, rfl, rfl, rfl⟩ rfl rfl rfl rfl rfl (by kernel_rfl) Try.func7 (by kernel_rfl)
    (of_decide_eq_true (by kernel_rfl)) (by unfold Func.isWrapper; first | (rw [if_pos (by decide +kernel)]; kernel_rfl) | (rw [if_neg (by decide +kernel)]; exact ⟨rfl, rfl⟩))
    (fun os started H enc _ => fnExactPutNames_lifted os started H enc)

end Go.Proofs.Ytemmindofiecjai
