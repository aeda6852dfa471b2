/- Two quorums of drawn ones who vote have more than a third of the weight in common: the law FnQuorums returns true at every code, with no condition. -/
import Derived.Test.YtoejikphbienfaaRows
import Derived.Test.YtoejikphbienfaaRow
import Derived.Test.YtoejikphbienfaaBig
import Derived.Test.YtoejikphbienfaaVsFact
import Derived.Test.YtoejikphbienfaaVsQuo
import Derived.WalkKit
import Derived.ProofKit
import Derived.OpenShut
import Derived.ShutString
import Derived.ChangeOld
import Derived.Below
import Derived.SliceStrings
namespace Go.Proofs.Ytoejikphbienfaa
open Go.ChangeShapes Go.WideShapes Go.ChangeAt Go.RowKit
open Go.ChangeMaps (open_string shut_string)
set_option linter.unusedVariables false

theorem fnQuorums_own : ownKnob Try.prog.godebug = none := by kernel_rfl
theorem fnQuorums_laidOut : laidOutB Try.prog = true := by kernel_rfl

set_option maxRecDepth 20000 in
set_option maxHeartbeats 4000000 in
theorem fnQuorums_walk (a0 : Option Addr) (len0 cap0 : Nat) (z0 : List Int) (w : World) (w0 : IsRow .u8 w a0 len0 cap0 z0) :
    Calls Try.prog 4 #[.slice a0 len0 cap0] w fun e w' => e = .returned (.bool true) ∧ Below w.heap.size w w' := by
  obtain ⟨cd, rfl, hr⟩ := w0.rd
  clear w0
  have hcap : cd.length ≤ 9223372036854775807 := by
    rcases hr with ⟨_, _, _, e, _⟩ | ⟨_, _, cap, _, _, h1, h2, _⟩
    · subst e; simp
    · unfold maxLen at h2; omega
  have Hbig := hide (big_any _ cd w hr hcap)
  by_cases hbig : 1048576 < cd.length
  · rw [decide_eq_true hbig] at Hbig
    clear hr
    go_enter Try.func4, Try.ntmps4
    go_wp2_with fail
    refine Hbig.out.mono ?_
    rintro e w' ⟨rfl, rfl⟩
    go_wp2
    go_ret
    exact ⟨rfl, Below.refl _ _⟩
  rw [decide_eq_false hbig] at Hbig
  have Hd := hide (drawTwo_any w _ cd hr (by omega))
  clear hr
  go_enter Try.func4, Try.ntmps4
  go_wp2_with fail
  refine Hbig.out.mono ?_
  rintro e w ⟨rfl, rfl⟩
  go_wp2_with fail
  refine Hd.out.mono ?_
  rintro en w2 ⟨v1, v2, v3, l, na, nb, rfl, hrl, hra, hrb, hnil, hfew, hla, hlb, hB2⟩
  obtain ⟨al, cl, rfl⟩ := hrl.shape
  obtain ⟨aa, ca, rfl⟩ := hra.shape
  obtain ⟨ab, cb, rfl⟩ := hrb.shape
  have hl5 : l.length ≤ 5 := hfew.1
  have hna5 : na.length ≤ 5 := hla.1
  have hnb5 : nb.length ≤ 5 := hlb.1
  have Htq := hide (two_quorums hfew na nb)
  have hT := few_total hfew
  have hWa := few_weight hfew na
  have hWb := few_weight hfew nb
  have hWc := few_weight hfew (na.filter (hasN nb))
  have Hrl := hide hrl
  have Hra := hide hra
  have Hrb := hide hrb
  have HB2 := hide hB2
  have HA := hide (fun s w h => lawAmong_any (.slice ab nb.length cb) nb s w h (by omega))
  have HQ := hide (fun vn ns w h1 h2 (hn : ns.length ≤ 5) => implIsQuorum_small (.slice al l.length cl) vn l ns w h1 h2 (by omega) (by omega) (by omega))
  have HQs := hide (fun w h1 h2 => specIsQuorum_small (.slice al l.length cl) (.slice ab nb.length cb) l nb w h1 h2 (by omega) (by omega) (by omega) (by omega))
  have HW := hide (fun vn ns w h1 h2 (hn : ns.length ≤ 5) => implWeightOf_any (.slice al l.length cl) vn l ns w h1 h2 (by omega) (by omega))
  have HT := hide (fun w h => implTotalOf_any (.slice al l.length cl) l w h (by omega))
  have Hb0 : Hid (Below w2.heap.size w2 (w2.alloc (.cells #[] 9))) := hide ((Below.refl _ w2).alloc (Nat.le_refl _) _)
  have Ho0 := hide (own_nilS w2 w2.heap.size (Nat.le_refl _))
  clear hrl hra hrb hfew hla hlb hnil hB2
  go_wp2
  go_loopw [6, 7] (fun bv iv wr => ∃ i : Nat, i ≤ na.length ∧ iv = .int .i64 (i : Int) ∧ OwnS w2.heap.size wr bv ((na.take i).filter (hasN nb)) ∧ Below w2.heap.size w2 wr) (fun _ iv _ => na.length - (intOf iv).toNat)
  case atStart => exact ⟨0, Nat.zero_le _, rfl, Ho0.out, Hb0.out⟩
  case round =>
    obtain ⟨i, hi, rfl, ho, hb⟩ := hrel
    clear Ho0 Hb0
    have hbs := hb.size
    by_cases hlt : i < na.length
    · obtain ⟨b, off, rfl, hc1, hc2, hbw, hcell⟩ := Hra.out.at hlt
      have hli : (i : Int) < (na.length : Int) := by omega
      have c0 := (hb.cell (p := ⟨b, off + i, none⟩) hbw).trans hcell
      have Hsn := hide (filter_snoc na nb i hlt)
      have hfl := filter_few na nb i
      have HA4 := hide (HA.out na[i] wr (Hrb.out.below hb (Nat.le_refl _)))
      generalize na[i] = s at c0 hcell Hsn HA4
      generalize (na.take i).filter (hasN nb) = N at ho Hsn hfl
      have Ho := hide ho
      have Hb := hide hb
      clear ho hb hcell
      cases hs : hasN nb s
      · rw [hs] at HA4 Hsn
        rw [if_neg (by simp), List.append_nil] at Hsn
        clear hs
        go_wp2_with fail
        refine HA4.out.mono ?_
        rintro en w4 ⟨rfl, hb4⟩
        have HB4 := hide (Hb.out.trans (hb4.mono hbs))
        have Ho4 := hide (Ho.out.below hb4 (Nat.le_refl _))
        clear hb4 c0
        go_wp2
        go_roundw
        case rel => exact ⟨i + 1, by omega, by go_num, by rw [Hsn.out]; exact Ho4.out, HB4.out⟩
        case measure => simp [intOf]; omega
      · rw [hs] at HA4 Hsn
        rw [if_pos rfl] at Hsn
        clear hs
        go_wp2_with fail
        refine HA4.out.mono ?_
        rintro en w4 ⟨rfl, hb4⟩
        have HB4 := hide (Hb.out.trans (hb4.mono hbs))
        have Ho4 := hide (Ho.out.below hb4 (Nat.le_refl _))
        have d0 := (hb4.cell (p := ⟨b, off + i, none⟩) (show b < wr.heap.size by omega)).trans c0
        have z4 := HB4.out.size
        clear hb4 c0
        go_wp2_with (at_builtin; refine app_ownS _ rfl _ _ rfl w2.heap.size _ _ N [s] rfl rfl (Ho4.out.alloc _) (rd_one_str' _ _ _ (by simp)) (by simp; omega) (by simp; omega) ?_; intro v7 w7 ho7 hb7)
        have HB7 := hide ((HB4.out.alloc z4 _).trans hb7)
        go_roundw
        case rel => exact ⟨i + 1, by omega, by go_num, by rw [Hsn.out]; exact ho7, HB7.out⟩
        case measure => simp [intOf]; omega
    · have ei : i = na.length := by omega
      subst ei
      have hfl := filter_few na nb na.length
      rw [List.take_length] at ho hfl
      have Hob := hide ho.rd
      obtain ⟨ac, cc, rfl⟩ := ho.rd.shape
      have HBr := hide (HB2.out.trans (hb.mono HB2.out.size))
      have HQa := hide (HQ.out (.slice aa na.length ca) na wr (Hrl.out.below hb (Nat.le_refl _)) (Hra.out.below hb (Nat.le_refl _)) hna5)
      have hN5 : (na.filter (hasN nb)).length ≤ 5 := by omega
      generalize na.filter (hasN nb) = N at Hob Htq hWc hN5 ho hfl
      have HWc := hide (fun w h1 h2 => HW.out (.slice ac N.length cc) N w h1 h2 hN5)
      have HWa := hide (fun w h1 h2 => HW.out (.slice aa na.length ca) na w h1 h2 hna5)
      have HQb := hide (fun w h1 h2 => HQ.out (.slice ab nb.length cb) nb w h1 h2 hnb5)
      generalize weightV l N = Wc at HWc hWc Htq
      generalize weightV l na = Wa at HWa HQa hWa Htq
      generalize weightV l nb = Wb at HQb HQs hWb Htq
      generalize totalV l = T at HT HQa HQb HQs hT Htq
      have w1 : IntKind.i64.wrap (3 * Wa) = 3 * Wa := by rw [IntKind.wrap_i64]; omega
      have w2' : IntKind.i64.wrap (2 * T) = 2 * T := by rw [IntKind.wrap_i64]; omega
      have w3 : IntKind.i64.wrap (3 * Wc) = 3 * Wc := by rw [IntKind.wrap_i64]; omega
      have Hb := hide hb
      clear HQ HW ho hfl hT hWa hWb hWc hb HA Hd Hbig
      go_wp2_with fail
      refine HQa.out.mono ?_
      rintro en x1 ⟨rfl, hb1⟩
      have B1 := hide (Hb.out.trans (hb1.mono hbs))
      have HB1 := hide (HBr.out.trans (hb1.mono HBr.out.size))
      have O1 := hide (Hob.out.below hb1 (Nat.le_refl _))
      clear hb1 HQa Hb Hob
      go_wp2_with fail
      refine (HQb.out _ (Hrl.out.below B1.out (Nat.le_refl _)) (Hrb.out.below B1.out (Nat.le_refl _))).mono ?_
      rintro en x2 ⟨rfl, hb2⟩
      have B2 := hide (B1.out.trans (hb2.mono B1.out.size))
      have HB2' := hide (HB1.out.trans (hb2.mono HB1.out.size))
      have O2 := hide (O1.out.below hb2 (Nat.le_refl _))
      clear hb2 HQb B1 O1 HB1
      go_wp2_with fail
      refine (HWa.out _ (Hrl.out.below B2.out (Nat.le_refl _)) (Hra.out.below B2.out (Nat.le_refl _))).mono ?_
      rintro en x3 ⟨rfl, hb3⟩
      have B3 := hide (B2.out.trans (hb3.mono B2.out.size))
      have HB3' := hide (HB2'.out.trans (hb3.mono HB2'.out.size))
      have O3 := hide (O2.out.below hb3 (Nat.le_refl _))
      clear hb3 HWa B2 O2 HB2'
      go_wp2_with fail
      refine (HT.out _ (Hrl.out.below B3.out (Nat.le_refl _))).mono ?_
      rintro en x4 ⟨rfl, hb4⟩
      have B4 := hide (B3.out.trans (hb4.mono B3.out.size))
      have HB4' := hide (HB3'.out.trans (hb4.mono HB3'.out.size))
      have O4 := hide (O3.out.below hb4 (Nat.le_refl _))
      clear hb4 B3 O3 HB3'
      go_wp2_with fail
      refine (HQs.out _ (Hrl.out.below B4.out (Nat.le_refl _)) (Hrb.out.below B4.out (Nat.le_refl _))).mono ?_
      rintro en x5 ⟨rfl, hb5⟩
      have B5 := hide (B4.out.trans (hb5.mono B4.out.size))
      have HB5' := hide (HB4'.out.trans (hb5.mono HB4'.out.size))
      have O5 := hide (O4.out.below hb5 (Nat.le_refl _))
      clear hb5 HQs B4 O4 HB4'
      by_cases hx : 2 * T < 3 * Wa
      · by_cases hy : 2 * T < 3 * Wb
        · have hz := Htq.out hx hy
          clear Htq
          go_wp2_with fail
          refine (HWc.out _ (Hrl.out.below B5.out (Nat.le_refl _)) O5.out).mono ?_
          rintro en x6 ⟨rfl, hb6⟩
          have B6 := hide (B5.out.trans (hb6.mono B5.out.size))
          have HB6 := hide (HB5'.out.trans (hb6.mono HB5'.out.size))
          clear hb6
          go_wp2_with fail
          refine (HT.out _ (Hrl.out.below B6.out (Nat.le_refl _))).mono ?_
          rintro en x7 ⟨rfl, hb7⟩
          have HB7 := hide (HB6.out.trans (hb7.mono HB6.out.size))
          clear hb7
          go_wp2
          go_ret
          exact ⟨rfl, HB7.out⟩
        · clear Htq
          go_wp2
          go_ret
          exact ⟨rfl, HB5'.out⟩
      · clear Htq
        go_wp2
        go_ret
        exact ⟨rfl, HB5'.out⟩

set_option maxRecDepth 100000 in
theorem fnQuorums_lifted (os : Os) (started : os.Started) (H : Type) (enc : TypeId × Value → H) :
    ReturnsInHanded {} Try.checked os 4 .any (Rows.fnQuorumsSpec.pre6 enc Try.prog Try.f4 Rows.fnQuorumsRow.domain false) (Rows.fnQuorumsSpec.post enc Try.prog Try.f4 false true false false) := by
  refine returnsInHanded_of_change (C := Try.checked) fnQuorums_own started (by kernel_rfl) Try.func4
    (ChangeSpec.witness6 (enc := enc) (C := Try.checked) false ⟨#[], #[.slice none 0 0], []⟩ 8 (by kernel_rfl) (by kernel_rfl) (by kernel_rfl) (by kernel_rfl)) ?_
  intro W base args ds gs before hval0 hW hcnd _
  have hval : ∀ (j : Nat) t v, Try.f4.params[j]? = some t → args[j]? = some v → Value.okWide Try.prog W .any base t v := hval0
  have hW' := hW
  obtain ⟨p, q, hA0, hV, rfl, hfz, hnd⟩ := hW
  have hA : DataW.TrodAll enc Try.prog W 0 (fun _ => true) true Try.f4.params.toList args.toList ds p := hA0
  rw [Try.params4] at hA hval
  obtain ⟨v0, vs0, d0, ds0, p0, q0, hargs, rfl, rfl, h0, r0⟩ := trodAll_cons hA
  obtain ⟨rfl, rfl, rfl⟩ := trodAll_nil r0
  obtain rfl : args = #[v0] := by cases args; simp_all
  obtain ⟨rfl, rfl⟩ := trodVars_none hV
  obtain ⟨a0, len0, cap0, rfl⟩ := okWide_slice Try.underlying22 (hval 0 22 v0 rfl rfl)
  have k0 := h0
  have lt0 : ∀ x ∈ p0, x.block < W.heap.size := by obtain ⟨m, hm⟩ := k0; exact DataW.trod_lt m _ _ _ hm
  obtain ⟨z0, w0⟩ : ∃ zs, IsRow .u8 W a0 len0 cap0 zs := by
    obtain ⟨fuel, hf⟩ := h0
    rcases open_ints Try.underlying22 Try.underlying5 (by kernel_rfl) hf with ⟨hcs, _⟩ | ⟨x, l, c, zs, hcs, _, hl, hm, hz, _, hcell, hwz⟩
    · simp [Value.cells] at hcs
      obtain ⟨rfl, rfl, rfl⟩ := hcs
      exact ⟨[], .inl ⟨rfl, rfl, rfl, rfl⟩⟩
    · simp [Value.cells] at hcs
      obtain ⟨rfl, rfl, rfl⟩ := hcs
      exact ⟨zs, .inr ⟨_, rfl, hl, hm, by simpa using hz, hcell, hwz⟩⟩
  clear hA0 hval0
  refine (fnQuorums_walk a0 len0 cap0 z0 W w0).mono fun e W' ⟨he, bel⟩ => ?_
  subst he
  exact ⟨_, rfl, _, _, _, [], _, [], hW', trodAll_mk1 (shut_bool Try.underlying4 _), (trodAll_cons_mk (Below.trod fnQuorums_laidOut (by kernel_rfl) (of_decide_eq_true (by kernel_rfl)) k0 bel lt0) trodAll_mk0), rfl, bel.frame _, fun h => by cases h⟩

theorem fnQuorums_holds : Rows.FnQuorumsSaid :=
  OpenClaim.holds_of_wide 4 Try.f4 rfl rfl rfl rfl rfl rfl rfl ⟨rfl, rfl, rfl, rfl, rfl⟩ rfl rfl rfl rfl rfl (by kernel_rfl) Try.func4 (by kernel_rfl)
    (of_decide_eq_true (by kernel_rfl)) (by unfold Func.isWrapper; first | (rw [if_pos (by decide +kernel)]; kernel_rfl) | (rw [if_neg (by decide +kernel)]; exact ⟨rfl, rfl⟩))
    (fun os started H enc _ => fnQuorums_lifted os started H enc)

end Go.Proofs.Ytoejikphbienfaa
