/- A certificate of drawn votes is of those who voted so, and is right: the law FnGathered returns true at every code, with no condition. -/
import Derived.Test.YtdelegamcebflaaRows
import Derived.Test.YtdelegamcebflaaRow
import Derived.Test.YtdelegamcebflaaBig
import Derived.Test.YtdelegamcebflaaCtFact
import Derived.Test.YtdelegamcebflaaCtGq
import Derived.Test.YtdelegamcebflaaCtGqI
import Derived.Test.YtdelegamcebflaaCtOkI
import Derived.Test.YtdelegamcebflaaDrawCq
import Derived.WalkKit
import Derived.ProofKit
import Derived.OpenShut
import Derived.ShutString
import Derived.ChangeOld
import Derived.Below
import Derived.SliceStrings
namespace Go.Proofs.Ytdelegamcebflaa
open Go.ChangeShapes Go.WideShapes Go.ChangeAt Go.RowKit
open Go.ChangeMaps (open_string shut_string)
set_option linter.unusedVariables false

theorem fnGathered_own : ownKnob Try.prog.godebug = none := by kernel_rfl
theorem fnGathered_laidOut : laidOutB Try.prog = true := by kernel_rfl

theorem gaQ_yes {l : List Vl} {vs : List Tr} {r b : Int} (h : (gaQ l vs r b).2 = true) : gaQ l vs r b = ((r, b, whoQ l vs r b), true) ∧ qcB l r b (whoQ l vs r b) = true ∧ quoB l (whoQ l vs r b) = true := by
  unfold gaQ at h ⊢
  split at h
  · rename_i h'
    rw [if_pos h']
    refine ⟨rfl, h'.1, ?_⟩
    have h1 := h'.1
    unfold qcB at h1
    rw [h'.2, Bool.false_or] at h1
    simp only [Bool.and_eq_true] at h1
    exact h1.2.2.2
  · simp at h
theorem gaQ_no {l : List Vl} {vs : List Tr} {r b : Int} (h : (gaQ l vs r b).2 = false) : gaQ l vs r b = ((0, 0, []), false) := by
  unfold gaQ at h ⊢
  split at h
  · simp at h
  · rename_i h'
    rw [if_neg h']
theorem whoQ_voted {l : List Vl} {vs : List Tr} {r b : Int} : ∀ s ∈ whoQ l vs r b, votedB vs r b s = true := fun s hs => (List.mem_filter.1 hs).2
set_option maxRecDepth 20000 in
set_option maxHeartbeats 4000000 in
theorem fnGathered_walk (a0 : Option Addr) (len0 cap0 : Nat) (z0 : List Int) (w : World) (w0 : IsRow .u8 w a0 len0 cap0 z0) :
    Calls Try.prog 3 #[.slice a0 len0 cap0] w fun e w' => e = .returned (.bool true) ∧ Below w.heap.size w w' := by
  obtain ⟨cd, rfl, hr⟩ := w0.rd
  clear w0
  have hcap : cd.length ≤ 9223372036854775807 := by
    rcases hr with ⟨_, _, _, e, _⟩ | ⟨_, _, cap, _, _, h1, h2, _⟩
    · subst e; simp
    · unfold maxLen at h2; omega
  have Hbig := hide (big_any _ cd w hr hcap)
  by_cases hbig : 1048576 < cd.length
  · rw [decide_eq_true hbig] at Hbig
    clear hr
    go_enter Try.func3, Try.ntmps3
    go_wp2_with fail
    refine Hbig.out.mono ?_
    rintro e w' ⟨rfl, rfl⟩
    go_wp2
    go_ret
    exact ⟨rfl, Below.refl _ _⟩
  rw [decide_eq_false hbig] at Hbig
  have Hd := hide (drawGatherQc_any w _ cd hr (by omega))
  clear hr
  go_enter Try.func3, Try.ntmps3
  go_wp2_with fail
  refine Hbig.out.mono ?_
  rintro e w ⟨rfl, rfl⟩
  go_wp2_with fail
  refine Hd.out.mono ?_
  rintro en w2 ⟨v1, v2, l, vs, r, b, rfl, hrl, hrv, hsl, hsv, hrb, hbb, hB2⟩
  obtain ⟨al, cl, rfl⟩ := hrl.shape
  obtain ⟨av, cv, rfl⟩ := hrv.shape
  have hl6 : l.length ≤ 6 := hsl.1
  have hv20 : vs.length ≤ 20 := hsv.1
  have hmod := hsl.mod
  have hsz : ∀ p ∈ l, p.1.size ≤ maxLen := fun p hp => by have := (hsl.2 p hp).1; unfold maxLen; omega
  have HI := hide (fun w h1 h2 => implGatherQc_any (.slice al l.length cl) (.slice av vs.length cv) l vs r b w h1 h2 (by omega) (by omega) hsz hmod)
  have HS := hide (fun w h1 h2 => specGatherQc_any (.slice al l.length cl) (.slice av vs.length cv) l vs r b w h1 h2 (by omega) (by omega) hsz hmod)
  have Hrl := hide hrl
  have Hrv := hide hrv
  have HB2 := hide hB2
  have Hmod := hide hmod
  have Hsz := hide hsz
  clear hrl hrv hsl hsv hmod hsz hB2 hrb hbb
  simp only [qcV] at HI HS
  cases hga : (gaQ l vs r b).2
  · have eg := gaQ_no hga
    rw [eg] at HI HS
    clear hga eg
    dsimp only at HI HS
    go_wp2_with fail
    refine (HI.out _ Hrl.out Hrv.out).mono ?_
    rintro e w3 ⟨vw, rfl, ho3, hb3⟩
    obtain ⟨a3, c3, rfl⟩ := ho3.rd.shape
    have hb4 := hb3.alloc (by have := hb3.size; omega) (.cells #[.int .i64 0, .int .i64 0, .slice a3 0 c3] 30)
    have k4 := Blk.new w3 30 [.int .i64 0, .int .i64 0, .slice a3 0 c3]
    have HS4 := hide (HS.out _ (Hrl.out.below hb4 (Nat.le_refl _)) (Hrv.out.below hb4 (Nat.le_refl _)))
    have K4 := hide k4
    have HB4 := hide (HB2.out.trans (hb4.mono HB2.out.size))
    clear ho3 hb3 hb4 k4 HI HS
    simp only [List.length_nil]
    go_wp2_with fail
    refine HS4.out.mono ?_
    rintro e w5 ⟨vw5, rfl, ho5, hb5⟩
    obtain ⟨a5, c5, rfl⟩ := ho5.rd.shape
    have k5 := (K4.out.below hb5 K4.out.lt).below ((Below.refl _ w5).alloc (Nat.le_refl _) (.cells #[.int .i64 0, .int .i64 0, .slice a5 0 c5] 30)) (by have := hb5.size; have := K4.out.lt; omega)
    have x2 := k5.cell 2
    simp only [List.getElem?_cons_zero, List.getElem?_cons_succ] at x2
    have HB5 := hide ((HB4.out.trans (hb5.mono HB4.out.size)).alloc (by have := hb5.size; have := HB4.out.size; omega) (.cells #[.int .i64 0, .int .i64 0, .slice a5 0 c5] 30))
    clear ho5 hb5 k5 K4 HB4
    simp only [List.length_nil]
    go_wp2
    go_ret
    exact ⟨rfl, HB5.out⟩
  · obtain ⟨eg, hq1, hq2⟩ := gaQ_yes hga
    rw [eg] at HI HS
    clear hga eg
    dsimp only at HI HS
    have hvoted := whoQ_voted (l := l) (vs := vs) (r := r) (b := b)
    have hNl := whoQ_len l vs r b
    have hNs : ∀ s ∈ whoQ l vs r b, s.size ≤ maxLen := fun s hs => by
      obtain ⟨p, hp, rfl⟩ := List.mem_map.1 (List.mem_filter.1 hs).1
      exact Hsz.out p hp
    generalize whoQ l vs r b = N at HI HS hq1 hq2 hvoted hNl hNs
    have Hvt := hide hvoted
    go_wp2_with fail
    refine (HI.out _ Hrl.out Hrv.out).mono ?_
    rintro e w3 ⟨vw, rfl, ho3, hb3⟩
    obtain ⟨a3, c3, rfl⟩ := ho3.rd.shape
    have hb4 := hb3.alloc (by have := hb3.size; omega) (.cells #[.int .i64 r, .int .i64 b, .slice a3 N.length c3] 30)
    have k4 := Blk.new w3 30 [.int .i64 r, .int .i64 b, .slice a3 N.length c3]
    have HS4 := hide (HS.out _ (Hrl.out.below hb4 (Nat.le_refl _)) (Hrv.out.below hb4 (Nat.le_refl _)))
    have K4 := hide k4
    have HB4 := hide hb4
    have HR4 := hide (ho3.rd.below ((Below.refl _ w3).alloc (Nat.le_refl _) (.cells #[.int .i64 r, .int .i64 b, .slice a3 N.length c3] 30)) (Nat.le_refl _))
    clear ho3 hb3 hb4 k4 HI HS hvoted
    go_wp2_with fail
    refine HS4.out.mono ?_
    rintro e w5 ⟨vw5, rfl, ho5, hb5⟩
    obtain ⟨a5, c5, rfl⟩ := ho5.rd.shape
    go_wp2
    obtain ⟨w6, hw6⟩ : ∃ x, w5.alloc (.cells #[.int .i64 r, .int .i64 b, .slice a5 N.length c5] 30) = x := ⟨_, rfl⟩
    rw [hw6]
    have hb6 : Below (w3.alloc (.cells #[.int .i64 r, .int .i64 b, .slice a3 N.length c3] 30)).heap.size (w3.alloc (.cells #[.int .i64 r, .int .i64 b, .slice a3 N.length c3] 30)) w6 := by rw [← hw6]; exact hb5.alloc (by have := hb5.size; omega) _
    have k6 := K4.out.below hb6 K4.out.lt
    have HR6 := hide (HR4.out.below hb6 (Nat.le_refl _))
    have HBq := hide (HB4.out.trans (hb6.mono HB4.out.size))
    have HB6 := hide (HB2.out.trans (HBq.out.mono HB2.out.size))
    have HL6 := hide (Hrl.out.below HBq.out (Nat.le_refl _))
    have HV6 := hide (Hrv.out.below HBq.out (Nat.le_refl _))
    have K6 := hide k6
    clear ho5 hb5 hb6 k6 K4 HB4 HR4 HBq Hrl Hrv HB2 hw6 HS4
    generalize w3.heap.size = B3 at K6 ⊢
    go_loopw [11] (fun iv wr => ∃ i : Nat, i ≤ N.length ∧ iv = .int .i64 (i : Int) ∧ Below w6.heap.size w6 wr) (fun iv _ => N.length - (intOf iv).toNat)
    case atStart => exact ⟨0, Nat.zero_le _, rfl, Below.refl _ _⟩
    case round =>
      obtain ⟨i, hi, rfl, hb⟩ := hrel
      obtain ⟨w7, rfl⟩ : ∃ x, x = wr := ⟨_, rfl⟩
      have hbs := hb.size
      have k7 := K6.out.below hb K6.out.lt
      have x2 := k7.cell 2
      simp only [List.getElem?_cons_zero, List.getElem?_cons_succ] at x2
      by_cases hlt : i < N.length
      · have hli : (i : Int) < (N.length : Int) := by omega
        obtain ⟨bn, on, rfl, hc1, hc2, hbn, hcn⟩ := HR6.out.at hlt
        have hyes := Hvt.out N[i] (List.getElem_mem _)
        have c0 := (hb.cell (p := ⟨bn, on + i, none⟩) hbn).trans hcn
        generalize N[i] = nm at hyes c0 hcn
        have K7 := hide k7
        have Hb := hide hb
        have HV7 := hide (HV6.out.below hb (Nat.le_refl _))
        have Hyes := hide hyes
        clear k7 hb hyes hcn
        go_wp2
        go_loopw [12, 13] (fun hv kv wr => ∃ k : Nat, k ≤ vs.length ∧ kv = .int .i64 (k : Int) ∧ hv = .bool (votedB (vs.take k) r b nm) ∧ Below w7.heap.size w7 wr) (fun _ kv _ => vs.length - (intOf kv).toNat)
        case atStart => exact ⟨0, Nat.zero_le _, rfl, rfl, Below.refl _ _⟩
        case round =>
          obtain ⟨k, hk, rfl, rfl, hq⟩ := hrel
          by_cases hkl : k < vs.length
          · obtain ⟨bv, ov, rfl, hv1, hv2, hbv, hat⟩ := HV7.out.at hkl
            have hki : (k : Int) < (vs.length : Int) := by omega
            obtain ⟨t0, t1, t2⟩ := hat.below hq hbv
            have n0 := (hq.cell (p := ⟨bn, on + i, none⟩) (show bn < w7.heap.size by omega)).trans c0
            have y2 := (K7.out.below hq K7.out.lt).cell 2
            simp only [List.getElem?_cons_zero, List.getElem?_cons_succ] at y2
            have Hsn := hide (voted_snoc vs r b nm k hkl)
            generalize vs[k] = t at t0 t1 t2 Hsn hat
            obtain ⟨ta, tb, tn⟩ := t
            simp only at t0 t1 t2
            have g0 := cell_regrown t0
            have g1 := cell_regrown t1
            have g2 := cell_regrown t2
            have gn := cell_regrown n0
            have gy := cell_regrown y2
            clear t0 t1 t2 n0 y2 x2 c0 hat
            generalize votedB (vs.take k) r b nm = D at Hsn ⊢
            have Hq := hide hq
            clear hq
            cases D
            · rw [Bool.false_or] at Hsn
              by_cases h3 : tn = nm
              · rw [h3] at g2 Hsn
                clear h3
                by_cases h1 : ta = r
                · rw [h1] at g0 Hsn
                  clear h1
                  by_cases h2 : tb = b
                  · rw [h2] at g1 Hsn
                    clear h2
                    rw [decide_eq_true rfl] at Hsn
                    go_wp2
                    refine wp_region_quiet_below (by kernel_rfl) (by kernel_rfl) ?_
                    repeat (go_big_quiet_step (fail))
                    refine wpQuiet_nil ?_
                    intro _ hw'
                    obtain ⟨⟨dq, osq⟩, hw''⟩ := hw'
                    subst hw''
                    go_wp2
                    go_roundw
                    case rel => exact ⟨k + 1, by omega, by go_num, by rw [Hsn.out], Hq.out.trans ((below_regrown wr dq osq).mono Hq.out.size)⟩
                    case measure => simp [intOf]; omega
                  · rw [decide_eq_false (by intro e; simp only [Prod.mk.injEq] at e; exact h2 e.2.1)] at Hsn
                    have hD : (tb == b) = false := by rw [beq_eq_false_iff_ne]; exact h2
                    clear h2
                    go_wp2
                    refine wp_region_quiet_below (by kernel_rfl) (by kernel_rfl) ?_
                    repeat (go_big_quiet_step (fail))
                    refine wpQuiet_nil ?_
                    intro _ hw'
                    obtain ⟨⟨dq, osq⟩, hw''⟩ := hw'
                    subst hw''
                    go_wp2
                    go_roundw
                    case rel => exact ⟨k + 1, by omega, by go_num, by rw [Hsn.out], Hq.out.trans ((below_regrown wr dq osq).mono Hq.out.size)⟩
                    case measure => simp [intOf]; omega
                · rw [decide_eq_false (by intro e; simp only [Prod.mk.injEq] at e; exact h1 e.1)] at Hsn
                  have hD : (ta == r) = false := by rw [beq_eq_false_iff_ne]; exact h1
                  clear h1
                  go_wp2
                  refine wp_region_quiet_below (by kernel_rfl) (by kernel_rfl) ?_
                  repeat (go_big_quiet_step (fail))
                  refine wpQuiet_nil ?_
                  intro _ hw'
                  obtain ⟨⟨dq, osq⟩, hw''⟩ := hw'
                  subst hw''
                  go_wp2
                  go_roundw
                  case rel => exact ⟨k + 1, by omega, by go_num, by rw [Hsn.out], Hq.out.trans ((below_regrown wr dq osq).mono Hq.out.size)⟩
                  case measure => simp [intOf]; omega
              · rw [decide_eq_false (by intro e; simp only [Prod.mk.injEq] at e; exact h3 e.2.2)] at Hsn
                have hD := bytes_ne h3
                clear h3
                go_wp2
                refine wp_region_quiet_below (by kernel_rfl) (by kernel_rfl) ?_
                repeat (go_big_quiet_step (fail))
                refine wpQuiet_nil ?_
                intro _ hw'
                obtain ⟨⟨dq, osq⟩, hw''⟩ := hw'
                subst hw''
                go_wp2
                go_roundw
                case rel => exact ⟨k + 1, by omega, by go_num, by rw [Hsn.out], Hq.out.trans ((below_regrown wr dq osq).mono Hq.out.size)⟩
                case measure => simp [intOf]; omega
            · rw [Bool.true_or] at Hsn
              go_wp2
              refine wp_region_quiet_below (by kernel_rfl) (by kernel_rfl) ?_
              repeat (go_big_quiet_step (fail))
              refine wpQuiet_nil ?_
              intro _ hw'
              obtain ⟨⟨dq, osq⟩, hw''⟩ := hw'
              subst hw''
              go_wp2
              go_roundw
              case rel => exact ⟨k + 1, by omega, by go_num, by rw [Hsn.out], Hq.out.trans ((below_regrown wr dq osq).mono Hq.out.size)⟩
              case measure => simp [intOf]; omega
          · have ek : k = vs.length := by omega
            subst ek
            rw [List.take_length, Hyes.out]
            have HBe := hide (Hb.out.trans (hq.mono Hb.out.size))
            clear hq
            go_wp2
            go_roundw
            case rel => exact ⟨i + 1, by omega, by go_num, HBe.out⟩
            case measure => simp [intOf]; omega
      · have x0 := k7.cell 0
        have x1 := k7.cell 1
        simp only [List.getElem?_cons_zero, List.getElem?_cons_succ] at x0 x1
        have HQ := hide (implQcOk_any (.slice al l.length cl) (.slice a3 N.length c3) l r b N w7 (HL6.out.below hb (Nat.le_refl _)) (HR6.out.below hb (Nat.le_refl _)) (by omega) (by omega) hNs Hmod.out)
        rw [hq1] at HQ
        have HU := hide (fun V (hV : Below w7.heap.size w7 V) => implIsQuorum_small (.slice al l.length cl) (.slice a3 N.length c3) l N V ((HL6.out.below hb (Nat.le_refl _)).below hV (Nat.le_refl _)) ((HR6.out.below hb (Nat.le_refl _)).below hV (Nat.le_refl _)) (by omega) (by omega) Hmod.out.1)
        have hu : decide (2 * totalV l < 3 * weightV l N) = true := hq2
        rw [hu] at HU
        simp only [qcV] at HQ
        have K7 := hide k7
        have HB7 := hide (HB6.out.trans (hb.mono HB6.out.size))
        clear k7 hb hq1 hq2 hu hNs
        go_wp2_with fail
        refine HQ.out.mono ?_
        rintro e w8 ⟨rfl, hb8⟩
        have HU8 := hide (HU.out _ hb8)
        have k8 := K7.out.below hb8 K7.out.lt
        have y2 := k8.cell 2
        simp only [List.getElem?_cons_zero, List.getElem?_cons_succ] at y2
        have HB8 := hide (HB7.out.trans (hb8.mono HB7.out.size))
        clear x0 x1 x2 hb8
        go_wp2_with fail
        refine HU8.out.mono ?_
        rintro e w9 ⟨rfl, hb9⟩
        have k9 := k8.below hb9 k8.lt
        have z0 := k9.cell 0
        have z1 := k9.cell 1
        simp only [List.getElem?_cons_zero, List.getElem?_cons_succ] at z0 z1
        have HB9 := hide (HB8.out.trans (hb9.mono HB8.out.size))
        clear k8 k9 hb9 y2
        go_wp2
        go_ret
        exact ⟨rfl, HB9.out⟩

set_option maxRecDepth 100000 in
theorem fnGathered_lifted (os : Os) (started : os.Started) (H : Type) (enc : TypeId × Value → H) :
    ReturnsInHanded {} Try.checked os 3 .any (Rows.fnGatheredSpec.pre6 enc Try.prog Try.f3 Rows.fnGatheredRow.domain false) (Rows.fnGatheredSpec.post enc Try.prog Try.f3 false true false false) := by
  refine returnsInHanded_of_change (C := Try.checked) fnGathered_own started (by kernel_rfl) Try.func3
    (ChangeSpec.witness6 (enc := enc) (C := Try.checked) false ⟨#[], #[.slice none 0 0], []⟩ 8 (by kernel_rfl) (by kernel_rfl) (by kernel_rfl) (by kernel_rfl)) ?_
  intro W base args ds gs before hval0 hW hcnd _
  have hval : ∀ (j : Nat) t v, Try.f3.params[j]? = some t → args[j]? = some v → Value.okWide Try.prog W .any base t v := hval0
  have hW' := hW
  obtain ⟨p, q, hA0, hV, rfl, hfz, hnd⟩ := hW
  have hA : DataW.TrodAll enc Try.prog W 0 (fun _ => true) true Try.f3.params.toList args.toList ds p := hA0
  rw [Try.params3] at hA hval
  obtain ⟨v0, vs0, d0, ds0, p0, q0, hargs, rfl, rfl, h0, r0⟩ := trodAll_cons hA
  obtain ⟨rfl, rfl, rfl⟩ := trodAll_nil r0
  obtain rfl : args = #[v0] := by cases args; simp_all
  obtain ⟨rfl, rfl⟩ := trodVars_none hV
  obtain ⟨a0, len0, cap0, rfl⟩ := okWide_slice Try.underlying22 (hval 0 22 v0 rfl rfl)
  have k0 := h0
  have lt0 : ∀ x ∈ p0, x.block < W.heap.size := by obtain ⟨m, hm⟩ := k0; exact DataW.trod_lt m _ _ _ hm
  obtain ⟨z0, w0⟩ : ∃ zs, IsRow .u8 W a0 len0 cap0 zs := by
    obtain ⟨fuel, hf⟩ := h0
    rcases open_ints Try.underlying22 Try.underlying5 (by kernel_rfl) hf with ⟨hcs, _⟩ | ⟨x, l, c, zs, hcs, _, hl, hm, hz, _, hcell, hwz⟩
    · simp [Value.cells] at hcs
      obtain ⟨rfl, rfl, rfl⟩ := hcs
      exact ⟨[], .inl ⟨rfl, rfl, rfl, rfl⟩⟩
    · simp [Value.cells] at hcs
      obtain ⟨rfl, rfl, rfl⟩ := hcs
      exact ⟨zs, .inr ⟨_, rfl, hl, hm, by simpa using hz, hcell, hwz⟩⟩
  clear hA0 hval0
  refine (fnGathered_walk a0 len0 cap0 z0 W w0).mono fun e W' ⟨he, bel⟩ => ?_
  subst he
  exact ⟨_, rfl, _, _, _, [], _, [], hW', trodAll_mk1 (shut_bool Try.underlying4 _), (trodAll_cons_mk (Below.trod fnGathered_laidOut (by kernel_rfl) (of_decide_eq_true (by kernel_rfl)) k0 bel lt0) trodAll_mk0), rfl, bel.frame _, fun h => by cases h⟩

theorem fnGathered_holds : Rows.FnGatheredSaid :=
  OpenClaim.holds_of_wide 3 Try.f3 rfl rfl rfl rfl rfl rfl rfl ⟨rfl, rfl, rfl, rfl, rfl⟩ rfl rfl rfl rfl rfl (by kernel_rfl) Try.func3 (by kernel_rfl)
    (of_decide_eq_true (by kernel_rfl)) (by unfold Func.isWrapper; first | (rw [if_pos (by decide +kernel)]; kernel_rfl) | (rw [if_neg (by decide +kernel)]; exact ⟨rfl, rfl⟩))
    (fun os started H enc _ => fnGathered_lifted os started H enc)

end Go.Proofs.Ytdelegamcebflaa
