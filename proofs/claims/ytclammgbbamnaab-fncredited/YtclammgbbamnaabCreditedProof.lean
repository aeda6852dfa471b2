/- What is given to a name of drawn accounts is there, and is all that is more; others are as they were: the law FnCredited returns true at every code, with no condition. -/
import Derived.Test.YtclammgbbamnaabRows
import Derived.Test.YtclammgbbamnaabRow
import Derived.Test.YtclammgbbamnaabBig
import Derived.Test.YtclammgbbamnaabDrawAny
import Derived.Test.YtclammgbbamnaabAcCut
import Derived.WalkKit
import Derived.ProofKit
import Derived.OpenShut
import Derived.ShutString
import Derived.ChangeOld
import Derived.Below
import Derived.SliceStrings
namespace Go.Proofs.Ytclammgbbamnaab
open Go.ChangeShapes Go.WideShapes Go.ChangeAt Go.RowKit
open Go.ChangeMaps (open_string shut_string)
set_option linter.unusedVariables false

theorem fnCredited_own : ownKnob Try.prog.godebug = none := by kernel_rfl
theorem fnCredited_laidOut : laidOutB Try.prog = true := by kernel_rfl

set_option maxRecDepth 20000 in
set_option maxHeartbeats 12000000 in
theorem fnCredited_walk (a0 : Option Addr) (len0 cap0 : Nat) (z0 : List Int) (w : World) (w0 : IsRow .u8 w a0 len0 cap0 z0) :
    Calls Try.prog 4 #[.slice a0 len0 cap0] w fun e w' => e = .returned (.bool true) ∧ Below w.heap.size w w' := by
  obtain ⟨cd, rfl, hr⟩ := w0.rd
  clear w0
  have hcap : cd.length ≤ 9223372036854775807 := by
    rcases hr with ⟨_, _, _, e, _⟩ | ⟨_, _, cap, _, _, h1, h2, _⟩
    · subst e; simp
    · unfold maxLen at h2; omega
  have Hbig := hide (big_any _ cd w hr hcap)
  by_cases hbig : 1048576 < cd.length
  · rw [decide_eq_true hbig] at Hbig
    clear hr
    go_enter Try.func4, Try.ntmps4
    go_wp2_with fail
    refine Hbig.out.mono ?_
    rintro e w' ⟨rfl, rfl⟩
    go_wp2
    go_ret
    exact ⟨rfl, Below.refl _ _⟩
  rw [decide_eq_false hbig] at Hbig
  have Hd := hide (drawCredit_any w _ cd hr (by omega))
  clear hr
  go_enter Try.func4, Try.ntmps4
  go_wp2_with fail
  refine Hbig.out.mono ?_
  rintro e w ⟨rfl, rfl⟩
  go_wp2_with fail
  refine Hd.out.mono ?_
  rintro e w2 ⟨v, l, s, n, rfl, hrl, hl6, hsm, hs9, hB2⟩
  have hall : ∀ a ∈ l, a.1.size ≤ maxLen ∧ a.2.2.2.2.length ≤ 4000000 := fun a ha => by have := hsm a ha; unfold maxLen; omega
  have hlv : ∀ a ∈ l, a.2.2.2.2.length ≤ 4000000 := fun a ha => (hall a ha).2
  have hsM : s.size ≤ maxLen := by unfold maxLen; omega
  obtain ⟨av, cv2, rfl⟩ := hrl.shape
  have HI := hide (implCredit_any _ l s n w2 hrl (by omega) hall hsM)
  have HS := hide (fun w h => specCredit_any (.slice av l.length cv2) l s n w h (by omega) hall hsM)
  have HWl := hide (fun w h => implWealth_any (.slice av l.length cv2) l w h (by omega) hlv)
  have HAl := hide (fun w h => implAcctAt_any (.slice av l.length cv2) l s w h (by omega))
  have Hrl := hide hrl
  have hF := crA_false (l := l) (s := s) (n := n)
  have hT := crA_true (l := l) (s := s) (n := n)
  clear hrl Hbig Hd hbig hcap
  generalize (crA l s n).2 = B at *
  generalize hLd : (crA l s n).1 = L at *
  clear hLd
  go_wp2_with fail
  refine HI.out.mono ?_
  rintro e w3 ⟨v3, rfl, ho3, hb3⟩
  have hB3 : Below w.heap.size w w3 := hB2.trans (hb3.mono hB2.size)
  have hr3 := Hrl.out.below hb3 (Nat.le_refl _)
  go_wp2_with fail
  refine (HS.out _ hr3).mono ?_
  rintro e w4 ⟨v4, rfl, -, hb4⟩
  have hB4 : Below w.heap.size w w4 := hB3.trans (hb4.mono hB3.size)
  have Hrl4 := hide (hr3.below hb4 (Nat.le_refl _))
  have Hrx4 := hide (ho3.rd.below hb4 (Nat.le_refl _))
  obtain ⟨ax, cx, hx⟩ := ho3.rd.shape
  subst hx
  clear hr3 ho3 hb3 hb4 hB3 hB2 HI HS Hrl
  cases B
  · have e := hF rfl
    subst e
    clear hF hT
    go_wp2_with fail
    refine (implWealth_any _ L _ Hrx4.out (by omega) hlv).mono ?_
    rintro e w5 ⟨rfl, hb5⟩
    have hB5 : Below w.heap.size w w5 := hB4.trans (hb5.mono hB4.size)
    go_wp2_with fail
    refine (HWl.out _ (Hrl4.out.below hb5 (Nat.le_refl _))).mono ?_
    rintro e w6 ⟨rfl, hb6⟩
    have hB6 : Below w.heap.size w w6 := hB5.trans (hb6.mono hB5.size)
    go_wp2
    go_ret
    exact ⟨rfl, hB6⟩
  · obtain ⟨hL, hok, hokL⟩ := hT rfl
    have hasc := asc_of_ok l hok
    have hallL : ∀ a ∈ L, a.1.size ≤ maxLen ∧ a.2.2.2.2.length ≤ 4000000 := fun a ha => by
      have h4 := acs_mem' hokL a (by rw [← hL]; exact ha)
      rw [hL] at ha
      rcases insA_mem _ _ _ ha with rfl | ha
      · exact ⟨by rw [aftA_name]; exact hsM, by omega⟩
      · exact ⟨(hall a ha).1, by omega⟩
    have hlenL : L.length ≤ 12 := by rw [hL]; exact acs_len hokL
    have hgs : getA s L = some (aftA l s n) := by rw [hL]; have := getA_ins (aftA l s n) l; rwa [aftA_name] at this
    obtain ⟨k, hk, hatk, hLk, -, -⟩ := at_get hgs
    have hWx : wealthA L = wrap64 (wealthA l + n) := by rw [hL]; exact wealth_given l s n hasc
    have hokL' : acsB L = true := by rw [hL]; exact hokL
    have hokk := acs_at hokL' k hk
    have Heach : Hid (∀ i (hi : i < l.length), ∃ (m : Nat) (hm : m < L.length), atA L l[i].1 = (m : Int) ∧ (l[i].1 ≠ s → L[m].2.1 = l[i].2.1)) := hide (fun i hi => by
      by_cases he : l[i].1 = s
      · exact ⟨k, hk, by rw [he]; exact hatk, fun h => absurd he h⟩
      · have hg : getA l[i].1 L = some l[i] := by
          rw [hL, getA_ins_other (aftA l s n) l[i].1 (by rw [aftA_name]; exact he)]
          exact getA_at hasc i hi
        obtain ⟨m, hm, h1, h2, -, -⟩ := at_get hg
        exact ⟨m, hm, h1, fun _ => by rw [h2]⟩)
    have HWx := hide (fun w h => implWealth_any (.slice ax L.length cx) L w h (by omega) (fun a ha => (hallL a ha).2))
    have HOx := hide (fun w h => implAcctsOk_any (.slice ax L.length cx) L w h (by omega) hallL)
    have HAx := hide (fun t w h => implAcctAt_any (.slice ax L.length cx) L t w h (by omega))
    have hsz := hallL L[k] (List.getElem_mem hk)
    have hfr : L[k].2.1 = wrap64 (oldA l s + n) := by rw [hLk]; exact aft_free l s n
    rw [hokL'] at HOx
    rw [hWx] at HWx
    have HAk := hide (HAx.out s w4 Hrx4.out)
    rw [hatk] at HAk
    -- the answer's cells at k
    have hrx := Hrx4.out
    rcases hrx with ⟨_, _, _, e, _⟩ | ⟨bx, ox, cx', h0, hv, h1, h2, h3, h4⟩
    · subst e; simp at hk
    injection hv with hax _ hcx
    subst hax hcx
    have Hx4 := hide h4
    obtain ⟨lvk, hatx, hrlk⟩ := h4 k hk
    have Hatx := hide hatx
    have Hlvk := hide hrlk
    have hki : (k : Int) < (L.length : Int) := by omega
    have hk0 : (0 : Int) ≤ (k : Int) := by omega
    obtain ⟨ak, hak⟩ : ∃ ak, L[k] = ak := ⟨_, rfl⟩
    rw [hak] at Hatx Hlvk hokk hfr hsz
    have hshk := Hlvk.out.shape
    clear hF hT hL hok hokL hokL' hgs hLk hatk hWx hallL h4 hatx hrlk hak hsM hasc hall hlv
    obtain ⟨nmk, frk, nok, stk, lsk⟩ := ak
    obtain ⟨avk, cvk, rfl⟩ := hshk
    simp only at hfr
    subst hfr
    go_wp2_with fail
    refine HAk.out.mono ?_
    rintro e w5 ⟨rfl, hb5⟩
    have hB5 : Below w.heap.size w w5 := hB4.trans (hb5.mono hB4.size)
    have hsl5 := hb5.size
    obtain ⟨X, hX⟩ : ∃ X, atA l s = X := ⟨_, rfl⟩
    obtain ⟨O, hO⟩ : ∃ O, oldA l s = O := ⟨_, rfl⟩
    have Hold : Hid ((X = -1 ∧ O = 0) ∨ ∃ (j : Nat) (hj : j < l.length), X = (j : Int) ∧ l[j].2.1 = O) := hide (by
      cases hg : getA s l with
      | none => exact .inl ⟨by rw [← hX]; exact at_not hg, by rw [← hO]; exact old_none hg⟩
      | some a =>
        obtain ⟨j, hj, haj, hja, -, -⟩ := at_get hg
        exact .inr ⟨j, hj, by rw [← hX]; exact haj, by rw [hja, ← hO]; exact (old_some hg).symm⟩)
    rw [hO] at Hatx hokk
    rw [hX] at HAl
    clear hX hO
    go_wp2_with fail
    refine (HAl.out w5 (Hrl4.out.below hb5 (Nat.le_refl _))).mono ?_
    rintro e w6 ⟨rfl, hb6⟩
    have hb46x : Below w4.heap.size w4 w6 := hb5.trans (hb6.mono hb5.size)
    have HAl6 := hide (HAl.out w6 (Hrl4.out.below hb46x (Nat.le_refl _)))
    clear hb5 hB5 hb6 HAl
    go_upto_if 59 with (fail)
    go_cut [11] from 14 (fun ov wc => ov = .int .i64 O ∧ Below w6.heap.size w6 wc)
    case first =>
      rcases Hold.out with ⟨e1, e2⟩ | ⟨j, hj, e1, e2⟩
      · subst e1 e2
        clear HAl6 Hold
        go_wp2
        go_meet
        case rel => exact ⟨rfl, Below.refl _ _⟩
      · subst e1 e2
        have hj0 : (0 : Int) ≤ (j : Int) := by omega
        have hji : (j : Int) < (l.length : Int) := by omega
        have hrr := Hrl4.out
        rcases hrr with ⟨_, _, _, e, _⟩ | ⟨b, off, cap', g0, hv, g1, g2, g3, g4⟩
        · subst e; simp at hj
        injection hv with ha' _ hcap
        subst ha' hcap
        obtain ⟨lvj, hatj, -⟩ := g4 j hj
        have Hatj := hide hatj
        clear g4 hatj Hold
        generalize l[j] = aj at *
        go_wp2_with fail
        refine HAl6.out.mono ?_
        rintro e w6b ⟨rfl, hb6b⟩
        have cj := ((Hatj.out.below hb46x g3).below hb6b (Nat.lt_of_lt_of_le g3 hb46x.size)).c1
        go_wp2
        go_meet
        case rel => exact ⟨rfl, hb6b⟩
    case rest =>
      obtain ⟨rfl, hbc⟩ := hcut
      have hb46 : Below w4.heap.size w4 wc := hb46x.trans (hbc.mono hb46x.size)
      clear hb46x hbc HAl6 Hold
      have hB6 : Below w.heap.size w wc := hB4.trans (hb46.mono hB4.size)
      have hs6 := hb46.size
      have Hrl6 := hide (Hrl4.out.below hb46 (Nat.le_refl _))
      have Hrx6 := hide (Hrx4.out.below hb46 (Nat.le_refl _))
      go_wp2
      go_loopw [12] (fun iv wr => ∃ i : Nat, i ≤ l.length ∧ iv = .int .i64 (i : Int) ∧ Below wc.heap.size wc wr) (fun iv _ => l.length - (intOf iv).toNat)
      case atStart => exact ⟨0, Nat.zero_le _, rfl, Below.refl _ _⟩
      case round =>
        obtain ⟨i, hi, rfl, hb⟩ := hrel
        have hb4r : Below w4.heap.size w4 wr := hb46.trans (hb.mono hs6)
        by_cases hlt : i < l.length
        · obtain ⟨m, hm, hatm, hfree⟩ := Heach.out i hlt
          have hrr := Hrl6.out
          rcases hrr with ⟨_, _, _, e, _⟩ | ⟨b, off, cap', g0, hv, g1, g2, g3, g4⟩
          · subst e; simp at hlt
          injection hv with ha _ hcap
          subst ha hcap
          obtain ⟨lvi, hati, -⟩ := g4 i hlt
          obtain ⟨c0, c1, -, -, -⟩ := hati.below hb g3
          obtain ⟨lvm, hatmx, -⟩ := Hx4.out m hm
          have d1 := (hatmx.below hb4r h3).c1
          have hli : (i : Int) < (l.length : Int) := by omega
          have hmi : (m : Int) < (L.length : Int) := by omega
          have hm0 : (0 : Int) ≤ (m : Int) := by omega
          have hmn : decide ((m : Int) < 0) = false := by simp
          have hbw : b < wr.heap.size := Nat.lt_of_lt_of_le g3 hb.size
          have hbxw : bx < wr.heap.size := Nat.lt_of_lt_of_le h3 hb4r.size
          have HAm := hide (HAx.out l[i].1 wr (Hrx6.out.below hb (Nat.le_refl _)))
          rw [hatm] at HAm
          have hsr := hb.size
          clear g4 hati hatmx hatm
          generalize l[i] = ai at c0 c1 HAm hfree
          generalize L[m].2.1 = fm at d1 hfree
          obtain ⟨nmi, fri, noi, sti, lsi⟩ := ai
          simp only at c0 c1 HAm hfree
          go_wp2_with fail
          refine HAm.out.mono ?_
          rintro e w7 ⟨rfl, hb7⟩
          have e0 := (hb7.cell (p := ⟨b, off + i * 5, none⟩) hbw).trans c0
          have e1 := (hb7.cell (p := ⟨b, off + i * 5 + 1, none⟩) hbw).trans c1
          have e2 := (hb7.cell (p := ⟨bx, ox + m * 5 + 1, none⟩) hbxw).trans d1
          have q0 := cell_regrown e0
          have q1 := cell_regrown e1
          have q2 := cell_regrown e2
          clear c0 c1 d1 e0 e1 e2 HAm
          by_cases he : nmi = s
          · subst he
            clear hfree
            have hbe : (nmi.toList == nmi.toList) = true := by simp
            go_wp2
            refine wp_region_quiet_below (by kernel_rfl) (by kernel_rfl) ?_
            repeat (go_big_quiet_step (fail))
            refine wpQuiet_nil ?_
            intro _ hw'
            obtain ⟨⟨dq, osq⟩, hw''⟩ := hw'
            subst hw''
            go_wp2
            go_roundw
            case rel => exact ⟨i + 1, by omega, by go_num, hb.trans ((hb7.trans ((below_regrown w7 dq osq).mono hb7.size)).mono hsr)⟩
            case measure => simp [intOf]; omega
          · have hf := hfree he
            subst hf
            have hbe := bytes_ne he
            clear he hfree
            go_wp2
            refine wp_region_quiet_below (by kernel_rfl) (by kernel_rfl) ?_
            repeat (go_big_quiet_step (fail))
            refine wpQuiet_nil ?_
            intro _ hw'
            obtain ⟨⟨dq, osq⟩, hw''⟩ := hw'
            subst hw''
            go_wp2
            go_roundw
            case rel => exact ⟨i + 1, by omega, by go_num, hb.trans ((hb7.trans ((below_regrown w7 dq osq).mono hb7.size)).mono hsr)⟩
            case measure => simp [intOf]; omega
        · obtain ⟨k0, k1, k2, k3, k4⟩ := Hatx.out.below hb4r h3
          simp only at k0 k1 k2 k3
          have hsr := hb.size
          have hbxw : bx < wr.heap.size := Nat.lt_of_lt_of_le h3 hb4r.size
          clear Heach
          generalize wealthA l = W at HWl HWx
          go_wp2_with fail
          refine (HWx.out _ (Hrx6.out.below hb (Nat.le_refl _))).mono ?_
          rintro e w8 ⟨rfl, hb8⟩
          have hb68 : Below wc.heap.size wc w8 := hb.trans (hb8.mono hsr)
          go_wp2_with fail
          refine (HWl.out _ (Hrl6.out.below hb68 (Nat.le_refl _))).mono ?_
          rintro e w9 ⟨rfl, hb9⟩
          have hb69 : Below wc.heap.size wc w9 := hb68.trans (hb9.mono hb68.size)
          go_wp2_with fail
          refine (HOx.out _ (Hrx6.out.below hb69 (Nat.le_refl _))).mono ?_
          rintro e w10 ⟨rfl, hb10⟩
          have hb610 : Below wc.heap.size wc w10 := hb69.trans (hb10.mono hb69.size)
          have hb410 : Below w4.heap.size w4 w10 := hb46.trans (hb610.mono hs6)
          obtain ⟨k0, k1, k2, k3, k4⟩ := Hatx.out.below hb410 h3
          simp only at k0 k1 k2 k3
          have HK := hide (implAcctOk_any (nmk, wrap64 (O + n), nok, stk, lsk) (.slice avk lsk.length cvk) w10 (Hlvk.out.below hb410 (Nat.le_refl _)) hsz.1 hsz.2)
          rw [hokk] at HK
          simp only [acV] at HK
          go_wp2_with fail
          refine HK.out.mono ?_
          rintro e w11 ⟨rfl, hb11⟩
          have hB11 : Below w.heap.size w w11 := (hB6.trans (hb610.mono hB6.size)).trans (hb11.mono (Nat.le_trans hB6.size hb610.size))
          go_wp2
          go_ret
          exact ⟨rfl, hB11⟩

set_option maxRecDepth 100000 in
theorem fnCredited_lifted (os : Os) (started : os.Started) (H : Type) (enc : TypeId × Value → H) :
    ReturnsInHanded {} Try.checked os 4 .any (Rows.fnCreditedSpec.pre6 enc Try.prog Try.f4 Rows.fnCreditedRow.domain false) (Rows.fnCreditedSpec.post enc Try.prog Try.f4 false true false false) := by
  refine returnsInHanded_of_change (C := Try.checked) fnCredited_own started (by kernel_rfl) Try.func4
    (ChangeSpec.witness6 (enc := enc) (C := Try.checked) false ⟨#[], #[.slice none 0 0], []⟩ 8 (by kernel_rfl) (by kernel_rfl) (by kernel_rfl) (by kernel_rfl)) ?_
  intro W base args ds gs before hval0 hW hcnd _
  have hval : ∀ (j : Nat) t v, Try.f4.params[j]? = some t → args[j]? = some v → Value.okWide Try.prog W .any base t v := hval0
  have hW' := hW
  obtain ⟨p, q, hA0, hV, rfl, hfz, hnd⟩ := hW
  have hA : DataW.TrodAll enc Try.prog W 0 (fun _ => true) true Try.f4.params.toList args.toList ds p := hA0
  rw [Try.params4] at hA hval
  obtain ⟨v0, vs0, d0, ds0, p0, q0, hargs, rfl, rfl, h0, r0⟩ := trodAll_cons hA
  obtain ⟨rfl, rfl, rfl⟩ := trodAll_nil r0
  obtain rfl : args = #[v0] := by cases args; simp_all
  obtain ⟨rfl, rfl⟩ := trodVars_none hV
  obtain ⟨a0, len0, cap0, rfl⟩ := okWide_slice Try.underlying22 (hval 0 22 v0 rfl rfl)
  have k0 := h0
  have lt0 : ∀ x ∈ p0, x.block < W.heap.size := by obtain ⟨m, hm⟩ := k0; exact DataW.trod_lt m _ _ _ hm
  obtain ⟨z0, w0⟩ : ∃ zs, IsRow .u8 W a0 len0 cap0 zs := by
    obtain ⟨fuel, hf⟩ := h0
    rcases open_ints Try.underlying22 Try.underlying5 (by kernel_rfl) hf with ⟨hcs, _⟩ | ⟨x, l, c, zs, hcs, _, hl, hm, hz, _, hcell, hwz⟩
    · simp [Value.cells] at hcs
      obtain ⟨rfl, rfl, rfl⟩ := hcs
      exact ⟨[], .inl ⟨rfl, rfl, rfl, rfl⟩⟩
    · simp [Value.cells] at hcs
      obtain ⟨rfl, rfl, rfl⟩ := hcs
      exact ⟨zs, .inr ⟨_, rfl, hl, hm, by simpa using hz, hcell, hwz⟩⟩
  clear hA0 hval0
  refine (fnCredited_walk a0 len0 cap0 z0 W w0).mono fun e W' ⟨he, bel⟩ => ?_
  subst he
  exact ⟨_, rfl, _, _, _, [], _, [], hW', trodAll_mk1 (shut_bool Try.underlying4 _), (trodAll_cons_mk (Below.trod fnCredited_laidOut (by kernel_rfl) (of_decide_eq_true (by kernel_rfl)) k0 bel lt0) trodAll_mk0), rfl, bel.frame _, fun h => by cases h⟩

theorem fnCredited_holds : Rows.FnCreditedSaid :=
  OpenClaim.holds_of_wide 4 Try.f4 rfl rfl rfl rfl rfl rfl rfl ⟨rfl, rfl, rfl, rfl, rfl⟩ rfl rfl rfl rfl rfl (by kernel_rfl) Try.func4 (by kernel_rfl)
    (of_decide_eq_true (by kernel_rfl)) (by unfold Func.isWrapper; first | (rw [if_pos (by decide +kernel)]; kernel_rfl) | (rw [if_neg (by decide +kernel)]; exact ⟨rfl, rfl⟩))
    (fun os started H enc _ => fnCredited_lifted os started H enc)

end Go.Proofs.Ytclammgbbamnaab
