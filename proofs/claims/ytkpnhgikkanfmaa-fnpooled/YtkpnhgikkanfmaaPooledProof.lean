/- An order that is put into a drawn pool is there, in order; what is there already is not put: the law FnPooled returns true at every code, with no condition. -/
import Derived.Test.YtkpnhgikkanfmaaRows
import Derived.Test.YtkpnhgikkanfmaaRow
import Derived.Test.YtkpnhgikkanfmaaBig
import Derived.Test.YtkpnhgikkanfmaaPlAddI
import Derived.Test.YtkpnhgikkanfmaaPlFact
import Derived.Test.YtkpnhgikkanfmaaDrawPl2
import Derived.WalkKit
import Derived.ProofKit
import Derived.OpenShut
import Derived.ShutString
import Derived.ChangeOld
import Derived.Below
import Derived.SliceStrings
namespace Go.Proofs.Ytkpnhgikkanfmaa
open Go.ChangeShapes Go.WideShapes Go.ChangeAt Go.RowKit
open Go.ChangeMaps (open_string shut_string)
set_option linter.unusedVariables false

theorem fnPooled_own : ownKnob Try.prog.godebug = none := by kernel_rfl
theorem fnPooled_laidOut : laidOutB Try.prog = true := by kernel_rfl

set_option maxRecDepth 20000 in
set_option maxHeartbeats 4000000 in
theorem fnPooled_walk (a0 : Option Addr) (len0 cap0 : Nat) (z0 : List Int) (w : World) (w0 : IsRow .u8 w a0 len0 cap0 z0) :
    Calls Try.prog 6 #[.slice a0 len0 cap0] w fun e w' => e = .returned (.bool true) ∧ Below w.heap.size w w' := by
  obtain ⟨cd, rfl, hr⟩ := w0.rd
  clear w0
  have hcap : cd.length ≤ 9223372036854775807 := by
    rcases hr with ⟨_, _, _, e, _⟩ | ⟨_, _, cap, _, _, h1, h2, _⟩
    · subst e; simp
    · unfold maxLen at h2; omega
  have Hbig := hide (big_any _ cd w hr hcap)
  by_cases hbig : 1048576 < cd.length
  · rw [decide_eq_true hbig] at Hbig
    clear hr
    go_enter Try.func6, Try.ntmps6
    go_wp2_with fail
    refine Hbig.out.mono ?_
    rintro e w' ⟨rfl, rfl⟩
    go_wp2
    go_ret
    exact ⟨rfl, Below.refl _ _⟩
  rw [decide_eq_false hbig] at Hbig
  have Hd := hide (drawPoolAdd_any w _ cd hr (by omega))
  clear hr
  go_enter Try.func6, Try.ntmps6
  go_wp2_with fail
  refine Hbig.out.mono ?_
  rintro e w ⟨rfl, rfl⟩
  go_wp2_with fail
  refine Hd.out.mono ?_
  rintro en w2 ⟨v, l, t, rfl, hrl, hl20, hsm, hst, hB2⟩
  obtain ⟨av, cv, rfl⟩ := hrl.shape
  have HI := hide (fun V (h : RdT V (.slice av l.length cv) l) => implAddP_any _ l t V h (by omega) (fun x hx => (hsm x hx).fit) hst.fit)
  have HS := hide (fun V (h : RdT V (.slice av l.length cv) l) => specAddP_any _ l t V h (by omega) (fun x hx => (hsm x hx).fit) hst.fit)
  obtain ⟨X, b, hX⟩ : ∃ X b, poS l t = (X, b) := ⟨_, _, rfl⟩
  have HXm : Hid (∀ x ∈ X, SmT x) := hide (fun x hx => by
    rcases poS_mem (l := l) (t := t) (x := x) (by rw [hX]; exact hx) with rfl | h
    · exact hst
    · exact hsm x h)
  have hXl : X.length ≤ 21 := by have := poS_few l t; rw [hX] at this; simp only at this; omega
  have HI2 := hide (fun v V (h : RdT V v X) => implAddP_any v X t V h (by omega) (fun x hx => (HXm.out x hx).fit) hst.fit)
  have HO := hide (fun v V (h : RdT V v X) => implPoolOk_any v X V h (by omega) (fun x hx => (HXm.out x hx).fit))
  have Hsn := hide (fun k h => cntT_snoc t X k h)
  have Hcl := hide (fun k => cntT_le t X k)
  have Hyes : Hid (b = true → X.length = l.length + 1 ∧ poolB X = true ∧ cntT t X = 1 ∧ (poS X t).2 = false) := hide (fun hb => poS_yes (by rw [hX, hb]))
  have Hno : Hid (b = false → X = l) := hide (fun hb => poS_no (t := t) (by rw [hX, hb]))
  rw [hX] at HI HS
  have Hc0 : Hid (cntT t (X.take 0) = 0) := hide (by simp [cntT])
  have Hct : Hid (∀ i, X.length ≤ i → cntT t (X.take i) = cntT t X) := hide (fun i hi => by rw [List.take_of_length_le hi])
  obtain ⟨C, hC⟩ : ∃ C : Nat → Nat, C = fun i => cntT t (X.take i) := ⟨_, rfl⟩
  have HCs : Hid (∀ k (h : k < X.length), C (k + 1) = C k + (if X[k] = t then 1 else 0)) := hide (fun k h => by rw [hC]; exact Hsn.out k h)
  have HCl : Hid (∀ k, C k ≤ X.length) := hide (fun k => by rw [hC]; exact Hcl.out k)
  have HC0 : Hid (C 0 = 0) := hide (by rw [hC]; exact Hc0.out)
  have HCe : Hid (b = true → ∀ i, X.length ≤ i → C i = 1) := hide (fun hb i hi => by rw [hC]; exact (Hct.out i hi).trans (Hyes.out hb).2.2.1)
  have Hy2 : Hid (b = true → X.length = l.length + 1 ∧ poolB X = true ∧ (poS X t).2 = false) := hide (fun hb => ⟨(Hyes.out hb).1, (Hyes.out hb).2.1, (Hyes.out hb).2.2.2⟩)
  clear hX hC Hsn Hcl Hc0 Hct Hyes HXm hsm hst
  generalize poS X t = Y at HI2 Hy2
  obtain ⟨Y, by_⟩ := Y
  simp only at HI2 Hy2
  obtain ⟨kd, fm, tn, am, nc⟩ := t
  simp only [txV] at HI HS HI2 ⊢
  obtain ⟨w3, hw3⟩ : ∃ w3, w2.alloc (.cells #[.int .i64 kd, .string fm, .string tn, .int .i64 am, .int .i64 nc] 34) = w3 := ⟨_, rfl⟩
  have b3 : Below w2.heap.size w2 w3 := by rw [← hw3]; exact (Below.refl _ w2).alloc (Nat.le_refl _) _
  have k3 : Blk w3 w2.heap.size 34 [.int .i64 kd, .string fm, .string tn, .int .i64 am, .int .i64 nc] := by rw [← hw3]; exact Blk.new w2 _ _
  have hB3 := hB2.trans (b3.mono hB2.size)
  have r3 := hrl.below b3 (Nat.le_refl _)
  have c0 := k3.cell 0
  have c1 := k3.cell 1
  have c2 := k3.cell 2
  have c3 := k3.cell 3
  have c4' := k3.cell 4
  simp only [List.getElem?_cons_zero, List.getElem?_cons_succ] at c0 c1 c2 c3 c4'
  clear hrl b3 hB2
  go_wp2_with fail
  refine (HI.out _ r3).mono ?_
  rintro en w4 ⟨v4, rfl, o4, hb4⟩
  obtain ⟨a4, c4, rfl⟩ := o4.rd.shape
  have hB4 := hB3.trans (hb4.mono hB3.size)
  have r4 := r3.below hb4 (Nat.le_refl _)
  have k4 := k3.below hb4 k3.lt
  clear c0 c1 c2 c3 c4' r3 k3 hb4 hB3
  have c0 := k4.cell 0
  have c1 := k4.cell 1
  have c2 := k4.cell 2
  have c3 := k4.cell 3
  have c4' := k4.cell 4
  simp only [List.getElem?_cons_zero, List.getElem?_cons_succ] at c0 c1 c2 c3 c4'
  go_wp2_with fail
  refine (HS.out _ r4).mono ?_
  rintro en w5 ⟨v5, rfl, o5, hb5⟩
  obtain ⟨a5, c5, rfl⟩ := o5.rd.shape
  have hB5 := hB4.trans (hb5.mono hB4.size)
  have k5 := k4.below hb5 k4.lt
  have R5 := hide (o4.rd.below hb5 (Nat.le_refl _))
  clear c0 c1 c2 c3 c4' r4 k4 hb5 hB4 o5 o4
  cases b
  · have hxe := Hno.out rfl
    subst hxe
    go_wp2
    go_ret
    exact ⟨rfl, hB5⟩
  · have Hy := hide (Hy2.out rfl)
    have HCx := hide (HCe.out rfl)
    have K5 := hide k5
    have B5 := hide hB5
    clear Hy2 Hno k5 hB5 HCe
    go_wp2
    go_loopw [9, 10] (fun nv iv wr => ∃ i : Nat, i ≤ X.length ∧ iv = .int .i64 (i : Int) ∧ nv = .int .i64 (C i : Int) ∧ Below w5.heap.size w5 wr) (fun _ iv _ => X.length - (intOf iv).toNat)
    case atStart => exact ⟨0, Nat.zero_le _, rfl, by rw [HC0.out]; rfl, Below.refl _ _⟩
    case round =>
      obtain ⟨i, hi, rfl, rfl, hbr⟩ := hrel
      have hci := HCl.out i
      by_cases hlt : i < X.length
      · obtain ⟨bx, ox, hax, hbx, hT⟩ := rdT_at7 R5.out hlt
        subst hax
        have hli : (i : Int) < (X.length : Int) := by omega
        obtain ⟨q0, q1, q2, q3, q4⟩ := hT.below hbr hbx
        have kr := K5.out.below hbr K5.out.lt
        have HCs := hide (HCs.out i hlt)
        generalize X[i] = x at q0 q1 q2 q3 q4 HCs
        obtain ⟨xk, xf, xt, xa, xn⟩ := x
        have p0 := kr.cell 0
        have p1 := kr.cell 1
        have p2 := kr.cell 2
        have p3 := kr.cell 3
        have p4 := kr.cell 4
        simp only [List.getElem?_cons_zero, List.getElem?_cons_succ] at q0 q1 q2 q3 q4 p0 p1 p2 p3 p4
        have g0 := cell_regrown q0
        have g1 := cell_regrown q1
        have g2 := cell_regrown q2
        have g3 := cell_regrown q3
        have g4 := cell_regrown q4
        have e0 := cell_regrown p0
        have e1 := cell_regrown p1
        have e2 := cell_regrown p2
        have e3 := cell_regrown p3
        have e4 := cell_regrown p4
        have Hbr := hide hbr
        clear q0 q1 q2 q3 q4 p0 p1 p2 p3 p4 kr hbr hT
        by_cases h0 : xk = kd
        · subst h0
          by_cases h1 : xf = fm
          · subst h1
            by_cases h2 : xt = tn
            · subst h2
              by_cases h3 : xa = am
              · subst h3
                by_cases h4 : xn = nc
                · subst h4
                  have Hs : Hid (C (i + 1) = C i + 1) := hide (by rw [HCs.out, if_pos rfl])
                  go_wp2
                  refine wp_region_quiet_below (by kernel_rfl) (by kernel_rfl) ?_
                  repeat (go_big_quiet_step (fail))
                  refine wpQuiet_nil ?_
                  intro _ hw'
                  obtain ⟨⟨dq, osq⟩, hw''⟩ := hw'
                  subst hw''
                  have b9 := below_regrown wr dq osq
                  go_wp2
                  go_roundw
                  case rel => exact ⟨i + 1, by omega, by go_num, by rw [Hs.out] <;> first | rfl | go_num, Hbr.out.trans (b9.mono Hbr.out.size)⟩
                  case measure => simp [intOf]; omega
                · have Hs : Hid (C (i + 1) = C i) := hide (by rw [HCs.out, if_neg (fun e => h4 (by cases e <;> rfl)), Nat.add_zero])
                  have hq : (xn == nc) = false := by rw [beq_eq_false_iff_ne]; exact h4
                  clear h4
                  go_wp2
                  refine wp_region_quiet_below (by kernel_rfl) (by kernel_rfl) ?_
                  repeat (go_big_quiet_step (fail))
                  refine wpQuiet_nil ?_
                  intro _ hw'
                  obtain ⟨⟨dq, osq⟩, hw''⟩ := hw'
                  subst hw''
                  have b9 := below_regrown wr dq osq
                  go_wp2
                  go_roundw
                  case rel => exact ⟨i + 1, by omega, by go_num, by rw [Hs.out] <;> first | rfl | go_num, Hbr.out.trans (b9.mono Hbr.out.size)⟩
                  case measure => simp [intOf]; omega
              · have Hs : Hid (C (i + 1) = C i) := hide (by rw [HCs.out, if_neg (fun e => h3 (by cases e <;> rfl)), Nat.add_zero])
                have hq : (xa == am) = false := by rw [beq_eq_false_iff_ne]; exact h3
                clear h3
                go_wp2
                refine wp_region_quiet_below (by kernel_rfl) (by kernel_rfl) ?_
                repeat (go_big_quiet_step (fail))
                refine wpQuiet_nil ?_
                intro _ hw'
                obtain ⟨⟨dq, osq⟩, hw''⟩ := hw'
                subst hw''
                have b9 := below_regrown wr dq osq
                go_wp2
                go_roundw
                case rel => exact ⟨i + 1, by omega, by go_num, by rw [Hs.out] <;> first | rfl | go_num, Hbr.out.trans (b9.mono Hbr.out.size)⟩
                case measure => simp [intOf]; omega
            · have Hs : Hid (C (i + 1) = C i) := hide (by rw [HCs.out, if_neg (fun e => h2 (by cases e <;> rfl)), Nat.add_zero])
              have hq : (xt.toList == tn.toList) = false := by rw [beq_eq_false_iff_ne]; exact fun e => h2 (list_inj5 e)
              clear h2
              go_wp2
              refine wp_region_quiet_below (by kernel_rfl) (by kernel_rfl) ?_
              repeat (go_big_quiet_step (fail))
              refine wpQuiet_nil ?_
              intro _ hw'
              obtain ⟨⟨dq, osq⟩, hw''⟩ := hw'
              subst hw''
              have b9 := below_regrown wr dq osq
              go_wp2
              go_roundw
              case rel => exact ⟨i + 1, by omega, by go_num, by rw [Hs.out] <;> first | rfl | go_num, Hbr.out.trans (b9.mono Hbr.out.size)⟩
              case measure => simp [intOf]; omega
          · have Hs : Hid (C (i + 1) = C i) := hide (by rw [HCs.out, if_neg (fun e => h1 (by cases e <;> rfl)), Nat.add_zero])
            have hq : (xf.toList == fm.toList) = false := by rw [beq_eq_false_iff_ne]; exact fun e => h1 (list_inj5 e)
            clear h1
            go_wp2
            refine wp_region_quiet_below (by kernel_rfl) (by kernel_rfl) ?_
            repeat (go_big_quiet_step (fail))
            refine wpQuiet_nil ?_
            intro _ hw'
            obtain ⟨⟨dq, osq⟩, hw''⟩ := hw'
            subst hw''
            have b9 := below_regrown wr dq osq
            go_wp2
            go_roundw
            case rel => exact ⟨i + 1, by omega, by go_num, by rw [Hs.out] <;> first | rfl | go_num, Hbr.out.trans (b9.mono Hbr.out.size)⟩
            case measure => simp [intOf]; omega
        · have Hs : Hid (C (i + 1) = C i) := hide (by rw [HCs.out, if_neg (fun e => h0 (by cases e <;> rfl)), Nat.add_zero])
          have hq : (xk == kd) = false := by rw [beq_eq_false_iff_ne]; exact h0
          clear h0
          go_wp2
          refine wp_region_quiet_below (by kernel_rfl) (by kernel_rfl) ?_
          repeat (go_big_quiet_step (fail))
          refine wpQuiet_nil ?_
          intro _ hw'
          obtain ⟨⟨dq, osq⟩, hw''⟩ := hw'
          subst hw''
          have b9 := below_regrown wr dq osq
          go_wp2
          go_roundw
          case rel => exact ⟨i + 1, by omega, by go_num, by rw [Hs.out] <;> first | rfl | go_num, Hbr.out.trans (b9.mono Hbr.out.size)⟩
          case measure => simp [intOf]; omega
      · have hil : ¬ ((i : Int) < (X.length : Int)) := by omega
        obtain ⟨hxl, hpx, hag⟩ := Hy.out
        rw [HCx.out i (by omega)]
        have kr := K5.out.below hbr K5.out.lt
        have rX := R5.out.below hbr (Nat.le_refl _)
        have p0 := kr.cell 0
        have p1 := kr.cell 1
        have p2 := kr.cell 2
        have p3 := kr.cell 3
        have p4 := kr.cell 4
        simp only [List.getElem?_cons_zero, List.getElem?_cons_succ] at p0 p1 p2 p3 p4
        have HO6 := hide (fun V (hV : Below wr.heap.size wr V) => HO.out _ V (rX.below hV (Nat.le_refl _)))
        rw [hpx] at HO6
        have HI6 := hide (HI2.out _ wr rX)
        rw [hag] at HI6
        have Hxl : Hid (X.length = l.length + 1) := hide hxl
        have B6 := hide (B5.out.trans (hbr.mono B5.out.size))
        have hlx : IntKind.i64.wrap ((l.length : Int) + 1) = (X.length : Int) := by rw [IntKind.wrap_i64]; omega
        clear hxl hpx hag kr rX hbr
        go_wp2_with fail
        refine HI6.out.mono ?_
        rintro en w7 ⟨v7, rfl, o7, hb7⟩
        obtain ⟨a7, c7, rfl⟩ := o7.rd.shape
        have HO7 := hide (HO6.out w7 hb7)
        have B7 := hide (B6.out.trans (hb7.mono B6.out.size))
        clear o7 hb7 HI6 HO6 p0 p1 p2 p3 p4
        go_wp2_with fail
        refine HO7.out.mono ?_
        rintro en w8 ⟨rfl, hb8⟩
        have B8 := hide (B7.out.trans (hb8.mono B7.out.size))
        go_wp2
        go_ret
        exact ⟨by first | rfl | simp, B8.out⟩

set_option maxRecDepth 100000 in
theorem fnPooled_lifted (os : Os) (started : os.Started) (H : Type) (enc : TypeId × Value → H) :
    ReturnsInHanded {} Try.checked os 6 .any (Rows.fnPooledSpec.pre6 enc Try.prog Try.f6 Rows.fnPooledRow.domain false) (Rows.fnPooledSpec.post enc Try.prog Try.f6 false true false false) := by
  refine returnsInHanded_of_change (C := Try.checked) fnPooled_own started (by kernel_rfl) Try.func6
    (ChangeSpec.witness6 (enc := enc) (C := Try.checked) false ⟨#[], #[.slice none 0 0], []⟩ 8 (by kernel_rfl) (by kernel_rfl) (by kernel_rfl) (by kernel_rfl)) ?_
  intro W base args ds gs before hval0 hW hcnd _
  have hval : ∀ (j : Nat) t v, Try.f6.params[j]? = some t → args[j]? = some v → Value.okWide Try.prog W .any base t v := hval0
  have hW' := hW
  obtain ⟨p, q, hA0, hV, rfl, hfz, hnd⟩ := hW
  have hA : DataW.TrodAll enc Try.prog W 0 (fun _ => true) true Try.f6.params.toList args.toList ds p := hA0
  rw [Try.params6] at hA hval
  obtain ⟨v0, vs0, d0, ds0, p0, q0, hargs, rfl, rfl, h0, r0⟩ := trodAll_cons hA
  obtain ⟨rfl, rfl, rfl⟩ := trodAll_nil r0
  obtain rfl : args = #[v0] := by cases args; simp_all
  obtain ⟨rfl, rfl⟩ := trodVars_none hV
  obtain ⟨a0, len0, cap0, rfl⟩ := okWide_slice Try.underlying50 (hval 0 50 v0 rfl rfl)
  have k0 := h0
  have lt0 : ∀ x ∈ p0, x.block < W.heap.size := by obtain ⟨m, hm⟩ := k0; exact DataW.trod_lt m _ _ _ hm
  obtain ⟨z0, w0⟩ : ∃ zs, IsRow .u8 W a0 len0 cap0 zs := by
    obtain ⟨fuel, hf⟩ := h0
    rcases open_ints Try.underlying50 Try.underlying5 (by kernel_rfl) hf with ⟨hcs, _⟩ | ⟨x, l, c, zs, hcs, _, hl, hm, hz, _, hcell, hwz⟩
    · simp [Value.cells] at hcs
      obtain ⟨rfl, rfl, rfl⟩ := hcs
      exact ⟨[], .inl ⟨rfl, rfl, rfl, rfl⟩⟩
    · simp [Value.cells] at hcs
      obtain ⟨rfl, rfl, rfl⟩ := hcs
      exact ⟨zs, .inr ⟨_, rfl, hl, hm, by simpa using hz, hcell, hwz⟩⟩
  clear hA0 hval0
  refine (fnPooled_walk a0 len0 cap0 z0 W w0).mono fun e W' ⟨he, bel⟩ => ?_
  subst he
  exact ⟨_, rfl, _, _, _, [], _, [], hW', trodAll_mk1 (shut_bool Try.underlying4 _), (trodAll_cons_mk (Below.trod fnPooled_laidOut (by kernel_rfl) (of_decide_eq_true (by kernel_rfl)) k0 bel lt0) trodAll_mk0), rfl, bel.frame _, fun h => by cases h⟩

theorem fnPooled_holds : Rows.FnPooledSaid :=
  OpenClaim.holds_of_wide 6 Try.f6 rfl rfl rfl rfl rfl rfl rfl ⟨rfl, rfl, rfl, rfl, rfl⟩ rfl rfl rfl rfl rfl (by kernel_rfl) Try.func6 (by kernel_rfl)
    (of_decide_eq_true (by kernel_rfl)) (by unfold Func.isWrapper; first | (rw [if_pos (by decide +kernel)]; kernel_rfl) | (rw [if_neg (by decide +kernel)]; exact ⟨rfl, rfl⟩))
    (fun os started H enc _ => fnPooled_lifted os started H enc)

end Go.Proofs.Ytkpnhgikkanfmaa
