/- Behind a drawn epoch nothing is left to leave that was due, and no stake has changed: the law FnFreed returns true at every code, with no condition. -/
import Derived.Test.YtknmjahipekgpaaRows
import Derived.Test.YtknmjahipekgpaaRow
import Derived.Test.YtknmjahipekgpaaBig
import Derived.Test.YtknmjahipekgpaaLgDraw
import Derived.Test.YtknmjahipekgpaaLgNextJ
import Derived.Test.YtknmjahipekgpaaLgNextS
import Derived.Test.YtknmjahipekgpaaLgFacts
import Derived.Test.YtknmjahipekgpaaLgFreeF
import Derived.WalkKit
import Derived.ProofKit
import Derived.OpenShut
import Derived.ShutString
import Derived.ChangeOld
import Derived.Below
import Derived.SliceStrings
namespace Go.Proofs.Ytknmjahipekgpaa
open Go.ChangeShapes Go.WideShapes Go.ChangeAt Go.RowKit
open Go.ChangeMaps (open_string shut_string)
set_option linter.unusedVariables false

theorem fnFreed_own : ownKnob Try.prog.godebug = none := by kernel_rfl
theorem fnFreed_laidOut : laidOutB Try.prog = true := by kernel_rfl

set_option maxRecDepth 20000 in
set_option maxHeartbeats 4000000 in
theorem fnFreed_walk (a0 : Option Addr) (len0 cap0 : Nat) (z0 : List Int) (w : World) (w0 : IsRow .u8 w a0 len0 cap0 z0) :
    Calls Try.prog 3 #[.slice a0 len0 cap0] w fun e w' => e = .returned (.bool true) ∧ Below w.heap.size w w' := by
  obtain ⟨cd, rfl, hr⟩ := w0.rd
  clear w0
  have hcap : cd.length ≤ 9223372036854775807 := by
    rcases hr with ⟨_, _, _, e, _⟩ | ⟨_, _, cap, _, _, h1, h2, _⟩
    · subst e; simp
    · unfold maxLen at h2; omega
  have Hbig := hide (big_any _ cd w hr hcap)
  by_cases hbig : 1048576 < cd.length
  · rw [decide_eq_true hbig] at Hbig
    clear hr
    go_enter Try.func3, Try.ntmps3
    go_wp2_with fail
    refine Hbig.out.mono ?_
    rintro e w' ⟨rfl, rfl⟩
    go_wp2
    go_ret
    exact ⟨rfl, Below.refl _ _⟩
  rw [decide_eq_false hbig] at Hbig
  have Hd := hide (drawNext_any w _ cd hr (by omega))
  clear hr
  go_enter Try.func3, Try.ntmps3
  go_wp2_with fail
  refine Hbig.out.mono ?_
  rintro e w ⟨rfl, rfl⟩
  go_wp2_with fail
  refine Hd.out.mono ?_
  rintro en w2 ⟨e, v, l, rfl, hrl, hl6, hsm, hB2⟩
  have hall : ∀ a ∈ l, a.1.size ≤ maxLen ∧ a.2.2.2.2.length ≤ 4000000 := fun a ha => by have := hsm a ha; unfold maxLen; omega
  obtain ⟨av, cv2, rfl⟩ := hrl.shape
  obtain ⟨w3, hw3⟩ : ∃ w3, w2.alloc (.cells #[.int .i64 e, .slice av l.length cv2] 26) = w3 := ⟨_, rfl⟩
  have b3 : Below w2.heap.size w2 w3 := by rw [← hw3]; exact (Below.refl _ w2).alloc (Nat.le_refl _) _
  have kL : Blk w3 w2.heap.size 26 [.int .i64 e, .slice av l.length cv2] := by rw [← hw3]; exact Blk.new w2 _ _
  have hB3 := hB2.trans (b3.mono hB2.size)
  have r3 := hrl.below b3 (Nat.le_refl _)
  have HI := hide (implNext_any e (.slice av l.length cv2) l w3 r3 (by omega) hall)
  have HS := hide (fun w h => specNext_any e (.slice av l.length cv2) l w h (by omega) hall)
  have Hlen := hide (ne_len e l)
  have Hfr := hide (fun h => ne_fr (e := e) (l := l) h)
  generalize (neA e l).1 = E at HI HS Hfr
  generalize (neA e l).2 = P at HI HS Hlen Hfr
  have c0 := kL.cell 0
  have c1 := kL.cell 1
  simp only [List.getElem?_cons_zero, List.getElem?_cons_succ] at c0 c1
  unfold lgV at HI HS ⊢
  clear hrl hall hsm
  go_wp2_with fail
  refine HI.out.mono ?_
  rintro en w4 ⟨v4, rfl, o4, hb4⟩
  have hB4 := hB3.trans (hb4.mono hB3.size)
  have hP : P.length = l.length := Hlen.out
  obtain ⟨a4, c4, hv4⟩ := o4.rd.shape
  rw [hP] at hv4
  subst hv4
  obtain ⟨w5, hw5⟩ : ∃ w5, w4.alloc (.cells #[.int .i64 E, .slice a4 l.length c4] 26) = w5 := ⟨_, rfl⟩
  have b5 : Below w4.heap.size w4 w5 := by rw [← hw5]; exact (Below.refl _ w4).alloc (Nat.le_refl _) _
  have kX : Blk w5 w4.heap.size 26 [.int .i64 E, .slice a4 l.length c4] := by rw [← hw5]; exact Blk.new w4 _ _
  have hB5 := hB4.trans (b5.mono hB4.size)
  replace kL := (kL.below hb4 kL.lt).below b5 (kL.below hb4 kL.lt).lt
  have r5 := (r3.below hb4 (Nat.le_refl _)).below b5 (Nat.le_refl _)
  have o5 := o4.rd.below b5 (Nat.le_refl _)
  have d0 := kL.cell 0
  have d1 := kL.cell 1
  simp only [List.getElem?_cons_zero, List.getElem?_cons_succ] at d0 d1
  clear c0 c1 r3 o4
  go_wp2_with fail
  refine (HS.out _ r5).mono ?_
  rintro en w6 ⟨v6, rfl, o6, hb6⟩
  have hB6 := hB5.trans (hb6.mono hB5.size)
  obtain ⟨a6, c6, hv6⟩ := o6.rd.shape
  rw [hP] at hv6
  subst hv6
  obtain ⟨w7, hw7⟩ : ∃ w7, w6.alloc (.cells #[.int .i64 E, .slice a6 l.length c6] 26) = w7 := ⟨_, rfl⟩
  have b7 : Below w6.heap.size w6 w7 := by rw [← hw7]; exact (Below.refl _ w6).alloc (Nat.le_refl _) _
  have kW : Blk w7 w6.heap.size 26 [.int .i64 E, .slice a6 l.length c6] := by rw [← hw7]; exact Blk.new w6 _ _
  have hB7 := hB6.trans (b7.mono hB6.size)
  replace kL := (kL.below hb6 kL.lt).below b7 (kL.below hb6 kL.lt).lt
  replace kX := (kX.below hb6 kX.lt).below b7 (kX.below hb6 kX.lt).lt
  have r7 := (r5.below hb6 (Nat.le_refl _)).below b7 (Nat.le_refl _)
  have o7 := (o5.below hb6 (Nat.le_refl _)).below b7 (Nat.le_refl _)
  clear d0 d1 r5 o5 o6
  have e0 := kL.cell 0
  have e1 := kL.cell 1
  have x0 := kX.cell 0
  have x1 := kX.cell 1
  have f0 := kW.cell 0
  simp only [List.getElem?_cons_zero, List.getElem?_cons_succ] at e0 e1 x0 x1 f0
  by_cases hE : E = e
  · subst hE
    go_wp2
    go_ret
    exact ⟨rfl, hB7⟩
  · have hq : (E == e) = false := by rw [beq_eq_false_iff_ne]; exact hE
    obtain ⟨hE1, hwr, -, hfr⟩ := Hfr.out hE
    clear hE Hfr
    have HE1 := hide hE1
    have Hwr := hide hwr
    have Hf := hide hfr
    have hw7' := hide hw7
    clear hE1 hwr hfr
    go_wp2
    have R7 := hide r7
    have O7 : Hid (RdA w7 (.slice a4 P.length c4) P) := hide (by rw [hP]; exact o7)
    have KL := hide kL
    have KX := hide kX
    have HB7 := hide hB7
    clear r7 o7 kL kX kW hB7 e0 e1 x0 x1 f0 hq hw3 hw5 hw7 hw7' HI HS Hd Hbig
    go_loopw [6] (fun iv wr => ∃ (i : Nat), i ≤ l.length ∧ iv = .int .i64 (i : Int) ∧ Below w7.heap.size w7 wr) (fun iv _ => l.length - (intOf iv).toNat)
    case atStart => exact ⟨0, by omega, rfl, Below.refl _ _⟩
    case round =>
      obtain ⟨i, hi, rfl, hb⟩ := hrel
      have kL := KL.out.below hb KL.out.lt
      have kX := KX.out.below hb KX.out.lt
      have e0 := kL.cell 0
      have e1 := kL.cell 1
      have x0 := kX.cell 0
      have x1 := kX.cell 1
      simp only [List.getElem?_cons_zero, List.getElem?_cons_succ] at e0 e1 x0 x1
      have Hb := hide hb
      by_cases hlt : i < l.length
      · have hiP : i < P.length := by omega
        obtain ⟨b, off, lv, rfl, hc1, hc2, hbw, hA, -⟩ := R7.out.at hlt
        obtain ⟨b2, off2, lv2, rfl, hd1, hd2, hbw2, hA2, hL2⟩ := O7.out.at hiP
        have hf := Hf.out i hlt hiP
        rw [hP] at hd1
        generalize l[i] = A at hA hf
        generalize P[i] = C at hA2 hL2 hf
        obtain ⟨An, Af, Ao, As, Al⟩ := A
        obtain ⟨Cn, Cf, Co, Cs, Cl⟩ := C
        obtain ⟨-, p1, -, p3, -⟩ := hA
        obtain ⟨-, q1, -, q3, q4⟩ := hA2
        simp only at p1 p3 q1 q3 q4 hL2 hf
        obtain ⟨hst, hfr, hlv⟩ := hf
        subst hst
        have hnl : ¬ Cf < Af := by omega
        have Hlv := hide hlv
        obtain ⟨a5, c5, rfl⟩ := hL2.shape
        have HL2 := hide hL2
        have g1 := (hb.cell hbw).trans p1
        have g3 := (hb.cell hbw).trans p3
        have m1 := (hb.cell hbw2).trans q1
        have m3 := (hb.cell hbw2).trans q3
        have m4 := (hb.cell hbw2).trans q4
        have hli : (i : Int) < (l.length : Int) := by omega
        clear kL kX hb hfr hlv hL2 p1 p3 q1 q3 hlt hi
        go_wp2
        go_quiet (fail)
        go_wp2
        clear e0 e1 x0 x1 g1 g3 m1 m3 m4 hnl
        go_loopw [7] (fun kv wq => ∃ (k : Nat), k ≤ Cl.length ∧ kv = .int .i64 (k : Int) ∧ Below w7.heap.size w7 wq) (fun kv _ => Cl.length - (intOf kv).toNat)
        case atStart => exact ⟨0, by omega, rfl, by first | exact below_drewN Hb.out _ | exact Hb.out.drew | exact Hb.out⟩
        case round =>
          obtain ⟨k, hk, rfl, hb3⟩ := hrel
          have kX := KX.out.below hb3 KX.out.lt
          have x0 := kX.cell 0
          have x1 := kX.cell 1
          simp only [List.getElem?_cons_zero, List.getElem?_cons_succ] at x0 x1
          have m4 := (hb3.cell hbw2).trans q4
          have Hb3 := hide hb3
          by_cases hkl : k < Cl.length
          · obtain ⟨b5, off5, rfl, hz1, hz2, hbw5, -, t1⟩ := HL2.out.at hkl
            have hE5 := Hlv.out Cl[k] (List.getElem_mem _)
            generalize Cl[k] = pp at t1 hE5
            obtain ⟨pa, pt⟩ := pp
            simp only at t1 hE5
            have hnle : ¬ pt ≤ E := by omega
            unfold maxLen at hz2
            have y1 := (hb3.cell (p := ⟨b5, off5 + k * 2 + 1, none⟩) hbw5).trans t1
            have hlk : (k : Int) < (Cl.length : Int) := by omega
            clear kX hb3 t1 hE5 hkl hk
            go_wp2
            go_quiet (fail)
            go_wp2
            go_roundw
            case rel => exact ⟨k + 1, by omega, by go_num, by first | exact below_drewN Hb3.out _ | exact Hb3.out.drew | exact Hb3.out⟩
            case measure => simp [intOf]; omega
          · have ek : k = Cl.length := by omega
            subst ek
            clear kX hb3 hkl hk
            go_wp2
            go_roundw
            case rel => exact ⟨i + 1, by omega, by go_num, by first | exact below_drewN Hb3.out _ | exact Hb3.out.drew | exact Hb3.out⟩
            case measure => simp [intOf]; omega
      · have ei : i = l.length := by omega
        subst ei
        clear kL kX hb hlt hi
        go_wp2
        go_ret
        refine ⟨?_, HB7.out.trans (Hb.out.mono HB7.out.size)⟩
        first
          | rw [HE1.out, show IntKind.i64.wrap (e + 1) = e + 1 from Hwr.out]; simp
          | (rw [HE1.out]; simp [Hwr.out])

set_option maxRecDepth 100000 in
theorem fnFreed_lifted (os : Os) (started : os.Started) (H : Type) (enc : TypeId × Value → H) :
    ReturnsInHanded {} Try.checked os 3 .any (Rows.fnFreedSpec.pre6 enc Try.prog Try.f3 Rows.fnFreedRow.domain false) (Rows.fnFreedSpec.post enc Try.prog Try.f3 false true false false) := by
  refine returnsInHanded_of_change (C := Try.checked) fnFreed_own started (by kernel_rfl) Try.func3
    (ChangeSpec.witness6 (enc := enc) (C := Try.checked) false ⟨#[], #[.slice none 0 0], []⟩ 8 (by kernel_rfl) (by kernel_rfl) (by kernel_rfl) (by kernel_rfl)) ?_
  intro W base args ds gs before hval0 hW hcnd _
  have hval : ∀ (j : Nat) t v, Try.f3.params[j]? = some t → args[j]? = some v → Value.okWide Try.prog W .any base t v := hval0
  have hW' := hW
  obtain ⟨p, q, hA0, hV, rfl, hfz, hnd⟩ := hW
  have hA : DataW.TrodAll enc Try.prog W 0 (fun _ => true) true Try.f3.params.toList args.toList ds p := hA0
  rw [Try.params3] at hA hval
  obtain ⟨v0, vs0, d0, ds0, p0, q0, hargs, rfl, rfl, h0, r0⟩ := trodAll_cons hA
  obtain ⟨rfl, rfl, rfl⟩ := trodAll_nil r0
  obtain rfl : args = #[v0] := by cases args; simp_all
  obtain ⟨rfl, rfl⟩ := trodVars_none hV
  obtain ⟨a0, len0, cap0, rfl⟩ := okWide_slice Try.underlying22 (hval 0 22 v0 rfl rfl)
  have k0 := h0
  have lt0 : ∀ x ∈ p0, x.block < W.heap.size := by obtain ⟨m, hm⟩ := k0; exact DataW.trod_lt m _ _ _ hm
  obtain ⟨z0, w0⟩ : ∃ zs, IsRow .u8 W a0 len0 cap0 zs := by
    obtain ⟨fuel, hf⟩ := h0
    rcases open_ints Try.underlying22 Try.underlying5 (by kernel_rfl) hf with ⟨hcs, _⟩ | ⟨x, l, c, zs, hcs, _, hl, hm, hz, _, hcell, hwz⟩
    · simp [Value.cells] at hcs
      obtain ⟨rfl, rfl, rfl⟩ := hcs
      exact ⟨[], .inl ⟨rfl, rfl, rfl, rfl⟩⟩
    · simp [Value.cells] at hcs
      obtain ⟨rfl, rfl, rfl⟩ := hcs
      exact ⟨zs, .inr ⟨_, rfl, hl, hm, by simpa using hz, hcell, hwz⟩⟩
  clear hA0 hval0
  refine (fnFreed_walk a0 len0 cap0 z0 W w0).mono fun e W' ⟨he, bel⟩ => ?_
  subst he
  exact ⟨_, rfl, _, _, _, [], _, [], hW', trodAll_mk1 (shut_bool Try.underlying4 _), (trodAll_cons_mk (Below.trod fnFreed_laidOut (by kernel_rfl) (of_decide_eq_true (by kernel_rfl)) k0 bel lt0) trodAll_mk0), rfl, bel.frame _, fun h => by cases h⟩

theorem fnFreed_holds : Rows.FnFreedSaid :=
  OpenClaim.holds_of_wide 3 Try.f3 rfl rfl rfl rfl rfl rfl rfl ⟨rfl, rfl, rfl, rfl, rfl⟩ rfl rfl rfl rfl rfl (by kernel_rfl) Try.func3 (by kernel_rfl)
    (of_decide_eq_true (by kernel_rfl)) (by unfold Func.isWrapper; first | (rw [if_pos (by decide +kernel)]; kernel_rfl) | (rw [if_neg (by decide +kernel)]; exact ⟨rfl, rfl⟩))
    (fun os started H enc _ => fnFreed_lifted os started H enc)

end Go.Proofs.Ytknmjahipekgpaa
