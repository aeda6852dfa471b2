/- At every account AcctOk of the program answers as the model's AcctOk, and writes into no argument: the law FnExactAcctOk returns true, with no condition. -/
import Derived.Test.YtclammgbbamnaalRows
import Derived.Test.YtclammgbbamnaalAcOpen
import Derived.Test.YtclammgbbamnaalAcEqS
import Derived.Test.YtclammgbbamnaalAcOk
import Derived.Test.YtclammgbbamnaalAcImpl2
import Derived.WalkKit
import Derived.ProofKit
import Derived.OpenShut
import Derived.ShutString
import Derived.ChangeOld
import Derived.Below
import Derived.SliceStrings
namespace Go.Proofs.Ytclammgbbamnaal
open Go.ChangeShapes Go.WideShapes Go.ChangeAt Go.RowKit
open Go.ChangeMaps (open_string shut_string)
set_option linter.unusedVariables false

theorem fnExactAcctOk_own : ownKnob Try.prog.godebug = none := by kernel_rfl
theorem fnExactAcctOk_laidOut : laidOutB Try.prog = true := by kernel_rfl

set_option maxRecDepth 20000 in
set_option maxHeartbeats 1000000 in
theorem fnExactAcctOk_walk (a0 : Ac) (lv0 : Value) (w : World) (w0 : RdL w lv0 a0.2.2.2.2 ∧ a0.1.size ≤ maxLen ∧ a0.2.2.2.2.length ≤ maxLen) :
    Calls Try.prog 3 #[acV a0 lv0] w fun e w' => e = .returned (.bool true) ∧ Below w.heap.size w w' := by
  obtain ⟨hr, hn, hlm⟩ := w0
  have hB0 := (Below.refl _ w).alloc (Nat.le_refl _) (.cells #[.string a0.1, .int .i64 a0.2.1, .int .i64 a0.2.2.1, .int .i64 a0.2.2.2.1, lv0] 24)
  have Hz := hide (fun w h => szAcct_any a0 lv0 1048576 w h (by omega) (by omega) (by unfold maxLen at hn; omega) (by unfold maxLen at hlm; omega))
  have Hfit : Hid (¬ szAc a0 1048576 < 0 → a0.2.2.2.2.length ≤ 4000000) := hide (fun h => by
    unfold szAc at h
    split at h
    · omega
    · split at h
      · omega
      · omega)
  have Hr := hide hr
  clear hr hlm
  have hrr := Hr.out.below hB0 (Nat.le_refl _)
  obtain ⟨av, cv, rfl⟩ := Hr.out.shape
  obtain ⟨nm, fr, no, st, ls⟩ := a0
  have hk := Blk.new w 24 [.string nm, .int .i64 fr, .int .i64 no, .int .i64 st, .slice av ls.length cv]
  obtain ⟨wA, hwA⟩ : ∃ wA, w.alloc (.cells #[.string nm, .int .i64 fr, .int .i64 no, .int .i64 st, .slice av ls.length cv] 24) = wA := ⟨_, rfl⟩
  have hkA : Blk wA w.heap.size 24 [.string nm, .int .i64 fr, .int .i64 no, .int .i64 st, .slice av ls.length cv] := by rw [← hwA]; exact hk
  have HBA : Hid (Below w.heap.size w wA) := hide (by rw [← hwA]; exact hB0)
  have HrA : Hid (RdL wA (.slice av ls.length cv) ls) := hide (by rw [← hwA]; exact hrr)
  have hltA := hkA.lt
  have cellsA : ∀ W, Below wA.heap.size wA W → W.cell? ⟨w.heap.size, 0, none⟩ = some (.string nm) ∧ W.cell? ⟨w.heap.size, 1, none⟩ = some (.int .i64 fr) ∧ W.cell? ⟨w.heap.size, 2, none⟩ = some (.int .i64 no) ∧ W.cell? ⟨w.heap.size, 3, none⟩ = some (.int .i64 st) ∧ W.cell? ⟨w.heap.size, 4, none⟩ = some (.slice av ls.length cv) := fun W hW =>
    ⟨((hkA.below hW hltA).cell 0), ((hkA.below hW hltA).cell 1), ((hkA.below hW hltA).cell 2), ((hkA.below hW hltA).cell 3), ((hkA.below hW hltA).cell 4)⟩
  obtain ⟨k0, k1, k2, k3, k4⟩ := cellsA wA (Below.refl _ _)
  have CA := hide cellsA
  clear hk hkA hrr hB0 Hr cellsA
  simp only [acV] at *
  by_cases hneg : szAc (nm, fr, no, st, ls) 1048576 < 0
  · generalize szAc (nm, fr, no, st, ls) 1048576 = z at hneg Hz
    clear Hfit
    go_enter Try.func3, Try.ntmps3
    go_wp2_with fail
    refine (Hz.out _ HrA.out).mono ?_
    rintro e w1 ⟨rfl, hb1⟩
    go_wp2
    go_ret
    exact ⟨rfl, HBA.out.trans (hb1.mono HBA.out.size)⟩
  · have hls := Hfit.out hneg
    have HT := hide (fun w h => toAcct_any (nm, fr, no, st, ls) (.slice av ls.length cv) w h hls)
    have HS := hide (fun lv w h => specAcctOk_any (nm, fr, no, st, ls) lv w h hn hls)
    have HI := hide (fun lv w h => implAcctOk_any (nm, fr, no, st, ls) lv w h hn hls)
    have HE := hide (fun la lb w h1 h2 => eqAcct_any (nm, fr, no, st, ls) (nm, fr, no, st, ls) la lb w h1 h2 hls hls)
    rw [decide_eq_true rfl] at HE
    generalize acB (nm, fr, no, st, ls) = B at HS HI
    generalize szAc (nm, fr, no, st, ls) 1048576 = z at hneg Hz
    simp only [acV] at HT HS HI HE
    clear Hfit
    go_enter Try.func3, Try.ntmps3
    go_wp2_with fail
    refine (Hz.out _ HrA.out).mono ?_
    rintro e w1 ⟨rfl, hb1⟩
    obtain ⟨p0, p1, p2, p3, p4⟩ := CA.out w1 hb1
    go_wp2_with fail
    refine (HT.out _ (HrA.out.below hb1 (Nat.le_refl _))).mono ?_
    rintro e w2 ⟨l2, rfl, ho2, hb2⟩
    have hB2 : Below wA.heap.size wA w2 := hb1.trans (hb2.mono hb1.size)
    obtain ⟨a2, c2, rfl⟩ := ho2.rd.shape
    go_wp2_with fail
    refine (HS.out _ _ ho2.rd).mono ?_
    rintro e w3 ⟨rfl, hb3⟩
    have hB3 : Below wA.heap.size wA w3 := hB2.trans (hb3.mono hB2.size)
    obtain ⟨q0, q1, q2, q3, q4⟩ := CA.out w3 hB3
    clear ho2
    go_wp2_with fail
    refine (HT.out _ (HrA.out.below hB3 (Nat.le_refl _))).mono ?_
    rintro e w4 ⟨l4, rfl, ho4, hb4⟩
    have hB4 : Below wA.heap.size wA w4 := hB3.trans (hb4.mono hB3.size)
    obtain ⟨a4, c4, rfl⟩ := ho4.rd.shape
    have hkB := Blk.new w4 29 [.string nm, .int .i64 fr, .int .i64 no, .int .i64 st, .slice a4 ls.length c4]
    have hbB := (Below.refl _ w4).alloc (Nat.le_refl _) (.cells #[.string nm, .int .i64 fr, .int .i64 no, .int .i64 st, .slice a4 ls.length c4] 29)
    have hBB := hB4.trans (hbB.mono hB4.size)
    have HoB := hide (ho4.below hbB (Nat.le_refl _))
    have HkB := hide hkB
    have HBB := hide hBB
    clear ho4 hkB hbB hBB
    go_wp2_with fail
    refine (HI.out _ _ HoB.out.rd).mono ?_
    rintro e w5 ⟨rfl, hb5⟩
    have hB5 : Below wA.heap.size wA w5 := HBB.out.trans (hb5.mono HBB.out.size)
    have hk5 := HkB.out.below hb5 HkB.out.lt
    have ho5 := HoB.out.below hb5 (Nat.le_refl _)
    obtain ⟨r0, r1, r2, r3, r4⟩ := CA.out w5 hB5
    have x0 : w5.cell? ⟨w4.heap.size, 0, none⟩ = some (.string nm) := hk5.cell 0
    have x1 : w5.cell? ⟨w4.heap.size, 1, none⟩ = some (.int .i64 fr) := hk5.cell 1
    have x2 : w5.cell? ⟨w4.heap.size, 2, none⟩ = some (.int .i64 no) := hk5.cell 2
    have x3 : w5.cell? ⟨w4.heap.size, 3, none⟩ = some (.int .i64 st) := hk5.cell 3
    have x4 : w5.cell? ⟨w4.heap.size, 4, none⟩ = some (.slice a4 ls.length c4) := hk5.cell 4
    have hS5 : w5.drew.cell? ⟨w.heap.size, 0, none⟩ = some (.string nm) ∧ w5.drew.cell? ⟨w.heap.size, 1, none⟩ = some (.int .i64 fr) ∧ w5.drew.cell? ⟨w.heap.size, 2, none⟩ = some (.int .i64 no) ∧ w5.drew.cell? ⟨w.heap.size, 3, none⟩ = some (.int .i64 st) ∧ w5.drew.cell? ⟨w.heap.size, 4, none⟩ = some (.slice av ls.length cv) ∧ w5.drew.cell? ⟨w4.heap.size, 0, none⟩ = some (.string nm) ∧ w5.drew.cell? ⟨w4.heap.size, 1, none⟩ = some (.int .i64 fr) ∧ w5.drew.cell? ⟨w4.heap.size, 2, none⟩ = some (.int .i64 no) ∧ w5.drew.cell? ⟨w4.heap.size, 3, none⟩ = some (.int .i64 st) ∧ w5.drew.cell? ⟨w4.heap.size, 4, none⟩ = some (.slice a4 ls.length c4) := ⟨r0, r1, r2, r3, r4, x0, x1, x2, x3, x4⟩
    have lw5 : w.heap.size < w5.drew.heap.size := Nat.lt_of_lt_of_le hltA hB5.size
    have l45 : w4.heap.size < w5.drew.heap.size := hk5.lt
    have HrB := hide (HrA.out.below hB5.drew (Nat.le_refl _))
    have HoD := hide (OwnL.below ho5 (Below.refl _ w5).drew (Nat.le_refl _))
    clear ho5 r0 r1 r2 r3 r4 x0 x1 x2 x3 x4 hk5 HoB HkB HBB
    go_wp2
    go_region_held_law (fun w' => w'.cell? ⟨w.heap.size, 0, none⟩ = some (.string nm) ∧ w'.cell? ⟨w.heap.size, 1, none⟩ = some (.int .i64 fr) ∧ w'.cell? ⟨w.heap.size, 2, none⟩ = some (.int .i64 no) ∧ w'.cell? ⟨w.heap.size, 3, none⟩ = some (.int .i64 st) ∧ w'.cell? ⟨w.heap.size, 4, none⟩ = some (.slice av ls.length cv) ∧ w'.cell? ⟨w4.heap.size, 0, none⟩ = some (.string nm) ∧ w'.cell? ⟨w4.heap.size, 1, none⟩ = some (.int .i64 fr) ∧ w'.cell? ⟨w4.heap.size, 2, none⟩ = some (.int .i64 no) ∧ w'.cell? ⟨w4.heap.size, 3, none⟩ = some (.int .i64 st) ∧ w'.cell? ⟨w4.heap.size, 4, none⟩ = some (.slice a4 ls.length c4)) (first | exact hS5 | exact hS6 | exact hS7) (first
      | (go_at_call 10; refine (HT.out _ HrB.out).mono ?_; rintro e w6 ⟨l6, rfl, ho6, hb6⟩; obtain ⟨a6, c6, rfl⟩ := ho6.rd.shape; have lw := lw5; have l4 := l45; have hS6 : w6.cell? ⟨w.heap.size, 0, none⟩ = some (.string nm) ∧ w6.cell? ⟨w.heap.size, 1, none⟩ = some (.int .i64 fr) ∧ w6.cell? ⟨w.heap.size, 2, none⟩ = some (.int .i64 no) ∧ w6.cell? ⟨w.heap.size, 3, none⟩ = some (.int .i64 st) ∧ w6.cell? ⟨w.heap.size, 4, none⟩ = some (.slice av ls.length cv) ∧ w6.cell? ⟨w4.heap.size, 0, none⟩ = some (.string nm) ∧ w6.cell? ⟨w4.heap.size, 1, none⟩ = some (.int .i64 fr) ∧ w6.cell? ⟨w4.heap.size, 2, none⟩ = some (.int .i64 no) ∧ w6.cell? ⟨w4.heap.size, 3, none⟩ = some (.int .i64 st) ∧ w6.cell? ⟨w4.heap.size, 4, none⟩ = some (.slice a4 ls.length c4) := ⟨(hb6.cell (p := ⟨w.heap.size, 0, none⟩) lw).trans hS5.1, (hb6.cell (p := ⟨w.heap.size, 1, none⟩) lw).trans hS5.2.1, (hb6.cell (p := ⟨w.heap.size, 2, none⟩) lw).trans hS5.2.2.1, (hb6.cell (p := ⟨w.heap.size, 3, none⟩) lw).trans hS5.2.2.2.1, (hb6.cell (p := ⟨w.heap.size, 4, none⟩) lw).trans hS5.2.2.2.2.1, (hb6.cell (p := ⟨w4.heap.size, 0, none⟩) l4).trans hS5.2.2.2.2.2.1, (hb6.cell (p := ⟨w4.heap.size, 1, none⟩) l4).trans hS5.2.2.2.2.2.2.1, (hb6.cell (p := ⟨w4.heap.size, 2, none⟩) l4).trans hS5.2.2.2.2.2.2.2.1, (hb6.cell (p := ⟨w4.heap.size, 3, none⟩) l4).trans hS5.2.2.2.2.2.2.2.2.1, (hb6.cell (p := ⟨w4.heap.size, 4, none⟩) l4).trans hS5.2.2.2.2.2.2.2.2.2⟩)
      | (go_at_call 12; refine (HE.out _ _ _ (HoD.out.rd.below hb6 (Nat.le_refl _)) ho6.rd).mono ?_; rintro e w7 ⟨rfl, hb7⟩; have lw := Nat.lt_of_lt_of_le lw5 hb6.size; have l4 := Nat.lt_of_lt_of_le l45 hb6.size; have hS7 : w7.cell? ⟨w.heap.size, 0, none⟩ = some (.string nm) ∧ w7.cell? ⟨w.heap.size, 1, none⟩ = some (.int .i64 fr) ∧ w7.cell? ⟨w.heap.size, 2, none⟩ = some (.int .i64 no) ∧ w7.cell? ⟨w.heap.size, 3, none⟩ = some (.int .i64 st) ∧ w7.cell? ⟨w.heap.size, 4, none⟩ = some (.slice av ls.length cv) ∧ w7.cell? ⟨w4.heap.size, 0, none⟩ = some (.string nm) ∧ w7.cell? ⟨w4.heap.size, 1, none⟩ = some (.int .i64 fr) ∧ w7.cell? ⟨w4.heap.size, 2, none⟩ = some (.int .i64 no) ∧ w7.cell? ⟨w4.heap.size, 3, none⟩ = some (.int .i64 st) ∧ w7.cell? ⟨w4.heap.size, 4, none⟩ = some (.slice a4 ls.length c4) := ⟨(hb7.cell (p := ⟨w.heap.size, 0, none⟩) lw).trans hS6.1, (hb7.cell (p := ⟨w.heap.size, 1, none⟩) lw).trans hS6.2.1, (hb7.cell (p := ⟨w.heap.size, 2, none⟩) lw).trans hS6.2.2.1, (hb7.cell (p := ⟨w.heap.size, 3, none⟩) lw).trans hS6.2.2.2.1, (hb7.cell (p := ⟨w.heap.size, 4, none⟩) lw).trans hS6.2.2.2.2.1, (hb7.cell (p := ⟨w4.heap.size, 0, none⟩) l4).trans hS6.2.2.2.2.2.1, (hb7.cell (p := ⟨w4.heap.size, 1, none⟩) l4).trans hS6.2.2.2.2.2.2.1, (hb7.cell (p := ⟨w4.heap.size, 2, none⟩) l4).trans hS6.2.2.2.2.2.2.2.1, (hb7.cell (p := ⟨w4.heap.size, 3, none⟩) l4).trans hS6.2.2.2.2.2.2.2.2.1, (hb7.cell (p := ⟨w4.heap.size, 4, none⟩) l4).trans hS6.2.2.2.2.2.2.2.2.2⟩))
    have HF : Hid (Below w.heap.size w w7) := hide (HBA.out.trans (((hB5.drew.trans (hb6.mono hB5.size)).trans (hb7.mono (Nat.le_trans hB5.size hb6.size))).mono HBA.out.size))
    go_wp2
    go_ret
    exact ⟨rfl, HF.out⟩

set_option maxRecDepth 100000 in
theorem fnExactAcctOk_lifted (os : Os) (started : os.Started) (H : Type) (enc : TypeId × Value → H) :
    ReturnsInHanded {} Try.checked os 3 .any (Rows.fnExactAcctOkSpec.pre6 enc Try.prog Try.f3 Rows.fnExactAcctOkRow.domain false) (Rows.fnExactAcctOkSpec.post enc Try.prog Try.f3 false true false false) := by
  refine returnsInHanded_of_change (C := Try.checked) fnExactAcctOk_own started (by kernel_rfl) Try.func3
    (ChangeSpec.witness6 (enc := enc) (C := Try.checked) false ⟨#[], #[.agg #[.string ByteArray.empty, .int .i64 0, .int .i64 0, .int .i64 0, .slice none 0 0]], []⟩ 8 (by kernel_rfl) (by kernel_rfl) (by kernel_rfl) (by kernel_rfl)) ?_
  intro W base args ds gs before hval0 hW hcnd _
  have hval : ∀ (j : Nat) t v, Try.f3.params[j]? = some t → args[j]? = some v → Value.okWide Try.prog W .any base t v := hval0
  have hW' := hW
  obtain ⟨p, q, hA0, hV, rfl, hfz, hnd⟩ := hW
  have hA : DataW.TrodAll enc Try.prog W 0 (fun _ => true) true Try.f3.params.toList args.toList ds p := hA0
  rw [Try.params3] at hA hval
  obtain ⟨v0, vs0, d0, ds0, p0, q0, hargs, rfl, rfl, h0, r0⟩ := trodAll_cons hA
  obtain ⟨rfl, rfl, rfl⟩ := trodAll_nil r0
  obtain rfl : args = #[v0] := by cases args; simp_all
  obtain ⟨rfl, rfl⟩ := trodVars_none hV
  have k0 := h0
  have lt0 : ∀ x ∈ p0, x.block < W.heap.size := by obtain ⟨m, hm⟩ := k0; exact DataW.trod_lt m _ _ _ hm
  obtain ⟨z0, y0, rfl, w0⟩ : ∃ (a : Ac) (lv : Value), v0 = acV a lv ∧ RdL W lv a.2.2.2.2 ∧ a.1.size ≤ maxLen ∧ a.2.2.2.2.length ≤ maxLen := by
    obtain ⟨cs, rfl, hsz⟩ := okWide_struct Try.underlying24 (hval 0 24 _ rfl rfl)
    obtain ⟨fuel, hf⟩ := h0
    obtain ⟨a, lv, e, r⟩ := open_acc (by simpa [Value.cells] using hf)
    exact ⟨a, lv, by cases cs; simp at e; subst e; rfl, r⟩
  clear hA0 hval0
  refine (fnExactAcctOk_walk z0 y0 W w0).mono fun e W' ⟨he, bel⟩ => ?_
  subst he
  exact ⟨_, rfl, _, _, _, [], _, [], hW', trodAll_mk1 (shut_bool Try.underlying4 _), (trodAll_cons_mk (Below.trod fnExactAcctOk_laidOut (by kernel_rfl) (of_decide_eq_true (by kernel_rfl)) k0 bel lt0) trodAll_mk0), rfl, bel.frame _, fun h => by cases h⟩

theorem fnExactAcctOk_holds : Rows.FnExactAcctOkSaid :=
  OpenClaim.holds_of_wide 3 Try.f3 rfl rfl rfl rfl rfl rfl rfl ⟨rfl, rfl, rfl, rfl, rfl⟩ rfl rfl rfl rfl rfl (by kernel_rfl) Try.func3 (by kernel_rfl)
    (of_decide_eq_true (by kernel_rfl)) (by unfold Func.isWrapper; first | (rw [if_pos (by decide +kernel)]; kernel_rfl) | (rw [if_neg (by decide +kernel)]; exact ⟨rfl, rfl⟩))
    (fun os started H enc _ => fnExactAcctOk_lifted os started H enc)

end Go.Proofs.Ytclammgbbamnaal
