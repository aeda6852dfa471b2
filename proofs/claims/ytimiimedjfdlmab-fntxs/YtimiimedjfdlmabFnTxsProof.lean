/- A drawn order that is right comes back of its bytes: the law FnTxs returns true at every code, with no condition. -/
import Derived.Test.YtimiimedjfdlmabRows
import Derived.Test.YtimiimedjfdlmabRow
import Derived.Test.YtimiimedjfdlmabBig
import Derived.Test.YtimiimedjfdlmabDrawTx6
import Derived.Test.YtimiimedjfdlmabTxRound
import Derived.Test.YtimiimedjfdlmabTxPutI
import Derived.Test.YtimiimedjfdlmabTxGetJ
import Derived.WalkKit
import Derived.ProofKit
import Derived.OpenShut
import Derived.ShutString
import Derived.ChangeOld
import Derived.Below
import Derived.SliceStrings
namespace Go.Proofs.Ytimiimedjfdlmab
open Go.ChangeShapes Go.WideShapes Go.ChangeAt Go.RowKit
open Go.ChangeMaps (open_string shut_string)
set_option linter.unusedVariables false

theorem fnTxs_own : ownKnob Try.prog.godebug = none := by kernel_rfl
theorem fnTxs_laidOut : laidOutB Try.prog = true := by kernel_rfl

set_option maxRecDepth 20000 in
set_option maxHeartbeats 4000000 in
theorem fnTxs_walk (p0 : Option Addr) (len0 cap0 : Nat) (z0 : List Int) (w : World) (w0 : IsRow .u8 w p0 len0 cap0 z0) :
    Calls Try.prog 5 #[.slice p0 len0 cap0] w fun e w' => e = .returned (.bool true) ∧ Below w.heap.size w w' := by
  obtain ⟨cd, rfl, hr⟩ := w0.rd
  clear w0
  have hcap : cd.length ≤ 9223372036854775807 := by
    rcases hr with ⟨_, _, _, e, _⟩ | ⟨_, _, cap, _, _, h1, h2, _⟩
    · subst e; simp
    · unfold maxLen at h2; omega
  have Hbig := hide (big_any _ cd w hr hcap)
  by_cases hbig : 1048576 < cd.length
  · rw [decide_eq_true hbig] at Hbig
    clear hr
    go_enter Try.func5, Try.ntmps5
    go_wp2_with fail
    refine Hbig.out.mono ?_
    rintro e w' ⟨rfl, rfl⟩
    go_wp2
    go_ret
    exact ⟨rfl, Below.refl _ _⟩
  rw [decide_eq_false hbig] at Hbig
  have Hd := hide (drawPutTx_any w _ cd hr (by omega))
  clear hr
  go_enter Try.func5, Try.ntmps5
  go_wp2_with fail
  refine Hbig.out.mono ?_
  rintro e w ⟨rfl, rfl⟩
  go_wp2_with fail
  refine Hd.out.mono ?_
  rintro e w2 ⟨v, l, ⟨k, f, to, am, no⟩, rfl, ho2, hl9, hsm, hB2⟩
  unfold SmT at hsm
  simp only at hsm
  obtain ⟨av, cv, rfl⟩ := ho2.rd.shape
  have HGX := hide (fun h => getX_put l (k, f, to, am, no) h (by simp only; omega) (by simp only; omega))
  have hpl := txP_len (k, f, to, am, no)
  simp only at hpl
  have HP := hide (fun w h => implPutTx_any (.slice av l.length cv) l (k, f, to, am, no) w h (by omega) (by simp only; omega) (by simp only; omega) (by simp only; omega) (by simp only; omega) (by simp only; omega))
  have HO := hide (fun w => implTxOk_any (k, f, to, am, no) w (by unfold maxLen; simp only; omega) (by unfold maxLen; simp only; omega))
  have HS := hide (fun w => specTxOk_any (k, f, to, am, no) w (by unfold maxLen; simp only; omega) (by unfold maxLen; simp only; omega))
  obtain ⟨w3, hw3⟩ : ∃ w3, w2.alloc (.cells #[.int .i64 k, .string f, .string to, .int .i64 am, .int .i64 no] 41) = w3 := ⟨_, rfl⟩
  have hb3 : Below w2.heap.size w2 w3 := by rw [← hw3]; exact (Below.refl _ w2).alloc (Nat.le_refl _) _
  have hs3 : w3.heap.size = w2.heap.size + 1 := by rw [← hw3]; simp
  have hs2 := hB2.size
  have A3 : Hid (Blk w3 w2.heap.size 41 [.int .i64 k, .string f, .string to, .int .i64 am, .int .i64 no]) := hide (by rw [← hw3]; exact Blk.new w2 _ _)
  have hB3 : Below w.heap.size w w3 := hB2.trans (hb3.mono hs2)
  have Hr3 := hide (ho2.rd.below hb3 (Nat.le_refl _))
  simp only [txV] at HP HO HS ⊢
  generalize txB (k, f, to, am, no) = B at HP HO HS HGX
  have ha3 := A3.out
  have a0 := ha3.cell 0
  have a1 := ha3.cell 1
  have a2 := ha3.cell 2
  have a3 := ha3.cell 3
  have a4 := ha3.cell 4
  simp only [List.getElem?_cons_zero, List.getElem?_cons_succ] at a0 a1 a2 a3 a4
  clear hB2 hb3 ha3 ho2 Hbig Hd hbig hcap
  cases B
  · rw [if_neg (by simp), List.append_nil] at HP
    clear HGX hpl
    go_wp2_with fail
    refine (HP.out _ Hr3.out).mono ?_
    rintro e w4 ⟨v4, rfl, ho4, hb4⟩
    clear hw3 a0 a1 a2 a3 a4
    have hs4 := hb4.size
    have A4 := hide (A3.out.below hb4 (by omega))
    have HB4 := hide (hB3.trans (hb4.mono (by omega)))
    have ha4 := A4.out
    have a0 := ha4.cell 0
    have a1 := ha4.cell 1
    have a2 := ha4.cell 2
    have a3 := ha4.cell 3
    have a4 := ha4.cell 4
    simp only [List.getElem?_cons_zero, List.getElem?_cons_succ] at a0 a1 a2 a3 a4
    clear hb4 A3 hB3 ha4 HP Hr3
    obtain ⟨a5, c5, rfl⟩ := ho4.rd.shape
    clear ho4
    go_wp2_with fail
    refine (HS.out _).mono ?_
    rintro e w5 ⟨rfl, hb5⟩
    clear a0 a1 a2 a3 a4
    have hs5 := hb5.size
    have ha5 := A4.out.below hb5 (by omega)
    have HB5 := hide (HB4.out.trans (hb5.mono (by omega)))
    have a0 := ha5.cell 0
    have a1 := ha5.cell 1
    have a2 := ha5.cell 2
    have a3 := ha5.cell 3
    have a4 := ha5.cell 4
    simp only [List.getElem?_cons_zero, List.getElem?_cons_succ] at a0 a1 a2 a3 a4
    clear hb5 A4 HB4 ha5 HS
    go_wp2_with fail
    refine (HO.out _).mono ?_
    rintro e w6 ⟨rfl, hb6⟩
    have hB6 := HB5.out.trans (hb6.mono (by omega))
    go_wp2
    go_ret
    exact ⟨rfl, hB6⟩
  · rw [if_pos rfl] at HP
    have hgx := HGX.out rfl
    have hLl : (l ++ txP (k, f, to, am, no)).length = l.length + (txP (k, f, to, am, no)).length := by simp
    have hpos := txP_pos (k, f, to, am, no)
    generalize l ++ txP (k, f, to, am, no) = L at HP hgx hLl
    have HG := hide (fun v w h => implGetTx_any v L (l.length : Int) w h (by omega) (by omega) (by omega))
    rw [hgx] at HG
    simp only [txV] at HG
    clear HGX hgx
    go_wp2_with fail
    refine (HP.out _ Hr3.out).mono ?_
    rintro e w4 ⟨v4, rfl, ho4, hb4⟩
    clear hw3 a0 a1 a2 a3 a4
    have hs4 := hb4.size
    have A4 := hide (A3.out.below hb4 (by omega))
    have HB4 := hide (hB3.trans (hb4.mono (by omega)))
    have ha4 := A4.out
    have a0 := ha4.cell 0
    have a1 := ha4.cell 1
    have a2 := ha4.cell 2
    have a3 := ha4.cell 3
    have a4 := ha4.cell 4
    simp only [List.getElem?_cons_zero, List.getElem?_cons_succ] at a0 a1 a2 a3 a4
    clear hb4 A3 hB3 ha4 HP Hr3
    obtain ⟨a5, c5, rfl⟩ := ho4.rd.shape
    have Hr4 := hide ho4.rd
    clear ho4
    have hK : L.length ≤ 100 := by omega
    have hK2 : l.length < L.length := by omega
    clear hLl hpos hpl hsm
    generalize L.length = K at *
    go_wp2_with fail
    refine (HS.out _).mono ?_
    rintro e w5 ⟨rfl, hb5⟩
    clear a0 a1 a2 a3 a4
    have hs5 := hb5.size
    have A5 := hide (A4.out.below hb5 (by omega))
    have HB5 := hide (HB4.out.trans (hb5.mono (by omega)))
    have Hr5 := hide (Hr4.out.below hb5 (Nat.le_refl _))
    clear hb5 A4 HB4 HS Hr4
    go_wp2_with fail
    refine (HG.out _ _ Hr5.out).mono ?_
    rintro e w6 ⟨rfl, hb6⟩
    have hs6 := hb6.size
    have A6 := hide (A5.out.below hb6 (by omega))
    have HB6 := hide (HB5.out.trans (hb6.mono (by omega)))
    clear hb6 A5 HB5 Hr5 HG
    obtain ⟨w7, hw7⟩ : ∃ w7, w6.alloc (.cells #[.int .i64 k, .string f, .string to, .int .i64 am, .int .i64 no] 41) = w7 := ⟨_, rfl⟩
    have hb7 : Below w6.heap.size w6 w7 := by rw [← hw7]; exact (Below.refl _ w6).alloc (Nat.le_refl _) _
    have X7 : Hid (Blk w7 w6.heap.size 41 [.int .i64 k, .string f, .string to, .int .i64 am, .int .i64 no]) := hide (by rw [← hw7]; exact Blk.new w6 _ _)
    have A7 := hide (A6.out.below hb7 (by omega))
    have HB7 := hide (HB6.out.trans (hb7.mono (by omega)))
    have ha7 := A7.out
    have hx7 := X7.out
    have a0 := ha7.cell 0
    have a1 := ha7.cell 1
    have a2 := ha7.cell 2
    have a3 := ha7.cell 3
    have a4 := ha7.cell 4
    have x0 := hx7.cell 0
    have x1 := hx7.cell 1
    have x2 := hx7.cell 2
    have x3 := hx7.cell 3
    have x4 := hx7.cell 4
    simp only [List.getElem?_cons_zero, List.getElem?_cons_succ] at a0 a1 a2 a3 a4 x0 x1 x2 x3 x4
    have hs7 := hb7.size
    clear A6 HB6 hb7 ha7 hx7
    go_wp2_with fail
    refine (HO.out _).mono ?_
    rintro e w8 ⟨rfl, hb8⟩
    have hB8 := HB7.out.trans (hb8.mono (by omega))
    go_wp2
    go_ret
    exact ⟨rfl, hB8⟩

set_option maxRecDepth 100000 in
theorem fnTxs_lifted (os : Os) (started : os.Started) (H : Type) (enc : TypeId × Value → H) :
    ReturnsInHanded {} Try.checked os 5 .any (Rows.fnTxsSpec.pre6 enc Try.prog Try.f5 Rows.fnTxsRow.domain false) (Rows.fnTxsSpec.post enc Try.prog Try.f5 false true false false) := by
  refine returnsInHanded_of_change (C := Try.checked) fnTxs_own started (by kernel_rfl) Try.func5
    (ChangeSpec.witness6 (enc := enc) (C := Try.checked) false ⟨#[], #[.slice none 0 0], []⟩ 8 (by kernel_rfl) (by kernel_rfl) (by kernel_rfl) (by kernel_rfl)) ?_
  intro W base args ds gs before hval0 hW hcnd _
  have hval : ∀ (j : Nat) t v, Try.f5.params[j]? = some t → args[j]? = some v → Value.okWide Try.prog W .any base t v := hval0
  have hW' := hW
  obtain ⟨p, q, hA0, hV, rfl, hfz, hnd⟩ := hW
  have hA : DataW.TrodAll enc Try.prog W 0 (fun _ => true) true Try.f5.params.toList args.toList ds p := hA0
  rw [Try.params5] at hA hval
  obtain ⟨v0, vs0, d0, ds0, p0, q0, hargs, rfl, rfl, h0, r0⟩ := trodAll_cons hA
  obtain ⟨rfl, rfl, rfl⟩ := trodAll_nil r0
  obtain rfl : args = #[v0] := by cases args; simp_all
  obtain ⟨rfl, rfl⟩ := trodVars_none hV
  obtain ⟨a0, len0, cap0, rfl⟩ := okWide_slice Try.underlying22 (hval 0 22 v0 rfl rfl)
  have k0 := h0
  have lt0 : ∀ x ∈ p0, x.block < W.heap.size := by obtain ⟨m, hm⟩ := k0; exact DataW.trod_lt m _ _ _ hm
  obtain ⟨z0, w0⟩ : ∃ zs, IsRow .u8 W a0 len0 cap0 zs := by
    obtain ⟨fuel, hf⟩ := h0
    rcases open_ints Try.underlying22 Try.underlying5 (by kernel_rfl) hf with ⟨hcs, _⟩ | ⟨x, l, c, zs, hcs, _, hl, hm, hz, _, hcell, hwz⟩
    · simp [Value.cells] at hcs
      obtain ⟨rfl, rfl, rfl⟩ := hcs
      exact ⟨[], .inl ⟨rfl, rfl, rfl, rfl⟩⟩
    · simp [Value.cells] at hcs
      obtain ⟨rfl, rfl, rfl⟩ := hcs
      exact ⟨zs, .inr ⟨_, rfl, hl, hm, by simpa using hz, hcell, hwz⟩⟩
  clear hA0 hval0
  refine (fnTxs_walk a0 len0 cap0 z0 W w0).mono fun e W' ⟨he, bel⟩ => ?_
  subst he
  exact ⟨_, rfl, _, _, _, [], _, [], hW', trodAll_mk1 (shut_bool Try.underlying4 _), (trodAll_cons_mk (Below.trod fnTxs_laidOut (by kernel_rfl) (of_decide_eq_true (by kernel_rfl)) k0 bel lt0) trodAll_mk0), rfl, bel.frame _, fun h => by cases h⟩

theorem fnTxs_holds : Rows.FnTxsSaid :=
  OpenClaim.holds_of_wide 5 Try.f5 rfl rfl rfl rfl rfl rfl rfl ⟨rfl, rfl, rfl, rfl, rfl⟩ rfl rfl rfl rfl rfl (by kernel_rfl) Try.func5 (by kernel_rfl)
    (of_decide_eq_true (by kernel_rfl)) (by unfold Func.isWrapper; first | (rw [if_pos (by decide +kernel)]; kernel_rfl) | (rw [if_neg (by decide +kernel)]; exact ⟨rfl, rfl⟩))
    (fun os started H enc _ => fnTxs_lifted os started H enc)

end Go.Proofs.Ytimiimedjfdlmab
