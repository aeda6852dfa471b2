/- Who votes by a drawn ledger has the stake that is asked for, and with that weight; all others have not: the law FnSets returns true at every code, with no condition. -/
import Derived.Test.YtoejikphbienfaaRows
import Derived.Test.YtoejikphbienfaaJoin1
import Derived.Test.YtoejikphbienfaaJoin6
import Derived.Test.YtoejikphbienfaaVsSets
import Derived.WalkKit
import Derived.ProofKit
import Derived.OpenShut
import Derived.ShutString
import Derived.ChangeOld
import Derived.Below
import Derived.SliceStrings
namespace Go.Proofs.Ytoejikphbienfaa
open Go.ChangeShapes Go.WideShapes Go.ChangeAt Go.RowKit
open Go.ChangeMaps (open_string shut_string)
set_option linter.unusedVariables false

theorem fnSets_own : ownKnob Try.prog.godebug = none := by kernel_rfl
theorem fnSets_laidOut : laidOutB Try.prog = true := by kernel_rfl

set_option maxRecDepth 20000 in
set_option maxHeartbeats 4000000 in
theorem fnSets_walk (a0 : Option Addr) (len0 cap0 : Nat) (z0 : List Int) (w : World) (w0 : IsRow .u8 w a0 len0 cap0 z0) :
    Calls Try.prog 3 #[.slice a0 len0 cap0] w fun e w' => e = .returned (.bool true) ∧ Below w.heap.size w w' := by
  obtain ⟨cd, rfl, hr⟩ := w0.rd
  clear w0
  have hcap : cd.length ≤ 9223372036854775807 := by
    rcases hr with ⟨_, _, _, e, _⟩ | ⟨_, _, cap, _, _, h1, h2, _⟩
    · subst e; simp
    · unfold maxLen at h2; omega
  have Hbig := hide (big_any _ cd w hr hcap)
  by_cases hbig : 1048576 < cd.length
  · rw [decide_eq_true hbig] at Hbig
    clear hr
    go_enter Try.func3, Try.ntmps3
    go_wp2_with fail
    refine Hbig.out.mono ?_
    rintro e w' ⟨rfl, rfl⟩
    go_wp2
    go_ret
    exact ⟨rfl, Below.refl _ _⟩
  rw [decide_eq_false hbig] at Hbig
  have Hd := hide (drawSetOf_any w _ cd hr (by omega))
  clear hr
  go_enter Try.func3, Try.ntmps3
  go_wp2_with fail
  refine Hbig.out.mono ?_
  rintro e w ⟨rfl, rfl⟩
  go_wp2_with fail
  refine Hd.out.mono ?_
  rintro en w2 ⟨e, v, l, rfl, hrl, hl6, hsm, hB2⟩
  have hall : ∀ a ∈ l, a.1.size ≤ maxLen ∧ a.2.2.2.2.length ≤ 4000000 := fun a ha => by have := hsm a ha; unfold maxLen; omega
  obtain ⟨av, cv2, rfl⟩ := hrl.shape
  obtain ⟨w3, hw3⟩ : ∃ w3, w2.alloc (.cells #[.int .i64 e, .slice av l.length cv2] 26) = w3 := ⟨_, rfl⟩
  have b3 : Below w2.heap.size w2 w3 := by rw [← hw3]; exact (Below.refl _ w2).alloc (Nat.le_refl _) _
  have kL : Blk w3 w2.heap.size 26 [.int .i64 e, .slice av l.length cv2] := by rw [← hw3]; exact Blk.new w2 _ _
  have hB3 := hB2.trans (b3.mono hB2.size)
  have r3 := hrl.below b3 (Nat.le_refl _)
  have HI := hide (implSetOf_any e (.slice av l.length cv2) l w3 r3 (by omega) hall)
  have HK := hide (fun w h => specLedgerOk_any e (.slice av l.length cv2) l w h (by omega) hall)
  have c0 := kL.cell 0
  have c1 := kL.cell 1
  simp only [List.getElem?_cons_zero, List.getElem?_cons_succ] at c0 c1
  unfold lgV at HI HK ⊢
  have hXl : (setA e l).length ≤ 4000000 := by have := setA_len e l; omega
  have Hx : Hid (setA e l = if lgB e l = true then setV l else []) := hide rfl
  have Hsz : Hid (∀ p ∈ setV l, p.1.size ≤ maxLen) := hide (fun p hp => by
    obtain ⟨a, ha, rfl⟩ := List.mem_map.1 hp
    exact (hall a (List.mem_filter.1 ha).1).1)
  have Hrl := hide hrl
  clear hrl hall hsm hB2
  generalize hX : setA e l = X at HI hXl Hx
  clear hX
  go_wp2_with fail
  refine HI.out.mono ?_
  rintro en w4 ⟨v4, rfl, o4, hb4⟩
  have hB4 := hB3.trans (hb4.mono hB3.size)
  have r4 := r3.below hb4 (Nat.le_refl _)
  have k4 := kL.below hb4 kL.lt
  have d0 := k4.cell 0
  have d1 := k4.cell 1
  simp only [List.getElem?_cons_zero, List.getElem?_cons_succ] at d0 d1
  obtain ⟨a4, c4, rfl⟩ := o4.rd.shape
  have O4 := hide o4.rd
  clear c0 c1 kL o4
  cases hok : lgB e l
  · have HK4 := hide (HK.out _ r4)
    rw [hok] at HK4 Hx
    rw [if_neg (by simp)] at Hx
    have hx := Hx.out
    subst hx
    clear hok
    go_wp2_with fail
    refine HK4.out.mono ?_
    rintro en w5 ⟨rfl, hb5⟩
    have hB5 := hB4.trans (hb5.mono hB4.size)
    go_wp2
    go_ret
    exact ⟨rfl, hB5⟩
  · have HK4 := hide (HK.out _ r4)
    rw [hok] at HK4 Hx
    rw [if_pos rfl] at Hx
    have Hhas := hide (set_has hok)
    have Hright := hide (set_right hok)
    have Htot := hide (stk_total l)
    have hx := Hx.out
    subst hx
    clear hok
    have HS := hide (fun s w h => lawInSet_any (.slice a4 (setV l).length c4) (setV l) s w h hXl)
    have HT := hide (fun w h => implTotalOf_any (.slice a4 (setV l).length c4) (setV l) w h hXl)
    have HO := hide (fun w h => implSetOk_any (.slice a4 (setV l).length c4) (setV l) w h hXl Hsz.out)
    go_wp2_with fail
    refine HK4.out.mono ?_
    rintro en w5 ⟨rfl, hb5⟩
    have hB5 := hB4.trans (hb5.mono hB4.size)
    have K5 := hide (k4.below hb5 k4.lt)
    have O5 := hide (O4.out.below hb5 (Nat.le_refl _))
    have R5 := hide (r4.below hb5 (Nat.le_refl _))
    have HB5 := hide hB5
    generalize setV l = S at Hhas Hright Htot HS HT HO hXl O5 O4 Hsz Hx HI
    clear d0 d1 k4 O4 hb5 hB5 hB4 hb4 r4 r3 b3 hB3 HK4 HK HI Hx Hsz Hd Hrl
    go_wp2
    go_loopw [5, 6] (fun nv iv wr => ∃ i : Nat, i ≤ l.length ∧ iv = .int .i64 (i : Int) ∧ nv = .int .i64 ((l.take i).foldl stk 0) ∧ Below w5.heap.size w5 wr) (fun _ iv _ => l.length - (intOf iv).toNat)
    case atStart => exact ⟨0, Nat.zero_le _, rfl, rfl, Below.refl _ _⟩
    case round =>
      obtain ⟨i, hi, rfl, rfl, hb⟩ := hrel
      have kr := K5.out.below hb K5.out.lt
      have d0 := kr.cell 0
      have d1 := kr.cell 1
      simp only [List.getElem?_cons_zero, List.getElem?_cons_succ] at d0 d1
      by_cases hlt : i < l.length
      · obtain ⟨b, off, lv, rfl, hc1, hc2, hbw, hat, -⟩ := R5.out.atV hlt
        have hli : (i : Int) < (l.length : Int) := by omega
        obtain ⟨q0, -, -, q3, -⟩ := hat.below hb hbw
        have Hsn := hide (stk_snoc l i hlt)
        have HS4 := hide (HS.out l[i].1 wr (O5.out.below hb (Nat.le_refl _)))
        rw [Hhas.out i hlt] at HS4
        have hbr : b < wr.heap.size := Nat.lt_of_lt_of_le hbw hb.size
        clear hat
        generalize (l.take i).foldl stk 0 = N at Hsn ⊢
        generalize l[i] = ak at q0 q3 Hsn HS4
        obtain ⟨nm, fr, no, st, ls⟩ := ak
        simp only at q0 q3 HS4
        have Hstk : Hid (stk N (nm, fr, no, st, ls) = if 5 ≤ st then wrap64 (N + st) else N) := hide rfl
        have hkl := kr.lt
        have Kr := hide kr
        have Hb := hide hb
        clear kr hb
        by_cases hst : 5 ≤ st
        · rw [decide_eq_true hst] at HS4
          have Hnx := hide (Hsn.out.trans (Hstk.out.trans (if_pos hst)))
          clear Hsn Hstk
          go_wp2_with fail
          refine HS4.out.mono ?_
          rintro en w6 ⟨rfl, hb6⟩
          have f3 := (hb6.cell (p := ⟨b, off + i * 5 + 3, none⟩) hbr).trans q3
          have k6 := Kr.out.below hb6 Kr.out.lt
          have x1 := k6.cell 1
          simp only [List.getElem?_cons_zero, List.getElem?_cons_succ] at x1
          have HB6 := hide (Hb.out.trans (hb6.mono Hb.out.size))
          clear hb6 q0 q3 d0 d1 k6
          go_wp2
          go_roundw
          case rel => exact ⟨i + 1, by omega, by go_num, by rw [Hnx.out], HB6.out⟩
          case measure => simp [intOf]; omega
        · rw [decide_eq_false hst] at HS4
          have Hnx := hide (Hsn.out.trans (Hstk.out.trans (if_neg hst)))
          clear Hsn Hstk
          go_wp2_with fail
          refine HS4.out.mono ?_
          rintro en w6 ⟨rfl, hb6⟩
          have f3 := (hb6.cell (p := ⟨b, off + i * 5 + 3, none⟩) hbr).trans q3
          have k6 := Kr.out.below hb6 Kr.out.lt
          have x1 := k6.cell 1
          simp only [List.getElem?_cons_zero, List.getElem?_cons_succ] at x1
          have HB6 := hide (Hb.out.trans (hb6.mono Hb.out.size))
          clear hb6 q0 q3 d0 d1 k6
          go_wp2
          go_roundw
          case rel => exact ⟨i + 1, by omega, by go_num, by rw [Hnx.out], HB6.out⟩
          case measure => simp [intOf]; omega
      · have ei : i = l.length := by omega
        subst ei
        rw [List.take_length]
        have HT4 := hide (HT.out wr (O5.out.below hb (Nat.le_refl _)))
        rw [Htot.out] at HT4
        have O6 := hide (O5.out.below hb (Nat.le_refl _))
        generalize l.foldl stk 0 = N at HT4 ⊢
        have HBr := hide (HB5.out.trans (hb.mono HB5.out.size))
        clear hb kr
        go_wp2_with fail
        refine HT4.out.mono ?_
        rintro en w6 ⟨rfl, hb6⟩
        have HB6 := hide (HBr.out.trans (hb6.mono HBr.out.size))
        by_cases hz : S.length = 0
        · have hz2 : (S.length : Int) = 0 := by omega
          clear hb6
          go_wp2
          go_ret
          exact ⟨rfl, HB6.out⟩
        · have hz2 : ¬ (S.length : Int) = 0 := by omega
          have hzb : ((S.length : Int) == 0) = false := by rw [beq_eq_false_iff_ne]; exact hz2
          have HO6 := hide (HO.out w6 (O6.out.below hb6 (Nat.le_refl _)))
          rw [Hright.out (fun e => hz (by rw [e]; rfl))] at HO6
          clear hb6
          go_wp2_with fail
          refine HO6.out.mono ?_
          rintro en w7 ⟨rfl, hb7⟩
          have HB7 := hide (HB6.out.trans (hb7.mono HB6.out.size))
          go_wp2
          go_ret
          exact ⟨rfl, HB7.out⟩

set_option maxRecDepth 100000 in
theorem fnSets_lifted (os : Os) (started : os.Started) (H : Type) (enc : TypeId × Value → H) :
    ReturnsInHanded {} Try.checked os 3 .any (Rows.fnSetsSpec.pre6 enc Try.prog Try.f3 Rows.fnSetsRow.domain false) (Rows.fnSetsSpec.post enc Try.prog Try.f3 false true false false) := by
  refine returnsInHanded_of_change (C := Try.checked) fnSets_own started (by kernel_rfl) Try.func3
    (ChangeSpec.witness6 (enc := enc) (C := Try.checked) false ⟨#[], #[.slice none 0 0], []⟩ 8 (by kernel_rfl) (by kernel_rfl) (by kernel_rfl) (by kernel_rfl)) ?_
  intro W base args ds gs before hval0 hW hcnd _
  have hval : ∀ (j : Nat) t v, Try.f3.params[j]? = some t → args[j]? = some v → Value.okWide Try.prog W .any base t v := hval0
  have hW' := hW
  obtain ⟨p, q, hA0, hV, rfl, hfz, hnd⟩ := hW
  have hA : DataW.TrodAll enc Try.prog W 0 (fun _ => true) true Try.f3.params.toList args.toList ds p := hA0
  rw [Try.params3] at hA hval
  obtain ⟨v0, vs0, d0, ds0, p0, q0, hargs, rfl, rfl, h0, r0⟩ := trodAll_cons hA
  obtain ⟨rfl, rfl, rfl⟩ := trodAll_nil r0
  obtain rfl : args = #[v0] := by cases args; simp_all
  obtain ⟨rfl, rfl⟩ := trodVars_none hV
  obtain ⟨a0, len0, cap0, rfl⟩ := okWide_slice Try.underlying22 (hval 0 22 v0 rfl rfl)
  have k0 := h0
  have lt0 : ∀ x ∈ p0, x.block < W.heap.size := by obtain ⟨m, hm⟩ := k0; exact DataW.trod_lt m _ _ _ hm
  obtain ⟨z0, w0⟩ : ∃ zs, IsRow .u8 W a0 len0 cap0 zs := by
    obtain ⟨fuel, hf⟩ := h0
    rcases open_ints Try.underlying22 Try.underlying5 (by kernel_rfl) hf with ⟨hcs, _⟩ | ⟨x, l, c, zs, hcs, _, hl, hm, hz, _, hcell, hwz⟩
    · simp [Value.cells] at hcs
      obtain ⟨rfl, rfl, rfl⟩ := hcs
      exact ⟨[], .inl ⟨rfl, rfl, rfl, rfl⟩⟩
    · simp [Value.cells] at hcs
      obtain ⟨rfl, rfl, rfl⟩ := hcs
      exact ⟨zs, .inr ⟨_, rfl, hl, hm, by simpa using hz, hcell, hwz⟩⟩
  clear hA0 hval0
  refine (fnSets_walk a0 len0 cap0 z0 W w0).mono fun e W' ⟨he, bel⟩ => ?_
  subst he
  exact ⟨_, rfl, _, _, _, [], _, [], hW', trodAll_mk1 (shut_bool Try.underlying4 _), (trodAll_cons_mk (Below.trod fnSets_laidOut (by kernel_rfl) (of_decide_eq_true (by kernel_rfl)) k0 bel lt0) trodAll_mk0), rfl, bel.frame _, fun h => by cases h⟩

theorem fnSets_holds : Rows.FnSetsSaid :=
  OpenClaim.holds_of_wide 3 Try.f3 rfl rfl rfl rfl rfl rfl rfl ⟨rfl, rfl, rfl, rfl, rfl⟩ rfl rfl rfl rfl rfl (by kernel_rfl) Try.func3 (by kernel_rfl)
    (of_decide_eq_true (by kernel_rfl)) (by unfold Func.isWrapper; first | (rw [if_pos (by decide +kernel)]; kernel_rfl) | (rw [if_neg (by decide +kernel)]; exact ⟨rfl, rfl⟩))
    (fun os started H enc _ => fnSets_lifted os started H enc)

end Go.Proofs.Ytoejikphbienfaa
