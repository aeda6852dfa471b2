/- Names that are drawn and right rise, and each is one; one that is no name makes them wrong: the law FnNames returns true at every code, with no condition. -/
import Derived.Test.YtemmindofiecjaaRows
import Derived.Test.YtemmindofiecjaaRow
import Derived.Test.YtemmindofiecjaaBig
import Derived.Test.YtemmindofiecjaaDrawNames
import Derived.Test.YtemmindofiecjaaNamesOk
import Derived.WalkKit
import Derived.ProofKit
import Derived.OpenShut
import Derived.ShutString
import Derived.ChangeOld
import Derived.Below
import Derived.SliceStrings
namespace Go.Proofs.Ytemmindofiecjaa
open Go.ChangeShapes Go.WideShapes Go.ChangeAt Go.RowKit
open Go.ChangeMaps (open_string shut_string)
set_option linter.unusedVariables false

theorem fnNames_own : ownKnob Try.prog.godebug = none := by kernel_rfl
theorem fnNames_laidOut : laidOutB Try.prog = true := by kernel_rfl

theorem notA : nmB ⟨#[65]⟩ = false := by decide
theorem nms_A (ls : List ByteArray) : nmsB (ls ++ [⟨#[65]⟩]) = false := by
  refine nms_no (ls ++ [⟨#[65]⟩]) ls.length (by simp) ?_
  have e := okAt_eq (ls ++ [(⟨#[65]⟩ : ByteArray)]) ls.length ⟨#[65]⟩ (by simp) (by simp)
  rw [e, notA]
  rfl
theorem nms_each (ls : List ByteArray) (h : nmsB ls = true) (k : Nat) (hk : k < ls.length) : okAt ls k = true := by
  unfold nmsB at h
  rw [Bool.and_eq_true, List.all_eq_true] at h
  exact h.1 k (by simpa using hk)

set_option maxRecDepth 20000 in
set_option maxHeartbeats 2000000 in
theorem fnNames_walk (a0 : Option Addr) (len0 cap0 : Nat) (z0 : List Int) (w : World) (w0 : IsRow .u8 w a0 len0 cap0 z0) :
    Calls Try.prog 5 #[.slice a0 len0 cap0] w fun e w' => e = .returned (.bool true) ∧ Below w.heap.size w w' := by
  obtain ⟨l, rfl, hr⟩ := w0.rd
  clear w0
  have hcap : l.length ≤ 9223372036854775807 := by
    rcases hr with ⟨_, _, _, e, _⟩ | ⟨_, _, cap, _, _, h1, h2, _⟩
    · subst e; simp
    · unfold maxLen at h2; omega
  have Hbig := hide (big_any _ l w hr hcap)
  by_cases hbig : 1048576 < l.length
  · rw [decide_eq_true hbig] at Hbig
    clear hr
    go_enter Try.func5, Try.ntmps5
    go_wp2_with fail
    refine Hbig.out.mono ?_
    rintro e w' ⟨rfl, rfl⟩
    go_wp2
    go_ret
    exact ⟨rfl, Below.refl _ _⟩
  · rw [decide_eq_false hbig] at Hbig
    have Hd := hide (drawNamesOk_any w _ l hr (by omega))
    clear hr
    go_enter Try.func5, Try.ntmps5
    go_wp2_with fail
    refine Hbig.out.mono ?_
    rintro e w' ⟨rfl, rfl⟩
    go_wp2_with fail
    refine Hd.out.mono ?_
    rintro e w1 ⟨v1, ls, rfl, ho1, hl21, hsz, hB1⟩
    have hsm : ∀ s ∈ ls, s.size ≤ maxLen := fun s hs => by have := hsz s hs; unfold maxLen; omega
    have Hsm := hide hsm
    have HsA : Hid (∀ s ∈ ls ++ [⟨#[65]⟩], s.size ≤ maxLen) := hide (fun s hs => by
      rcases List.mem_append.1 hs with h | h
      · exact hsm s h
      · simp at h; rw [h]; show 1 ≤ maxLen; unfold maxLen; omega)
    have HIA := hide (fun v w hr => implNamesOk_any v (ls ++ [⟨#[65]⟩]) w hr (by simp; omega) HsA.out)
    rw [nms_A ls] at HIA
    have Heach := hide (nms_each ls)
    have HI := hide (implNamesOk_any _ ls w1 ho1.rd (by omega) hsm)
    have HS := hide (specNamesOk_any _ ls w1 ho1.rd (by omega) hsm)
    have Ho1 := hide ho1
    clear hsm hsz ho1
    obtain ⟨B, hB⟩ : ∃ B, nmsB ls = B := ⟨_, rfl⟩
    rw [hB] at HI HS
    have HB := hide hB
    clear hB
    go_wp2_with fail
    refine HI.out.mono ?_
    rintro e w2 ⟨rfl, rfl⟩
    go_wp2_with fail
    refine HS.out.mono ?_
    rintro e w3 ⟨rfl, hs3⟩
    have hB3 : Below w'.heap.size w' w3 := hB1.trans (hs3 _)
    have hrd := Ho1.out.rd.below (hs3 _) (Nat.le_refl _)
    have Hrd := hide hrd
    have Hs3 := hide hs3
    clear hs3
    rcases hrd with ⟨a, cap, hv, he, _⟩ | ⟨b, off, cap, h0, hv, h1, h2, h3, h4⟩
    · rw [hv] at Hrd ⊢
      subst he
      clear hv
      go_wp2
      refine wp_loop_rounds 1 ?_
      rw [rounds_succ]
      have Hrq := Hrd
      have hBq := hB3
      have hb0 : Below w3.heap.size w3 (w3.alloc (.cells #[] 9)) := (Below.refl _ _).alloc (Nat.le_refl _) _
      have Ho0 := hide (own_nilS w3 w3.heap.size (Nat.le_refl _))
      have Hr0 := hide (Hrq.out.below hb0 (Nat.le_refl _))
      have Hb0 := hide (hBq.trans (hb0.mono hBq.size))
      have hsq := hBq.size
      clear hb0 hBq
      go_wp2_with (first | (at_builtin; refine app_ownS _ rfl _ _ rfl w3.heap.size _ _ [] [⟨#[65]⟩] rfl rfl (hoA.alloc _) (rd_one_str' _ _ _ (by simp)) (by simp; try omega) (by simp; omega) ?_; intro vB wB hoB hbB) | (at_builtin; refine app_ownS _ rfl _ _ rfl w3.heap.size _ _ [] [] rfl rfl Ho0.out Hr0.out (by simp; try omega) (by simp) ?_; intro vA wA hoA hbA; have hszA := hbA.size; simp only [World.size_alloc] at hszA; rw [List.nil_append] at hoA) | (go_at_call 18; refine (HIA.out _ _ hoB.rd).mono ?_; rintro e wC ⟨rfl, rfl⟩))
      go_ret
      exact ⟨rfl, (((Hb0.out.trans (hbA.mono hsq)).alloc (by omega) _).trans (hbB.mono hsq))⟩
    · rw [hv] at Hrd ⊢
      have hBs := HB.out
      clear hv
      unfold maxLen at h2
      have H4 := hide h4
      clear h4
      cases B
      · have hpos : 0 < ls.length := List.length_pos_iff.2 h0
        have hposI : (0 : Int) < (ls.length : Int) := by omega
        go_wp2
        refine wp_loop_rounds 1 ?_
        rw [rounds_succ]
        have Hrq := Hrd
        have hBq := hB3
        have hb0 : Below w3.heap.size w3 (w3.alloc (.cells #[] 9)) := (Below.refl _ _).alloc (Nat.le_refl _) _
        have Ho0 := hide (own_nilS w3 w3.heap.size (Nat.le_refl _))
        have Hr0 := hide (Hrq.out.below hb0 (Nat.le_refl _))
        have Hb0 := hide (hBq.trans (hb0.mono hBq.size))
        have hsq := hBq.size
        clear hb0 hBq
        go_wp2_with (first | (at_builtin; refine app_ownS _ rfl _ _ rfl w3.heap.size _ _ ls [⟨#[65]⟩] rfl rfl (hoA.alloc _) (rd_one_str' _ _ _ (by simp)) (by simp; try omega) (by simp; omega) ?_; intro vB wB hoB hbB) | (at_builtin; refine app_ownS _ rfl _ _ rfl w3.heap.size _ _ [] ls rfl rfl Ho0.out Hr0.out (by simp; try omega) (by simp) ?_; intro vA wA hoA hbA; have hszA := hbA.size; simp only [World.size_alloc] at hszA; rw [List.nil_append] at hoA) | (go_at_call 18; refine (HIA.out _ _ hoB.rd).mono ?_; rintro e wC ⟨rfl, rfl⟩))
        go_ret
        exact ⟨rfl, (((Hb0.out.trans (hbA.mono hsq)).alloc (by omega) _).trans (hbB.mono hsq))⟩
      · have Hokk := hide (Heach.out HB.out)
        go_wp2
        go_loopw [5] (fun i wr => ∃ k : Nat, k ≤ ls.length ∧ i = .int .i64 k ∧ Sm w3 wr) (fun i _ => ls.length - (intOf i).toNat)
        case atStart => exact ⟨0, Nat.zero_le _, rfl, Sm.refl _⟩
        case round =>
          obtain ⟨k, hk, rfl, hsm⟩ := hrel
          have Hsmr := hide hsm
          by_cases hlt : k < ls.length
          · have hc : wr.cell? ⟨b, off + k, none⟩ = some (.string ls[k]) := (hsm.cell _).trans (H4.out k hlt)
            have hszk := Hsm.out ls[k] (List.getElem_mem hlt)
            have hok := Hokk.out k hlt
            rw [okAt_eq ls k ls[k] hlt rfl] at hok
            have hli : (k : Int) < (ls.length : Int) := by omega
            have hprev : k ≥ 1 → wr.cell? ⟨b, off + (k - 1), none⟩ = some (.string (ls.getD (k - 1) ByteArray.empty)) := fun hk1 => by
              have h := (hsm.cell _).trans (H4.out (k - 1) (by omega))
              rw [h]; rw [List.getD_eq_getElem?_getD, List.getElem?_eq_getElem (by omega)]; rfl
            clear hsm
            generalize ls[k] = s at hc hszk hok
            generalize ls.getD (k - 1) ByteArray.empty = p at hprev hok
            rw [Bool.and_eq_true] at hok
            obtain ⟨hn, hor⟩ := hok
            have Hq := hide (fun w => implNameOk_any s w hszk)
            rw [hn] at Hq
            clear hszk hn
            by_cases hk1 : k < 1
            · have hd : decide (0 < k) = false := by simp; omega
              have hd2 : decide ((0 : Int) < (k : Int)) = false := by simp; omega
              clear hprev hor
              go_wp2
              go_quiet ((go_at_call 20; exact Calls.quiet_of_same (Hq.out _)))
              go_wp2
              go_roundw
              case rel => exact ⟨k + 1, by omega, by go_num, Hsmr.out.drewN _⟩
              case measure => simp [intOf]; omega
            · have hcp := hprev (by omega)
              clear hprev
              have hpos : (0 : Int) < (k : Int) := by omega
              have hposN : 0 < k := by omega
              have hd1 : decide (0 < k) = true := by simp; omega
              have hix : ((k : Int) - 1).toNat = k - 1 := by omega
              have hix1 : (0 : Int) ≤ (k : Int) - 1 := by omega
              have hix2 : (k : Int) - 1 < (ls.length : Int) := by omega
              have hless : Op.bytesLess p.toList s.toList = true := by
                rw [decide_eq_false (by omega)] at hor
                simpa using hor
              clear hor
              go_wp2
              go_quiet ((go_at_call 20; exact Calls.quiet_of_same (Hq.out _)))
              go_wp2
              go_roundw
              case rel => exact ⟨k + 1, by omega, by go_num, Hsmr.out.drewN _⟩
              case measure => simp [intOf]; omega
          · have Hrq := hide (Hrd.out.below (hsm _) (Nat.le_refl _))
            have hBq := hB3.trans (hsm _)
            clear hsm
            have hb0 : Below wr.heap.size wr (wr.alloc (.cells #[] 9)) := (Below.refl _ _).alloc (Nat.le_refl _) _
            have Ho0 := hide (own_nilS wr wr.heap.size (Nat.le_refl _))
            have Hr0 := hide (Hrq.out.below hb0 (Nat.le_refl _))
            have Hb0 := hide (hBq.trans (hb0.mono hBq.size))
            have hsq := hBq.size
            clear hb0 hBq
            go_wp2_with (first | (at_builtin; refine app_ownS _ rfl _ _ rfl wr.heap.size _ _ ls [⟨#[65]⟩] rfl rfl (hoA.alloc _) (rd_one_str' _ _ _ (by simp)) (by simp; try omega) (by simp; omega) ?_; intro vB wB hoB hbB) | (at_builtin; refine app_ownS _ rfl _ _ rfl wr.heap.size _ _ [] ls rfl rfl Ho0.out Hr0.out (by simp; try omega) (by simp) ?_; intro vA wA hoA hbA; have hszA := hbA.size; simp only [World.size_alloc] at hszA; rw [List.nil_append] at hoA) | (go_at_call 18; refine (HIA.out _ _ hoB.rd).mono ?_; rintro e wC ⟨rfl, rfl⟩))
            go_ret
            exact ⟨rfl, (((Hb0.out.trans (hbA.mono hsq)).alloc (by omega) _).trans (hbB.mono hsq))⟩

set_option maxRecDepth 100000 in
theorem fnNames_lifted (os : Os) (started : os.Started) (H : Type) (enc : TypeId × Value → H) :
    ReturnsInHanded {} Try.checked os 5 .any (Rows.fnNamesSpec.pre6 enc Try.prog Try.f5 Rows.fnNamesRow.domain false) (Rows.fnNamesSpec.post enc Try.prog Try.f5 false true false false) := by
  refine returnsInHanded_of_change (C := Try.checked) fnNames_own started (by kernel_rfl) Try.func5
    (ChangeSpec.witness6 (enc := enc) (C := Try.checked) false ⟨#[], #[.slice none 0 0], []⟩ 8 (by kernel_rfl) (by kernel_rfl) (by kernel_rfl) (by kernel_rfl)) ?_
  intro W base args ds gs before hval0 hW hcnd _
  have hval : ∀ (j : Nat) t v, Try.f5.params[j]? = some t → args[j]? = some v → Value.okWide Try.prog W .any base t v := hval0
  have hW' := hW
  obtain ⟨p, q, hA0, hV, rfl, hfz, hnd⟩ := hW
  have hA : DataW.TrodAll enc Try.prog W 0 (fun _ => true) true Try.f5.params.toList args.toList ds p := hA0
  rw [Try.params5] at hA hval
  obtain ⟨v0, vs0, d0, ds0, p0, q0, hargs, rfl, rfl, h0, r0⟩ := trodAll_cons hA
  obtain ⟨rfl, rfl, rfl⟩ := trodAll_nil r0
  obtain rfl : args = #[v0] := by cases args; simp_all
  obtain ⟨rfl, rfl⟩ := trodVars_none hV
  obtain ⟨a0, len0, cap0, rfl⟩ := okWide_slice Try.underlying22 (hval 0 22 v0 rfl rfl)
  have k0 := h0
  have lt0 : ∀ x ∈ p0, x.block < W.heap.size := by obtain ⟨m, hm⟩ := k0; exact DataW.trod_lt m _ _ _ hm
  obtain ⟨z0, w0⟩ : ∃ zs, IsRow .u8 W a0 len0 cap0 zs := by
    obtain ⟨fuel, hf⟩ := h0
    rcases open_ints Try.underlying22 Try.underlying5 (by kernel_rfl) hf with ⟨hcs, _⟩ | ⟨x, l, c, zs, hcs, _, hl, hm, hz, _, hcell, hwz⟩
    · simp [Value.cells] at hcs
      obtain ⟨rfl, rfl, rfl⟩ := hcs
      exact ⟨[], .inl ⟨rfl, rfl, rfl, rfl⟩⟩
    · simp [Value.cells] at hcs
      obtain ⟨rfl, rfl, rfl⟩ := hcs
      exact ⟨zs, .inr ⟨_, rfl, hl, hm, by simpa using hz, hcell, hwz⟩⟩
  clear hA0 hval0
  refine (fnNames_walk a0 len0 cap0 z0 W w0).mono fun e W' ⟨he, bel⟩ => ?_
  subst he
  exact ⟨_, rfl, _, _, _, [], _, [], hW', trodAll_mk1 (shut_bool Try.underlying4 _), (trodAll_cons_mk (Below.trod fnNames_laidOut (by kernel_rfl) (of_decide_eq_true (by kernel_rfl)) k0 bel lt0) trodAll_mk0), rfl, bel.frame _, fun h => by cases h⟩

theorem fnNames_holds : Rows.FnNamesSaid :=
  OpenClaim.holds_of_wide 5 Try.f5 rfl rfl rfl rfl rfl rfl rfl ⟨rfl, rfl, rfl, rfl, rfl⟩ rfl rfl rfl rfl rfl (by kernel_rfl) Try.func5 (by kernel_rfl)
    (of_decide_eq_true (by kernel_rfl)) (by unfold Func.isWrapper; first | (rw [if_pos (by decide +kernel)]; kernel_rfl) | (rw [if_neg (by decide +kernel)]; exact ⟨rfl, rfl⟩))
    (fun os started H enc _ => fnNames_lifted os started H enc)

end Go.Proofs.Ytemmindofiecjaa
