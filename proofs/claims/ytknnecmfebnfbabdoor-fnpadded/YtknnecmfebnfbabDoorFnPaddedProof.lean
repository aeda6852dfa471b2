/- Whatever bytes are drawn, padded they begin with these, a byte 128 is behind them, they are a multiple of 64 and no more than needed, and a digest has 32 bytes and is the model's: the law FnPadded returns true at every code, with no condition but that the two package-level tables read as the program's text lays them. -/
import Derived.Test.YtknnecmfebnfbabDoorRows
import Derived.Test.YtknnecmfebnfbabDoorTie
import Derived.Test.YtknnecmfebnfbabDoorCards
import Derived.Test.YtknnecmfebnfbabDoorRow
import Derived.Test.YtknnecmfebnfbabDoorBig
import Derived.Test.YtknnecmfebnfbabDoorDrawPad
import Derived.Test.YtknnecmfebnfbabDoorDigImpl
import Derived.Test.YtknnecmfebnfbabDoorDigSpec
import Derived.Test.YtknnecmfebnfbabDoorDoorLaid
import Derived.WalkKit
import Derived.ProofKit
import Derived.OpenShut
import Derived.ShutString
import Derived.ChangeOld
import Derived.Below
import Derived.OpenVars
import Derived.SevenTiedAt
namespace Go.Proofs.YtknnecmfebnfbabDoor
open Go.ChangeShapes Go.WideShapes Go.ChangeAt Go.RowKit
set_option linter.unusedVariables false

theorem fnPadded_own : ownKnob Tryd.prog.godebug = none := by kernel_rfl
theorem fnPadded_laidOut : laidOutB Tryd.prog = true := by kernel_rfl

theorem padB_at (l : List UInt8) (k : Nat) (h : k < l.length) : (padB l)[k]'(by rw [padB_len]; omega) = l[k] := by
  unfold padB
  rw [List.getElem_append_left (by simp; omega), List.getElem_append_left h]
theorem padB_mark (l : List UInt8) : (padB l)[l.length]'(by rw [padB_len]; omega) = 128 := by
  unfold padB
  rw [List.getElem_append_left (by simp), List.getElem_append_right (Nat.le_refl _)]
  simp

theorem rd_src2 {w : World} {av : Option Addr} {n cv : Nat} {b : List UInt8} (h : RdB w (.slice av n cv) b) (hn : b.length = n) (h0 : 0 < n) : ∃ bb off, av = some ⟨bb, off, none⟩ ∧ ∀ i (h : i < b.length), w.cell? ⟨bb, off + i, none⟩ = some (.int .u8 (b[i].toNat : Int)) := by
  rcases h with ⟨a, cap, hv, rfl, -⟩ | ⟨bb, off, cap, hne, hv, h1, h2, h3, h4⟩
  · simp at hn; omega
  · simp only [Value.slice.injEq] at hv
    exact ⟨bb, off, hv.1, h4⟩

set_option maxRecDepth 20000 in
set_option maxHeartbeats 2000000 in
theorem fnPadded_walk (a0 : Option Addr) (len0 cap0 : Nat) (z0 : List Int) (w : World) (hgl : Gl w) (w0 : IsRow .u8 w a0 len0 cap0 z0) :
    Calls Tryd.prog 3 #[.slice a0 len0 cap0] w fun e w' => e = .returned (.bool true) ∧ Below w.heap.size w w' := by
  obtain ⟨l, rfl, hr⟩ := w0.rd
  clear w0
  have hcap : l.length ≤ 9223372036854775807 := by
    rcases hr with ⟨_, _, _, e, _⟩ | ⟨_, _, cap, _, _, h1, h2, _⟩
    · subst e; simp
    · unfold maxLen at h2; omega
  have Hbig := hide (big_any _ l w hr hcap)
  by_cases hbig : 1048576 < l.length
  · rw [decide_eq_true hbig] at Hbig
    clear hr hgl
    go_enter Tryd.func3, Tryd.ntmps3
    go_wp2_with fail
    refine Hbig.out.mono ?_
    rintro e w ⟨rfl, rfl⟩
    go_wp2
    go_ret
    exact ⟨rfl, Below.refl _ _⟩
  · rw [decide_eq_false hbig] at Hbig
    have Hd := hide (drawPadded_any w _ l hr (by omega))
    have Hgl := hide hgl
    clear hr hgl
    go_enter Tryd.func3, Tryd.ntmps3
    go_wp2_with fail
    refine Hbig.out.mono ?_
    rintro e w ⟨rfl, rfl⟩
    go_wp2_with fail
    refine Hd.out.mono ?_
    rintro e w1 ⟨v1, b, rfl, ho1, hb130, hB1⟩
    have Hr1 := hide ho1.rd
    clear ho1 Hbig Hd
    go_wp2_with fail
    refine (implPadded_any _ b _ Hr1.out (by omega)).mono ?_
    rintro e w2 ⟨v2, rfl, ho2, hb2⟩
    have hB2 : Below w.heap.size w w2 := hB1.trans (hb2.mono hB1.size)
    have hr2 := Hr1.out.below hb2 (Nat.le_refl _)
    have hPl := padB_len b
    have hPz := padZ_lt b.length
    have hPq := padB_q b
    have Hpa := hide (padB_at b)
    have hmk := padB_mark b
    obtain ⟨g2, c2, hv2, hc21, hc22⟩ := ho2.shape (by intro e; rw [e] at hPl; simp at hPl)
    rw [hv2] at ho2
    have hcm := (ho2.cellAt' rfl b.length (by rw [hPl]; omega)).1
    rw [hmk] at hcm
    have Hca := hide (fun k (hk : k < b.length) => (ho2.cellAt' rfl k (by rw [hPl]; omega)).1.trans (by rw [padB_at b k hk]))
    obtain ⟨D, hD⟩ : ∃ D, bytesS (shaFold (padB b) (padQ b.length)) = D := ⟨_, rfl⟩
    have hDl : D.length = 32 := by rw [← hD]; exact bytesS_len _
    have HS := hide (fun w hr => specDigest_any v1 b w hr (by omega))
    have HI := hide (fun w hr hg => implDigest_any v1 b w hr (by omega) hg)
    rw [hD] at HS HI
    rw [hv2]
    generalize hN : (padB b).length = N at hPl hPq hc21
    have hN1 : ((N : Int) % 64 != 0) = false := by rw [bne_eq_false_iff_eq]; omega
    obtain ⟨n, hn⟩ : ∃ n, b.length = n := ⟨_, rfl⟩
    have hN2 : (n : Int) + 9 ≤ (N : Int) := by omega
    have hN3 : (N : Int) ≤ (n : Int) + 72 := by omega
    have hN4 : (n : Int) < (N : Int) := by omega
    have hN5 : n < N := by omega
    have hn130 : n < 130 := by omega
    have h128 : ((((128 : UInt8).toNat : Nat) : Int)) = 128 := rfl
    rw [h128, hn] at hcm
    have Hn := hide hn
    obtain ⟨av, cv, hv1⟩ := hr2.shape
    rw [hn] at hv1
    rw [hv1] at HS HI hr2
    have Hr2 := hide hr2
    have HB2 := hide hB2
    rw [hv1]
    clear hD hmk ho2 hv2 hPl hPz hPq hN hn hv1 hr2 h128 Hpa hb2 hB2 hbig
    go_wp2
    go_loopw [5] (fun iv wr => ∃ k : Nat, k ≤ n ∧ iv = .int .i64 (k : Int) ∧ Sm w2 wr) (fun iv _ => n - (intOf iv).toNat)
    case atStart => exact ⟨0, Nat.zero_le _, rfl, Sm.refl _⟩
    case round =>
      obtain ⟨k, hk, rfl, hs⟩ := hrel
      by_cases hlt : k < n
      · have hkn : (k : Int) < (n : Int) := by omega
        have hkN : (k : Int) < (N : Int) := by omega
        obtain ⟨bb, off, rfl, hcell⟩ := rd_src2 Hr2.out Hn.out (by omega)
        have cP := (hs.cell ⟨g2, k, none⟩).trans (Hca.out k (by have := Hn.out; omega))
        have cB := (hs.cell ⟨bb, off + k, none⟩).trans (hcell k (by have := Hn.out; omega))
        have Hs := hide hs
        generalize (b[k]'(by have := Hn.out; omega)).toNat = x at cP cB
        clear hs hcell
        go_wp2
        go_quiet (fail)
        go_wp2
        go_roundw
        case rel => exact ⟨k + 1, by omega, by go_num, Hs.out.drewN _⟩
        case measure => simp [intOf]; omega
      · have ek : k = n := by omega
        have hnk : ¬ (k : Int) < (n : Int) := by omega
        have hB3 : Below w.heap.size w wr := HB2.out.trans (hs _)
        have hr3 := Hr2.out.below (hs _) (Nat.le_refl _)
        clear hcm
        go_wp2_with fail
        refine (HI.out _ hr3 (Hgl.out.below hB3 (Nat.le_refl _))).mono ?_
        rintro e w4 ⟨rfl, hb4⟩
        have hB4 : Below w.heap.size w w4 := hB3.trans (hb4.mono hB3.size)
        have hr4 := hr3.below hb4 (Nat.le_refl _)
        go_wp2_with fail
        refine (HS.out _ hr4).mono ?_
        rintro e w5 ⟨rfl, hb5⟩
        have hB5 : Below w.heap.size w w5 := hB4.trans (hb5.mono hB4.size)
        go_wp2
        go_ret
        exact ⟨rfl, hB5⟩

theorem fnPadded_doorMet (os : Os) (args : Array Value) : laidMetH Tryd.prog Rows.fnPaddedRow.laid ((World.doorLaid Tryd.prog 400 os).forCall (fun _ _ => 0) ⟨#[], args, []⟩).memory :=
  laidMetH_of_parts3 (fuel := 8) (laidMet_of_run' 8 (by kernel_rfl) (by kernel_rfl)) (by kernel_rfl) (by kernel_rfl)
theorem fnPadded_gl {W : World} (h : laidMetH Tryd.prog Rows.fnPaddedRow.laid W) : Gl W := by
  rw [MakeChecks.laidMetH_plain _ _ _ (by kernel_rfl)] at h
  exact gl_of_reads (Lib.laidMet.reads h (.head _)) (Lib.laidMet.reads h (.tail _ (.head _)))

set_option maxRecDepth 100000 in
theorem fnPadded_lifted (os : Os) (started : os.Started) (H : Type) (enc : TypeId × Value → H) :
    ReturnsInHanded {} Tryd.checked os 3 .any (fun w args => (Rows.fnPaddedSpec.pre enc Tryd.prog Tryd.f3 [] false w args ∧ laidMetH Tryd.prog Rows.fnPaddedRow.laid w) ∧ sizedMet enc Tryd.prog Tryd.f3 (OpenSpec.ofChange Rows.fnPaddedSpec) false w args)
      (Rows.fnPaddedSpec.post enc Tryd.prog Tryd.f3 false true false false) := by
  refine returnsInHanded_of_change_and (C := Tryd.checked) (X := fun w _ => laidMetH Tryd.prog Rows.fnPaddedRow.laid w) (fun _ _ _ hh h => h.of_heap hh) fnPadded_own started (by kernel_rfl) Tryd.func3
    (ChangeSpec.witness_shaped (enc := enc) (C := Tryd.checked) (os := os) (X := fun w _ => laidMetH Tryd.prog Rows.fnPaddedRow.laid w) false (World.doorLaid Tryd.prog 400 os) #[.slice none 0 0] 8 rfl (World.shaped_of_RefB (by kernel_rfl) (by kernel_rfl)) (by kernel_rfl) (by kernel_rfl) (by kernel_rfl) (fnPadded_doorMet os _)) ?_
  intro W base args ds gs before hval0 hW _ _ hL _
  have hval : ∀ (j : Nat) t v, Tryd.f3.params[j]? = some t → args[j]? = some v → Value.okWide Tryd.prog W .any base t v := hval0
  have hW' := hW
  obtain ⟨p, q, hA0, hV, rfl, hfz, hnd⟩ := hW
  have hV2 := hV
  obtain ⟨_, _, _, _, _, _, _, _, _, _, _, _, rfl, _, _, _, _, _, _, _, _, _⟩ := trodVars_two hV
  have hA : DataW.TrodAll enc Tryd.prog W 0 (fun _ => true) true Tryd.f3.params.toList args.toList ds p := hA0
  rw [Tryd.params3] at hA hval
  obtain ⟨v0, vs0, d0, ds0, p0, q0, hargs, rfl, rfl, h0, r0⟩ := trodAll_cons hA
  obtain ⟨rfl, rfl, rfl⟩ := trodAll_nil r0
  obtain rfl : args = #[v0] := by cases args; simp_all
  obtain ⟨a0, len0, cap0, rfl⟩ := okWide_slice Tryd.underlying22 (hval 0 22 v0 rfl rfl)
  have k0 := h0
  have lt0 : ∀ x ∈ p0, x.block < W.heap.size := by obtain ⟨m, hm⟩ := k0; exact DataW.trod_lt m _ _ _ hm
  obtain ⟨z0, w0⟩ : ∃ zs, IsRow .u8 W a0 len0 cap0 zs := by
    obtain ⟨fuel, hf⟩ := h0
    rcases open_ints Tryd.underlying22 Tryd.underlying5 (by kernel_rfl) hf with ⟨hcs, _⟩ | ⟨x, l, c, zs, hcs, _, hl, hm, hz, _, hcell, hwz⟩
    · simp [Value.cells] at hcs
      obtain ⟨rfl, rfl, rfl⟩ := hcs
      exact ⟨[], .inl ⟨rfl, rfl, rfl, rfl⟩⟩
    · simp [Value.cells] at hcs
      obtain ⟨rfl, rfl, rfl⟩ := hcs
      exact ⟨zs, .inr ⟨_, rfl, hl, hm, by simpa using hz, hcell, hwz⟩⟩
  clear hA0 hval0
  refine (fnPadded_walk a0 len0 cap0 z0 W (fnPadded_gl hL) w0).mono fun e W' ⟨he, bel⟩ => ?_
  subst he
  exact ⟨_, rfl, _, _, _, [], _, _, hW', trodAll_mk1 (shut_bool Tryd.underlying4 _), (trodAll_cons_mk (Below.trod fnPadded_laidOut (by kernel_rfl) (of_decide_eq_true (by kernel_rfl)) k0 bel lt0) trodAll_mk0), Below.trodVars fnPadded_laidOut bel (by kernel_rfl) hV2, bel.frame _, fun h => by cases h⟩

theorem fnPadded_holds : Rows.FnPaddedSaid :=
  OpenClaim.holds_of_wide 3 Tryd.f3 rfl rfl rfl rfl rfl rfl rfl ⟨rfl, rfl, rfl, rfl, rfl⟩ rfl rfl rfl rfl rfl (by kernel_rfl) Tryd.func3 (by kernel_rfl)
    (of_decide_eq_true (by kernel_rfl)) (by unfold Func.isWrapper; first | (rw [if_pos (by decide +kernel)]; kernel_rfl) | (rw [if_neg (by decide +kernel)]; exact ⟨rfl, rfl⟩))
    (fun os started H enc _ => fnPadded_lifted os started H enc)

/-- The card: the two variables are tied to the program's text by the given tie. -/
theorem fnPadded_card : Rows.FnPaddedCardSaid :=
  Claim7.holds_tied_plain_at .later [] [.data, .data] true Rows.fnPaddedCard.stood.harness false
    fnPadded_holds (fun _ h => by cases h) (by kernel_rfl) (fun _ h => by cases h) fnPadded_row_tie rfl ⟨rfl, rfl⟩ (by kernel_rfl) rfl
    (fun f fn hf hfn => by
      obtain rfl : f = 3 := Option.some.inj ((show Tryd.prog.funcNamed Rows.fnPaddedRow.func = some 3 by kernel_rfl).symm.trans hf) |>.symm
      obtain rfl : fn = Tryd.f3 := (Option.some.inj (Tryd.func3.symm.trans hfn)).symm
      exact ⟨by kernel_rfl, fun j t ht => by
        rw [Tryd.params3] at ht
        have hm : t ∈ [22] := by simpa using Array.mem_of_getElem? ht
        have hall : ([22].all fun u => !Tryd.prog.wantsStandIn u) = true := by kernel_rfl
        exact (show Tryd.prog.wantsStandIn t = false by simpa using List.all_eq_true.1 hall t hm)⟩)
    (by kernel_rfl)

end Go.Proofs.YtknnecmfebnfbabDoor
