/- Whatever texts are drawn, the root has 32 bytes, of one text it is that text's leaf, of more it is the node of the roots of its two parts: the law FnRoots returns true at every code, with no condition but that the two package-level tables read as the program's text lays them. -/
import Derived.Test.YtknnecmfebnfbabDoorRows
import Derived.Test.YtknnecmfebnfbabDoorTie
import Derived.Test.YtknnecmfebnfbabDoorCards
import Derived.Test.YtknnecmfebnfbabDoorRow
import Derived.Test.YtknnecmfebnfbabDoorBig
import Derived.Test.YtknnecmfebnfbabDoorDrawLv
import Derived.Test.YtknnecmfebnfbabDoorMerkRootI
import Derived.Test.YtknnecmfebnfbabDoorMerkPath
import Derived.Test.YtknnecmfebnfbabDoorDoorLaid
import Derived.WalkKit
import Derived.ProofKit
import Derived.OpenShut
import Derived.ShutString
import Derived.ChangeOld
import Derived.Below
import Derived.SliceStrings
import Derived.OpenVars
import Derived.SevenTiedAt
namespace Go.Proofs.YtknnecmfebnfbabDoor
open Go.ChangeShapes Go.WideShapes Go.ChangeAt Go.RowKit
open Go.ChangeMaps (open_string shut_string)
set_option linter.unusedVariables false

theorem fnRoots_own : ownKnob Tryd.prog.godebug = none := by kernel_rfl
theorem fnRoots_laidOut : laidOutB Tryd.prog = true := by kernel_rfl

set_option maxRecDepth 20000 in
set_option maxHeartbeats 2000000 in
theorem fnRoots_walk (a0 : Option Addr) (len0 cap0 : Nat) (z0 : List Int) (w : World) (hgl : Gl w) (w0 : IsRow .u8 w a0 len0 cap0 z0) :
    Calls Tryd.prog 5 #[.slice a0 len0 cap0] w fun e w' => e = .returned (.bool true) ∧ Below w.heap.size w w' := by
  obtain ⟨l, rfl, hr⟩ := w0.rd
  clear w0
  have hcap : l.length ≤ 9223372036854775807 := by
    rcases hr with ⟨_, _, _, e, _⟩ | ⟨_, _, cap, _, _, h1, h2, _⟩
    · subst e; simp
    · unfold maxLen at h2; omega
  have Hbig := hide (big_any _ l w hr hcap)
  by_cases hbig : 1048576 < l.length
  · rw [decide_eq_true hbig] at Hbig
    clear hr hgl
    go_enter Tryd.func5, Tryd.ntmps5
    go_wp2_with fail
    refine Hbig.out.mono ?_
    rintro e w ⟨rfl, rfl⟩
    go_wp2
    go_ret
    exact ⟨rfl, Below.refl _ _⟩
  · rw [decide_eq_false hbig] at Hbig
    have Hd := hide (drawLeaves_any w _ l hr (by omega))
    have Hgl := hide hgl
    clear hgl hr
    go_enter Tryd.func5, Tryd.ntmps5
    go_wp2_with fail
    refine Hbig.out.mono ?_
    rintro e w ⟨rfl, rfl⟩
    go_wp2_with fail
    refine Hd.out.mono ?_
    rintro e w1 ⟨v1, ls, x, rfl, ho1, hls, hx, hsm, hb1⟩
    have hg1 := Hgl.out.below hb1 (Nat.le_refl _)
    have hall : ∀ s ∈ ls, s.size ≤ 1500000 := fun s hs => Nat.le_trans (hsm s hs) (by omega)
    have hrd := ho1.rd
    have HR := hide (fun w h hg => implRoot_any ls v1 w (by omega) h hall hg)
    have hXs := rootB_size ls
    clear hsm ho1
    rcases hrd with ⟨_, _, _, e, _⟩ | ⟨b, off, cap, hne, rfl, hc1, hc2, hb, hcell⟩
    · subst e; simp at hx
    have hst : StrAt w1 b off ls := ⟨hb, hcell⟩
    by_cases h1 : ls.length = 1
    · obtain ⟨s0, rfl⟩ : ∃ s, ls = [s] := by
        match ls, h1 with
        | [s], _ => exact ⟨s, rfl⟩
      have hc0 := hcell 0 (by simp)
      simp only [Nat.add_zero, List.getElem_cons_zero] at hc0
      have hs0 : s0.size ≤ 1500000 := hall s0 (by simp)
      rw [rootB_one] at HR hXs
      have HL := hide (fun w hg => implLeaf_any s0 w (by omega) hg)
      generalize leafB s0 = X at HR HL hXs
      have hX32 : ((X.size : Int) != 32) = false := by rw [hXs]; rfl
      have HR1 := hide (HR.out w1 (hst.rd hc1 hc2) hg1)
      have Hst := hide hst
      have Hg1 := hide hg1
      have Hb1 := hide hb1
      clear hst hcell hall hg1 hb1
      go_wp2_with fail
      refine HR1.out.mono ?_
      rintro e w2 ⟨rfl, hb2⟩
      have hc2' : w2.cell? ⟨b, off, none⟩ = some (.string s0) := (hb2.cell (p := ⟨b, off, none⟩) hb).trans hc0
      have hB2 : Below w.heap.size w w2 := Hb1.out.trans (hb2.mono Hb1.out.size)
      have HR2 := hide (HR.out w2.drew ((Hst.out.below hb2 hb).drew.rd hc1 hc2) ((Hg1.out.below hb2 (Nat.le_refl _)).drew'))
      have Hg2 := hide ((Hg1.out.below hb2 (Nat.le_refl _)).drew')
      have hb' : b < w2.drew.heap.size := Nat.lt_of_lt_of_le hb hb2.size
      clear hb2
      go_wp2
      go_region_held_law (fun w' => w'.cell? ⟨b, off, none⟩ = some (.string s0)) (first | assumption | exact hc2' | exact hc3) (first
        | (go_at_call 13; refine HR2.out.mono ?_; rintro e w3 ⟨rfl, hb3⟩; have hc3 : w3.cell? ⟨b, off, none⟩ = some (.string s0) := (hb3.cell (p := ⟨b, off, none⟩) hb').trans hc2'; have hg3 := Hg2.out.below hb3 (Nat.le_refl _))
        | (go_at_call 15; refine (HL.out _ hg3).mono ?_; rintro e w4 ⟨rfl, hb4⟩; have hc4 : w4.cell? ⟨b, off, none⟩ = some (.string s0) := (hb4.cell (p := ⟨b, off, none⟩) (Nat.lt_of_lt_of_le hb' hb3.size)).trans hc3))
      have HB : Hid (Below w.heap.size w w4) := hide ((hB2.drew.trans (hb3.mono hB2.size)).trans (hb4.mono (Nat.le_trans hB2.size hb3.size)))
      go_wp2
      go_ret
      exact ⟨rfl, HB.out⟩
    · have h2 : 2 ≤ ls.length := by omega
      have hh := half_lt ls.length h2
      rw [rootB_more ls h2] at HR hXs
      obtain ⟨K, hK⟩ : ∃ K, half ls.length = K := ⟨_, rfl⟩
      have Hhalf := hide (half_is ls.length)
      rw [hK] at hh HR hXs Hhalf
      have ht : (ls.take K).length = K := by simp; omega
      have hd : (ls.drop K).length = ls.length - K := by simp
      have Ha := hide (fun w (h : StrAt w b off (ls.take K)) hg => implRoot_any (ls.take K) (.slice (some ⟨b, off, none⟩) K cap) w (by omega) (by have := h.rd (cap := cap) (by omega) hc2; rwa [ht] at this) (fun s hsm => hall s (List.mem_of_mem_take hsm)) hg)
      have Hb := hide (fun w (h : StrAt w b (off + K) (ls.drop K)) hg => implRoot_any (ls.drop K) (.slice (some ⟨b, off + K, none⟩) (ls.length - K) (cap - K)) w (by omega) (by have := h.rd (cap := cap - K) (by omega) (by omega); rwa [hd] at this) (fun s hsm => hall s (List.mem_of_mem_drop hsm)) hg)
      have q1 := rootB_size (ls.take K)
      have q2 := rootB_size (ls.drop K)
      generalize hA : rootB (ls.take K) = RA at HR Ha q1 hXs
      generalize hB : rootB (ls.drop K) = RB at HR Hb q2 hXs
      have HN := hide (fun w hg => implNode_any RA RB w (by omega) (by omega) hg)
      generalize nodeB RA RB = X at HR HN hXs
      have hX32 : ((X.size : Int) != 32) = false := by rw [hXs]; rfl
      have HR1 := hide (HR.out w1 (hst.rd hc1 hc2) hg1)
      have Hst := hide hst
      have Hg1 := hide hg1
      have Hb1 := hide hb1
      obtain ⟨m, hm⟩ : ∃ m, ls.length = m := ⟨_, rfl⟩
      rw [hm] at hh hc1 h1 h2 hls hx HR1 HR Hb Hhalf ⊢
      have i7 : ((m : Int) == 1) = false := by rw [beq_eq_false_iff_ne]; omega
      clear hst hcell hall hg1 hb1 hA hB ht hd hK
      go_wp2_with fail
      refine HR1.out.mono ?_
      rintro e w2 ⟨rfl, hb2⟩
      have hB2 : Below w.heap.size w w2 := Hb1.out.trans (hb2.mono Hb1.out.size)
      have Hst2 := hide ((Hst.out.below hb2 hb).drew)
      have Hg2 := hide ((Hg1.out.below hb2 (Nat.le_refl _)).drew')
      have hb' : b < w2.drew.heap.size := Nat.lt_of_lt_of_le hb hb2.size
      clear hb2 HR1 Hst Hg1 Hb1
      go_wp2
      go_loopw [5] (fun kv wr => ∃ e k : Nat, k = 2 ^ e ∧ k < m ∧ kv = .int .i64 (k : Int) ∧ wr = w2) (fun kv _ => m - (intOf kv).toNat)
      case atStart => exact ⟨0, 1, rfl, by omega, rfl, rfl⟩
      case round =>
        obtain ⟨e, k, hk, hkn, rfl, rfl⟩ := hrel
        have hk1 : 1 ≤ k := by rw [hk]; exact Nat.two_pow_pos e
        by_cases hlt : 2 * k < m
        · have hli : 2 * (k : Int) < (m : Int) := by omega
          have Hk := hide hk
          clear hk
          go_wp2
          go_roundw
          case rel => exact ⟨e + 1, 2 * k, by rw [Nat.pow_succ, ← Hk.out]; omega, hlt, by go_num, trivial⟩
          case measure => simp [intOf]; omega
        · have hli : ¬ 2 * (k : Int) < (m : Int) := by omega
          obtain rfl : K = k := (Hhalf.out e (by omega) (by omega)).trans hk.symm
          clear hk Hhalf
          have i1 : (K : Int) ≤ (cap : Int) := by omega
          have i2 : (K : Int) ≤ (m : Int) := by omega
          have i3 : K < cap := by omega
          have i4 : ¬ cap = K := by omega
          have i5 : (m : Int) ≤ (cap : Int) := by omega
          have i8 : K ≤ m := by omega
          have i9 : K ≤ cap := by omega
          have i10 : m ≤ cap := by omega
          go_wp2
          go_region_with (first
            | (go_at_call 13; refine (Hb.out _ (((Hst2.out.drop K).below hb3 hb').below hb4 (Nat.lt_of_lt_of_le hb' hb3.size)) hg4).mono ?_; rintro e w5 ⟨rfl, hb5⟩; have hg5 := hg4.below hb5 (Nat.le_refl _))
            | (go_at_call 13; refine (Ha.out _ ((Hst2.out.take K).below hb3 hb') hg3).mono ?_; rintro e w4 ⟨rfl, hb4⟩; have hg4 := hg3.below hb4 (Nat.le_refl _))
            | (go_at_call 13; refine (HR.out _ (by have := Hst2.out.rd (cap := cap) (by omega) hc2; rwa [hm] at this) Hg2.out).mono ?_; rintro e w3 ⟨rfl, hb3⟩; have hg3 := Hg2.out.below hb3 (Nat.le_refl _))
            | (go_at_call 16; refine (HN.out _ hg5).mono ?_; rintro e w6 ⟨rfl, hb6⟩))
          have s3 : w.heap.size ≤ w3.heap.size := Nat.le_trans hB2.size hb3.size
          have s4 := Nat.le_trans s3 hb4.size
          have s5 := Nat.le_trans s4 hb5.size
          have HB : Hid (Below w.heap.size w w6) := hide ((((hB2.drew.trans (hb3.mono hB2.size)).trans (hb4.mono s3)).trans (hb5.mono s4)).trans (hb6.mono s5))
          go_wp2
          go_ret
          exact ⟨rfl, HB.out⟩

theorem fnRoots_doorMet (os : Os) (args : Array Value) : laidMetH Tryd.prog Rows.fnRootsRow.laid ((World.doorLaid Tryd.prog 400 os).forCall (fun _ _ => 0) ⟨#[], args, []⟩).memory :=
  laidMetH_of_parts3 (fuel := 8) (laidMet_of_run' 8 (by kernel_rfl) (by kernel_rfl)) (by kernel_rfl) (by kernel_rfl)
theorem fnRoots_gl {W : World} (h : laidMetH Tryd.prog Rows.fnRootsRow.laid W) : Gl W := by
  rw [MakeChecks.laidMetH_plain _ _ _ (by kernel_rfl)] at h
  exact gl_of_reads (Lib.laidMet.reads h (.head _)) (Lib.laidMet.reads h (.tail _ (.head _)))

set_option maxRecDepth 100000 in
theorem fnRoots_lifted (os : Os) (started : os.Started) (H : Type) (enc : TypeId × Value → H) :
    ReturnsInHanded {} Tryd.checked os 5 .any (fun w args => (Rows.fnRootsSpec.pre enc Tryd.prog Tryd.f5 [] false w args ∧ laidMetH Tryd.prog Rows.fnRootsRow.laid w) ∧ sizedMet enc Tryd.prog Tryd.f5 (OpenSpec.ofChange Rows.fnRootsSpec) false w args)
      (Rows.fnRootsSpec.post enc Tryd.prog Tryd.f5 false true false false) := by
  refine returnsInHanded_of_change_and (C := Tryd.checked) (X := fun w _ => laidMetH Tryd.prog Rows.fnRootsRow.laid w) (fun _ _ _ hh h => h.of_heap hh) fnRoots_own started (by kernel_rfl) Tryd.func5
    (ChangeSpec.witness_shaped (enc := enc) (C := Tryd.checked) (os := os) (X := fun w _ => laidMetH Tryd.prog Rows.fnRootsRow.laid w) false (World.doorLaid Tryd.prog 400 os) #[.slice none 0 0] 8 rfl (World.shaped_of_RefB (by kernel_rfl) (by kernel_rfl)) (by kernel_rfl) (by kernel_rfl) (by kernel_rfl) (fnRoots_doorMet os _)) ?_
  intro W base args ds gs before hval0 hW _ _ hL _
  have hval : ∀ (j : Nat) t v, Tryd.f5.params[j]? = some t → args[j]? = some v → Value.okWide Tryd.prog W .any base t v := hval0
  have hW' := hW
  obtain ⟨p, q, hA0, hV, rfl, hfz, hnd⟩ := hW
  have hV2 := hV
  obtain ⟨_, _, _, _, _, _, _, _, _, _, _, _, rfl, _, _, _, _, _, _, _, _, _⟩ := trodVars_two hV
  have hA : DataW.TrodAll enc Tryd.prog W 0 (fun _ => true) true Tryd.f5.params.toList args.toList ds p := hA0
  rw [Tryd.params5] at hA hval
  obtain ⟨v0, vs0, d0, ds0, p0, q0, hargs, rfl, rfl, h0, r0⟩ := trodAll_cons hA
  obtain ⟨rfl, rfl, rfl⟩ := trodAll_nil r0
  obtain rfl : args = #[v0] := by cases args; simp_all
  obtain ⟨a0, len0, cap0, rfl⟩ := okWide_slice Tryd.underlying22 (hval 0 22 v0 rfl rfl)
  have k0 := h0
  have lt0 : ∀ x ∈ p0, x.block < W.heap.size := by obtain ⟨m, hm⟩ := k0; exact DataW.trod_lt m _ _ _ hm
  obtain ⟨z0, w0⟩ : ∃ zs, IsRow .u8 W a0 len0 cap0 zs := by
    obtain ⟨fuel, hf⟩ := h0
    rcases open_ints Tryd.underlying22 Tryd.underlying5 (by kernel_rfl) hf with ⟨hcs, _⟩ | ⟨x, l, c, zs, hcs, _, hl, hm, hz, _, hcell, hwz⟩
    · simp [Value.cells] at hcs
      obtain ⟨rfl, rfl, rfl⟩ := hcs
      exact ⟨[], .inl ⟨rfl, rfl, rfl, rfl⟩⟩
    · simp [Value.cells] at hcs
      obtain ⟨rfl, rfl, rfl⟩ := hcs
      exact ⟨zs, .inr ⟨_, rfl, hl, hm, by simpa using hz, hcell, hwz⟩⟩
  clear hA0 hval0
  refine (fnRoots_walk a0 len0 cap0 z0 W (fnRoots_gl hL) w0).mono fun e W' ⟨he, bel⟩ => ?_
  subst he
  exact ⟨_, rfl, _, _, _, [], _, _, hW', trodAll_mk1 (shut_bool Tryd.underlying4 _), (trodAll_cons_mk (Below.trod fnRoots_laidOut (by kernel_rfl) (of_decide_eq_true (by kernel_rfl)) k0 bel lt0) trodAll_mk0), Below.trodVars fnRoots_laidOut bel (by kernel_rfl) hV2, bel.frame _, fun h => by cases h⟩

theorem fnRoots_holds : Rows.FnRootsSaid :=
  OpenClaim.holds_of_wide 5 Tryd.f5 rfl rfl rfl rfl rfl rfl rfl ⟨rfl, rfl, rfl, rfl, rfl⟩ rfl rfl rfl rfl rfl (by kernel_rfl) Tryd.func5 (by kernel_rfl)
    (of_decide_eq_true (by kernel_rfl)) (by unfold Func.isWrapper; first | (rw [if_pos (by decide +kernel)]; kernel_rfl) | (rw [if_neg (by decide +kernel)]; exact ⟨rfl, rfl⟩))
    (fun os started H enc _ => fnRoots_lifted os started H enc)

/-- The card: the two variables are tied to the program's text by the given tie. -/
theorem fnRoots_card : Rows.FnRootsCardSaid :=
  Claim7.holds_tied_plain_at .later [] [.data, .data] true Rows.fnRootsCard.stood.harness false
    fnRoots_holds (fun _ h => by cases h) (by kernel_rfl) (fun _ h => by cases h) fnRoots_row_tie rfl ⟨rfl, rfl⟩ (by kernel_rfl) rfl
    (fun f fn hf hfn => by
      obtain rfl : f = 5 := Option.some.inj ((show Tryd.prog.funcNamed Rows.fnRootsRow.func = some 5 by kernel_rfl).symm.trans hf) |>.symm
      obtain rfl : fn = Tryd.f5 := (Option.some.inj (Tryd.func5.symm.trans hfn)).symm
      exact ⟨by kernel_rfl, fun j t ht => by
        rw [Tryd.params5] at ht
        have hm : t ∈ [22] := by simpa using Array.mem_of_getElem? ht
        have hall : ([22].all fun u => !Tryd.prog.wantsStandIn u) = true := by kernel_rfl
        exact (show Tryd.prog.wantsStandIn t = false by simpa using List.all_eq_true.1 hall t hm)⟩)
    (by kernel_rfl)

end Go.Proofs.YtknnecmfebnfbabDoor
