/- Each who votes, of drawn ones, leads in one of as many rounds as there are, whichever come first: the law FnLeaders returns true at every code, with no condition. -/
import Derived.Test.YtoejikphbienfaaRows
import Derived.Test.YtoejikphbienfaaRow
import Derived.Test.YtoejikphbienfaaBig
import Derived.Test.YtoejikphbienfaaVsFact
import Derived.WalkKit
import Derived.ProofKit
import Derived.OpenShut
import Derived.ShutString
import Derived.ChangeOld
import Derived.Below
import Derived.SliceStrings
namespace Go.Proofs.Ytoejikphbienfaa
open Go.ChangeShapes Go.WideShapes Go.ChangeAt Go.RowKit
open Go.ChangeMaps (open_string shut_string)
set_option linter.unusedVariables false

theorem fnLeaders_own : ownKnob Try.prog.godebug = none := by kernel_rfl
theorem fnLeaders_laidOut : laidOutB Try.prog = true := by kernel_rfl

set_option maxRecDepth 20000 in
set_option maxHeartbeats 4000000 in
theorem fnLeaders_walk (a0 : Option Addr) (len0 cap0 : Nat) (z0 : List Int) (w : World) (w0 : IsRow .u8 w a0 len0 cap0 z0) :
    Calls Try.prog 5 #[.slice a0 len0 cap0] w fun e w' => e = .returned (.bool true) ∧ Below w.heap.size w w' := by
  obtain ⟨cd, rfl, hr⟩ := w0.rd
  clear w0
  have hcap : cd.length ≤ 9223372036854775807 := by
    rcases hr with ⟨_, _, _, e, _⟩ | ⟨_, _, cap, _, _, h1, h2, _⟩
    · subst e; simp
    · unfold maxLen at h2; omega
  have Hbig := hide (big_any _ cd w hr hcap)
  by_cases hbig : 1048576 < cd.length
  · rw [decide_eq_true hbig] at Hbig
    clear hr
    go_enter Try.func5, Try.ntmps5
    go_wp2_with fail
    refine Hbig.out.mono ?_
    rintro e w' ⟨rfl, rfl⟩
    go_wp2
    go_ret
    exact ⟨rfl, Below.refl _ _⟩
  rw [decide_eq_false hbig] at Hbig
  have Hd := hide (drawTwo_any w _ cd hr (by omega))
  have Hr := hide hr
  have hcd : cd.length ≤ 1048576 := by omega
  clear hr
  go_enter Try.func5, Try.ntmps5
  go_wp2_with fail
  refine Hbig.out.mono ?_
  rintro e w ⟨rfl, rfl⟩
  go_wp2_with fail
  refine Hd.out.mono ?_
  rintro en w2 ⟨v1, v2, v3, l, na, nb, rfl, hrl, hra, hrb, hnil, hfew, -, -, hB2⟩
  obtain ⟨al, cl, rfl⟩ := hrl.shape
  obtain ⟨aa, ca, rfl⟩ := hra.shape
  obtain ⟨ab, cb, rfl⟩ := hrb.shape
  clear hra hrb
  go_wp2_with fail
  refine (lawAt_any _ cd w2 (Hr.out.below hB2 (Nat.le_refl _)) hcd).mono ?_
  rintro en w3 ⟨r, rfl, hr255, hb3⟩
  have hB3 := hB2.trans (hb3.mono hB2.size)
  have hl5 : l.length ≤ 5 := hfew.1
  have Hin := hide (lead_in l hnil)
  have Hnew := hide (lead_new l hnil hfew.2.1 r)
  have Hneg := hide (leadV_neg l (-1) (by omega))
  have Hrl := hide (hrl.below hb3 (Nat.le_refl _))
  have HL := hide (fun (n : Int) (hn : n ≤ 9223372036854775807) w h => implLeaderOf_any (.slice al l.length cl) l n w h (by omega) hn)
  have HE := hide (fun (w : World) h => implLeaderOf_any (.slice (some ⟨w.heap.size, 0, none⟩) 0 0) [] 3 (w.alloc (.cells #[] 63)) h (by simp) (by omega))
  have Hnone := hide (leadV_none 3)
  have HI := hide (fun s w h => lawInSet_any (.slice al l.length cl) l s w h (by omega))
  have hpos : 0 < l.length := List.length_pos_iff.2 hnil
  have HB3 := hide hB3
  have Hb0 : Hid (Below w3.heap.size w3 (w3.alloc (.cells #[] 9))) := hide ((Below.refl _ w3).alloc (Nat.le_refl _) _)
  have Ho0 := hide (own_nilS w3 w3.heap.size (Nat.le_refl _))
  clear hrl hfew hnil hB3 hb3 hB2
  go_wp2
  go_loopw [7, 8] (fun nv iv wr => ∃ i : Nat, i ≤ l.length ∧ iv = .int .i64 (i : Int) ∧ OwnS w3.heap.size wr nv (ledV l r i) ∧ Below w3.heap.size w3 wr) (fun _ iv _ => l.length - (intOf iv).toNat)
  case atStart => exact ⟨0, Nat.zero_le _, rfl, Ho0.out, Hb0.out⟩
  case round =>
    obtain ⟨i, hi, rfl, ho, hb⟩ := hrel
    clear Ho0 Hb0
    have hbs := hb.size
    by_cases hlt : i < l.length
    · have hli : (i : Int) < (l.length : Int) := by omega
      have Hi := hide (Hin.out (r + i))
      have Hn := hide (Hnew.out i hlt)
      have Hsn := hide (ledV_snoc l r i)
      have hlen := ledV_len l r i
      have HL2 := hide (HL.out ((r + i : Nat) : Int) (by omega) wr (Hrl.out.below hb (Nat.le_refl _)))
      have hsum : ((r : Int) + (i : Int)) = ((r + i : Nat) : Int) := by omega
      have hri : r + i ≤ 1000 := by omega
      generalize leadV l ((r + i : Nat) : Int) = s at Hi Hn Hsn HL2
      generalize ledV l r i = N at ho Hn Hsn hlen
      generalize r + i = ri at HL2 hsum hri
      have hN5 : N.length ≤ 5 := by omega
      clear hlen
      have Ho := hide ho
      have Hb := hide hb
      obtain ⟨an, cn, rfl⟩ := ho.rd.shape
      clear ho hb
      go_wp2_with fail
      refine HL2.out.mono ?_
      rintro en w4 ⟨rfl, hb4⟩
      have b4 := hide (Hb.out.trans (hb4.mono hbs))
      have HI4 := hide (HI.out s w4 (Hrl.out.below b4.out (Nat.le_refl _)))
      rw [Hi.out] at HI4
      have o4 := hide (Ho.out.below hb4 (Nat.le_refl _))
      clear hb4 HL2
      go_wp2_with fail
      refine HI4.out.mono ?_
      rintro en w5 ⟨rfl, hb5⟩
      have b5 := hide (b4.out.trans (hb5.mono b4.out.size))
      have o5 := hide (o4.out.below hb5 (Nat.le_refl _))
      have HA5 := hide (lawAmong_any _ N s w5 o5.out.rd (by omega))
      rw [Hn.out] at HA5
      clear hb5 HI4 o4 b4
      go_wp2_with fail
      refine HA5.out.mono ?_
      rintro en w6 ⟨rfl, hb6⟩
      have b6 := hide (b5.out.trans (hb6.mono b5.out.size))
      have o6 := hide (o5.out.below hb6 (Nat.le_refl _))
      have z6 := b6.out.size
      clear hb6 HA5 o5 b5
      go_wp2_with (at_builtin; refine app_ownS _ rfl _ _ rfl w3.heap.size _ _ N [s] rfl rfl (o6.out.alloc _) (rd_one_str' _ _ _ (by simp)) (by simp; omega) (by simp; omega) ?_; intro v7 w7 ho7 hb7)
      have HB7 := hide ((b6.out.alloc z6 _).trans hb7)
      go_roundw
      case rel => exact ⟨i + 1, by omega, by go_num, by rw [Hsn.out]; exact ho7, HB7.out⟩
      case measure => simp [intOf]; omega
    · have HLn := hide (HL.out (-1) (by omega) wr (Hrl.out.below hb (Nat.le_refl _)))
      rw [Hneg.out] at HLn
      have HBr := hide (HB3.out.trans (hb.mono HB3.out.size))
      clear ho hb
      go_wp2_with fail
      refine HLn.out.mono ?_
      rintro en w4 ⟨rfl, hb4⟩
      have HB4 := hide (HBr.out.trans (hb4.mono HBr.out.size))
      have HE4 := hide (HE.out w4 (.inl ⟨_, _, rfl, rfl, fun h => by cases h⟩))
      rw [Hnone.out] at HE4
      have hbA : Below w4.heap.size w4 (w4.alloc (.cells #[] 63)) := (Below.refl _ w4).alloc (Nat.le_refl _) _
      have HBA := hide (HB4.out.trans (hbA.mono HB4.out.size))
      clear hbA hb4
      go_wp2_with fail
      refine HE4.out.mono ?_
      rintro en w5 ⟨rfl, hb5⟩
      have HB5 := hide (HBA.out.trans (hb5.mono HBA.out.size))
      go_wp2
      go_ret
      exact ⟨rfl, HB5.out⟩

set_option maxRecDepth 100000 in
theorem fnLeaders_lifted (os : Os) (started : os.Started) (H : Type) (enc : TypeId × Value → H) :
    ReturnsInHanded {} Try.checked os 5 .any (Rows.fnLeadersSpec.pre6 enc Try.prog Try.f5 Rows.fnLeadersRow.domain false) (Rows.fnLeadersSpec.post enc Try.prog Try.f5 false true false false) := by
  refine returnsInHanded_of_change (C := Try.checked) fnLeaders_own started (by kernel_rfl) Try.func5
    (ChangeSpec.witness6 (enc := enc) (C := Try.checked) false ⟨#[], #[.slice none 0 0], []⟩ 8 (by kernel_rfl) (by kernel_rfl) (by kernel_rfl) (by kernel_rfl)) ?_
  intro W base args ds gs before hval0 hW hcnd _
  have hval : ∀ (j : Nat) t v, Try.f5.params[j]? = some t → args[j]? = some v → Value.okWide Try.prog W .any base t v := hval0
  have hW' := hW
  obtain ⟨p, q, hA0, hV, rfl, hfz, hnd⟩ := hW
  have hA : DataW.TrodAll enc Try.prog W 0 (fun _ => true) true Try.f5.params.toList args.toList ds p := hA0
  rw [Try.params5] at hA hval
  obtain ⟨v0, vs0, d0, ds0, p0, q0, hargs, rfl, rfl, h0, r0⟩ := trodAll_cons hA
  obtain ⟨rfl, rfl, rfl⟩ := trodAll_nil r0
  obtain rfl : args = #[v0] := by cases args; simp_all
  obtain ⟨rfl, rfl⟩ := trodVars_none hV
  obtain ⟨a0, len0, cap0, rfl⟩ := okWide_slice Try.underlying22 (hval 0 22 v0 rfl rfl)
  have k0 := h0
  have lt0 : ∀ x ∈ p0, x.block < W.heap.size := by obtain ⟨m, hm⟩ := k0; exact DataW.trod_lt m _ _ _ hm
  obtain ⟨z0, w0⟩ : ∃ zs, IsRow .u8 W a0 len0 cap0 zs := by
    obtain ⟨fuel, hf⟩ := h0
    rcases open_ints Try.underlying22 Try.underlying5 (by kernel_rfl) hf with ⟨hcs, _⟩ | ⟨x, l, c, zs, hcs, _, hl, hm, hz, _, hcell, hwz⟩
    · simp [Value.cells] at hcs
      obtain ⟨rfl, rfl, rfl⟩ := hcs
      exact ⟨[], .inl ⟨rfl, rfl, rfl, rfl⟩⟩
    · simp [Value.cells] at hcs
      obtain ⟨rfl, rfl, rfl⟩ := hcs
      exact ⟨zs, .inr ⟨_, rfl, hl, hm, by simpa using hz, hcell, hwz⟩⟩
  clear hA0 hval0
  refine (fnLeaders_walk a0 len0 cap0 z0 W w0).mono fun e W' ⟨he, bel⟩ => ?_
  subst he
  exact ⟨_, rfl, _, _, _, [], _, [], hW', trodAll_mk1 (shut_bool Try.underlying4 _), (trodAll_cons_mk (Below.trod fnLeaders_laidOut (by kernel_rfl) (of_decide_eq_true (by kernel_rfl)) k0 bel lt0) trodAll_mk0), rfl, bel.frame _, fun h => by cases h⟩

theorem fnLeaders_holds : Rows.FnLeadersSaid :=
  OpenClaim.holds_of_wide 5 Try.f5 rfl rfl rfl rfl rfl rfl rfl ⟨rfl, rfl, rfl, rfl, rfl⟩ rfl rfl rfl rfl rfl (by kernel_rfl) Try.func5 (by kernel_rfl)
    (of_decide_eq_true (by kernel_rfl)) (by unfold Func.isWrapper; first | (rw [if_pos (by decide +kernel)]; kernel_rfl) | (rw [if_neg (by decide +kernel)]; exact ⟨rfl, rfl⟩))
    (fun os started H enc _ => fnLeaders_lifted os started H enc)

end Go.Proofs.Ytoejikphbienfaa
