/- The model's CheckPath. -/
import Derived.Test.YtknnecmfebnfbakDoorMerkSpec
import Derived.Test.YtknnecmfebnfbakDoorStrAt
import Derived.Test.YtknnecmfebnfbakDoorIn
namespace Go.Proofs.YtknnecmfebnfbakDoor
open Go.RowKit
set_option linter.unusedVariables false

theorem upB_size (leaf : ByteArray) (i n : Nat) (path : List ByteArray) (h : leaf.size ≤ 1000) : (upB leaf i n path).1.size ≤ 1000 := by
  by_cases h2 : n < 2
  · rw [upB_few _ _ _ _ h2]; exact h
  · rcases List.eq_nil_or_concat path with rfl | ⟨p, x, rfl⟩
    · rw [upB_none _ _ _ (by omega)]; show ByteArray.empty.size ≤ 1000; decide
    · rw [List.concat_eq_append]
      by_cases hi : i < half n
      · rw [upB_left _ _ _ _ _ (by omega) hi]; show (nodeB _ _).size ≤ 1000; rw [nodeB_size]; omega
      · rw [upB_right _ _ _ _ _ (by omega) hi]; show (nodeB _ _).size ≤ 1000; rw [nodeB_size]; omega
theorem ret_sb {a c : ByteArray} {b d : Bool} (h1 : a = c) (h2 : b = d) : Ending.returned (.tuple #[.string a, .bool b]) = .returned (.tuple #[.string c, .bool d]) := by rw [h1, h2]

set_option maxRecDepth 20000 in
set_option maxHeartbeats 2000000 in
theorem specUp_at : ∀ (N : Nat) (leaf : ByteArray) (i n : Nat) (path : List ByteArray) (v : Value) (w : World), n ≤ N → N ≤ 1000000 → i < 1000000 → leaf.size ≤ 1000 → path.length ≤ 9000000000000000000 → RdS w v path → (∀ s ∈ path, s.size ≤ 1500000) →
    Calls Tryd.prog 32 #[.string leaf, .int .i64 (i : Int), .int .i64 (n : Int), v] w fun e w' => e = .returned (.tuple #[.string (upB leaf i n path).1, .bool (upB leaf i n path).2]) ∧ Below w.heap.size w w' := by
  intro N
  induction N with
  | zero =>
    intro leaf i n path v w hn hN hi hlf hpl hr hs
    have hn0 : (n : Int) < 2 := by omega
    have Hu := hide (upB_few leaf i n path (by omega))
    obtain ⟨a, cap, rfl⟩ := hr.shape
    clear hr hs
    go_enter Tryd.func32, Tryd.ntmps32
    cases path with
    | nil =>
      go_wp2
      go_ret2
      exact ⟨by rw [Hu.out]; rfl, Below.refl _ _⟩
    | cons x p =>
      have hne : (((p.length + 1 : Nat) : Int) == 0) = false := by rw [beq_eq_false_iff_ne]; omega
      have hne2 : ((p.length : Int) + 1 == 0) = false := by rw [beq_eq_false_iff_ne]; omega
      go_wp2
      go_ret2
      exact ⟨by rw [Hu.out]; rfl, Below.refl _ _⟩
  | succ N ih =>
    intro leaf i n path v w hn hN hi hlf hpl hr hs
    by_cases hle : n ≤ N
    · exact ih leaf i n path v w hle (by omega) hi hlf hpl hr hs
    · by_cases h2 : n < 2
      · have hn0 : (n : Int) < 2 := by omega
        have Hu := hide (upB_few leaf i n path h2)
        obtain ⟨a, cap, rfl⟩ := hr.shape
        clear hr hs ih
        go_enter Tryd.func32, Tryd.ntmps32
        cases path with
        | nil =>
          go_wp2
          go_ret2
          exact ⟨by rw [Hu.out]; rfl, Below.refl _ _⟩
        | cons x p =>
          have hne : (((p.length + 1 : Nat) : Int) == 0) = false := by rw [beq_eq_false_iff_ne]; omega
          have hne2 : ((p.length : Int) + 1 == 0) = false := by rw [beq_eq_false_iff_ne]; omega
          go_wp2
          go_ret2
          exact ⟨by rw [Hu.out]; rfl, Below.refl _ _⟩
      · have hn0 : (2 : Int) ≤ (n : Int) := by omega
        rcases List.eq_nil_or_concat path with rfl | ⟨p, x, rfl⟩
        · have Hu := hide (upB_none leaf i n (by omega))
          obtain ⟨a, cap, rfl⟩ := hr.shape
          clear hr hs ih
          go_enter Tryd.func32, Tryd.ntmps32
          go_wp2
          go_ret2
          exact ⟨by rw [Hu.out]; rfl, Below.refl _ _⟩
        · rw [List.concat_eq_append] at *
          rcases hr with ⟨_, _, _, e, _⟩ | ⟨b, off, cap, _, rfl, hc1, hc2, hb, hcell⟩
          · simp at e
          · have hst : StrAt w b off (p ++ [x]) := ⟨hb, hcell⟩
            have hstp : StrAt w b off p := by have := hst.take p.length; rwa [List.take_left] at this
            have hm : (p ++ [x]).length = p.length + 1 := by simp
            have hcx := hcell p.length (by rw [hm]; omega)
            rw [show (p ++ [x])[p.length]'(by rw [hm]; omega) = x from by simp] at hcx
            have hxs := hs x (by simp)
            have hps : ∀ s ∈ p, s.size ≤ 1500000 := fun s h => hs s (by simp [h])
            rw [hm] at hc1 hpl ⊢
            have hh := half_lt n (by omega)
            have Hl := hide (upB_left leaf i n p x (by omega))
            have Hr := hide (upB_right leaf i n p x (by omega))
            have Hhalf := hide (l3Half_any n w (by omega) (by omega))
            obtain ⟨K, hK⟩ : ∃ K, half n = K := ⟨_, rfl⟩
            rw [hK] at hh Hl Hr Hhalf
            have HA := hide (ih leaf i K p (.slice (some ⟨b, off, none⟩) p.length cap) w (by omega) (by omega) hi hlf (by omega) (hstp.rd (by omega) hc2) hps)
            have HB := hide (ih leaf (i - K) (n - K) p (.slice (some ⟨b, off, none⟩) p.length cap) w (by omega) (by omega) (by omega) hlf (by omega) (hstp.rd (by omega) hc2) hps)
            have q1 := upB_size leaf i K p hlf
            have q2 := upB_size leaf (i - K) (n - K) p hlf
            obtain ⟨ua, ba, hua⟩ : ∃ u c, upB leaf i K p = (u, c) := ⟨_, _, rfl⟩
            obtain ⟨ub, bb, hub⟩ : ∃ u c, upB leaf (i - K) (n - K) p = (u, c) := ⟨_, _, rfl⟩
            rw [hua] at Hl HA q1
            rw [hub] at Hr HB q2
            have hne : (((p.length + 1 : Nat) : Int) == 0) = false := by rw [beq_eq_false_iff_ne]; omega
            have hne2 : ((p.length : Int) + 1 == 0) = false := by rw [beq_eq_false_iff_ne]; omega
            have i1 : (p.length : Int) ≤ (cap : Int) := by omega
            have i2 : p.length ≤ cap := by omega
            clear hcell hs hps ih hst hstp hK hua hub hle h2
            by_cases hlt : i < K
            · have hiK : (i : Int) < (K : Int) := by omega
              have Hp := hide (Hl.out hlt)
              clear Hl Hr HB q2
              go_enter Tryd.func32, Tryd.ntmps32
              go_wp2_with fail
              refine Hhalf.out.mono ?_
              rintro e w ⟨rfl, rfl⟩
              go_wp2_with fail
              refine HA.out.mono ?_
              rintro e w1 ⟨rfl, hb1⟩
              go_wp2_with fail
              refine (specNode_any ua x _ (Nat.le_trans q1 (by omega)) hxs).mono ?_
              rintro e w2 ⟨rfl, hb2⟩
              have hB2 := hb1.trans (hb2.mono hb1.size)
              go_wp2
              go_ret2
              exact ⟨by rw [Hp.out]; rfl, hB2⟩
            · have hiK : ¬ (i : Int) < (K : Int) := by omega
              have Hp := hide (Hr.out hlt)
              obtain ⟨J, hJ⟩ : ∃ J, i - K = J := ⟨_, rfl⟩
              obtain ⟨M, hM⟩ : ∃ M, n - K = M := ⟨_, rfl⟩
              have hJi : (i : Int) - (K : Int) = (J : Int) := by omega
              have hMi : (n : Int) - (K : Int) = (M : Int) := by omega
              rw [hJ, hM] at HB
              clear Hl Hr HA q1 hJ hM
              go_enter Tryd.func32, Tryd.ntmps32
              go_wp2_with fail
              refine Hhalf.out.mono ?_
              rintro e w ⟨rfl, rfl⟩
              go_wp2_with fail
              refine HB.out.mono ?_
              rintro e w1 ⟨rfl, hb1⟩
              go_wp2_with fail
              refine (specNode_any x ub _ hxs (Nat.le_trans q2 (by omega))).mono ?_
              rintro e w2 ⟨rfl, hb2⟩
              have hB2 := hb1.trans (hb2.mono hb1.size)
              go_wp2
              go_ret2
              exact ⟨by rw [Hp.out]; rfl, hB2⟩

set_option maxRecDepth 20000 in
set_option maxHeartbeats 2000000 in
theorem specCheck_any (s : ByteArray) (i n : Int) (path : List ByteArray) (root : ByteArray) (v : Value) (w : World) (hs : s.size ≤ 3000000) (hi1 : -9223372036854775808 ≤ i) (hi2 : i ≤ 9223372036854775807) (hn1 : -9223372036854775808 ≤ n) (hn2 : n ≤ 9223372036854775807) (hpl : path.length ≤ 9000000000000000000) (hr : RdS w v path) (hps : ∀ s ∈ path, s.size ≤ 1500000) :
    Calls Tryd.prog 21 #[.string s, .int .i64 i, .int .i64 n, v, .string root] w fun e w' => e = .returned (.bool (checkB s i n path root)) ∧ Below w.heap.size w w' := by
  by_cases hn : 1 ≤ n ∧ n ≤ 64
  · have hbn : inB n 1 64 = true := by simp [inB]; omega
    by_cases hin : 0 ≤ i ∧ i ≤ n - 1
    · have hbi : inB i 0 (n - 1) = true := by simp [inB]; omega
      obtain ⟨I, rfl⟩ := Int.eq_ofNat_of_zero_le hin.1
      obtain ⟨M, rfl⟩ := Int.eq_ofNat_of_zero_le (show 0 ≤ n by omega)
      have Hc := hide (checkB_in s I M path root (by omega))
      have HU := hide (fun w h => specUp_at 1000000 (leafB s) I M path v w (by omega) (by omega) (by omega) (by rw [leafB_size]; omega) hpl h hps)
      obtain ⟨u, c, hu⟩ : ∃ u c, upB (leafB s) I M path = (u, c) := ⟨_, _, rfl⟩
      rw [hu] at Hc HU
      have Hr := hide hr
      clear hr hps hu hn hin
      go_enter Tryd.func21, Tryd.ntmps21
      go_wp2_with fail
      refine (l1In_any _ _ _ _).mono ?_
      rintro e w ⟨rfl, rfl⟩
      go_wp2_with fail
      refine (l1In_any _ _ _ _).mono ?_
      rintro e w ⟨rfl, rfl⟩
      go_wp2_with fail
      refine (specLeaf_any s _ hs).mono ?_
      rintro e w1 ⟨rfl, hb1⟩
      go_wp2_with fail
      refine (HU.out _ (Hr.out.below hb1 (Nat.le_refl _))).mono ?_
      rintro e w2 ⟨rfl, hb2⟩
      have hB2 := hb1.trans (hb2.mono hb1.size)
      cases c with
      | false =>
        go_wp2
        go_ret
        exact ⟨by rw [Hc.out]; rfl, hB2⟩
      | true =>
        by_cases he : u = root
        · subst he
          go_wp2
          go_ret
          exact ⟨by rw [Hc.out]; simp, hB2⟩
        · have hne := bytes_ne he
          have Hd := hide (decide_eq_false he)
          clear he
          go_wp2
          go_ret
          exact ⟨by rw [Hc.out, Hd.out]; rfl, hB2⟩
    · have hbi : inB i 0 (n - 1) = false := by simp [inB]; omega
      have Hc := hide (checkB_no s i n path root (by omega))
      clear hr hps hin
      go_enter Tryd.func21, Tryd.ntmps21
      go_wp2_with fail
      refine (l1In_any _ _ _ _).mono ?_
      rintro e w ⟨rfl, rfl⟩
      go_wp2_with fail
      refine (l1In_any _ _ _ _).mono ?_
      rintro e w ⟨rfl, rfl⟩
      go_wp2
      go_ret
      exact ⟨by rw [Hc.out]; rfl, Below.refl _ _⟩
  · have hbn : inB n 1 64 = false := by simp [inB]; omega
    have Hc := hide (checkB_no s i n path root (by omega))
    clear hr hps hn
    go_enter Tryd.func21, Tryd.ntmps21
    go_wp2_with fail
    refine (l1In_any _ _ _ _).mono ?_
    rintro e w ⟨rfl, rfl⟩
    go_wp2
    go_ret
    exact ⟨by rw [Hc.out]; rfl, Below.refl _ _⟩
end Go.Proofs.YtknnecmfebnfbakDoor
