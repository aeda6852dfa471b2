/- GetNum of the program: its groups, what they unfold to, and its answer at all bytes and all places. -/
import Derived.Test.YtcmmdkabocfnfaaGreatDoorZrGetNum
namespace Go.Proofs.YtcmmdkabocfnfaaGreatDoor
open Go.RowKit
set_option linter.unusedVariables false

def grp (l : List UInt8) (p : Int) : Int × Int × Bool :=
  if 0 ≤ p ∧ p < l.length then
    match gr 5 (l.drop p.toNat) 0 0 with
    | none => (0, 0, false)
    | some (m, k, c) => ((m : Int), p + k + 1, decide (k = 0) || decide (0 < c))
  else (0, 0, false)

theorem grp_out (l : List UInt8) (p : Int) (h : p < 0 ∨ l.length ≤ p) : grp l p = (0, 0, false) := by
  unfold grp; rw [if_neg (by omega)]
theorem grp_none (l : List UInt8) (q : Nat) (h : gr 5 (l.drop q) 0 0 = none) : grp l q = (0, 0, false) := by
  unfold grp; rw [Int.toNat_natCast, h]; split <;> rfl
theorem grp_some (l : List UInt8) (q M k C : Nat) (hq : q < l.length) (h : gr 5 (l.drop q) 0 0 = some (M, k, C)) : grp l q = ((M : Int), (q : Int) + k + 1, decide (k = 0) || decide (0 < C)) := by
  unfold grp; rw [Int.toNat_natCast, h, if_pos (by omega)]

set_option maxRecDepth 20000 in
set_option maxHeartbeats 1000000 in
theorem groupsAt_any (v : Value) (l : List UInt8) (p : Int) (w : World) (hr : RdB w v l) (hl : l.length ≤ 4000000) (hp1 : -9223372036854775808 ≤ p) (hp2 : p ≤ 9223372036854775807) :
    Calls Tryz.prog 151 #[v, .int .i64 p] w fun e w' => e = .returned (tri (grp l p)) ∧ w' = w := by
  by_cases hin : p < 0 ∨ l.length ≤ p
  · have hf := hide (grp_out l p hin)
    obtain ⟨a, cap, rfl⟩ := hr.shape
    clear hr
    rcases hin with h | h
    · go_enter Tryz.func151, Tryz.ntmps151
      go_wp2
      go_ret3
      exact ⟨ret_tri hf.out, rfl⟩
    · have h' : 0 ≤ p := by omega
      go_enter Tryz.func151, Tryz.ntmps151
      go_wp2
      go_ret3
      exact ⟨ret_tri hf.out, rfl⟩
  · obtain ⟨q, rfl⟩ := Int.eq_ofNat_of_zero_le (show 0 ≤ p from by omega)
    rcases hr with ⟨a, cap, rfl, rfl, -⟩ | ⟨b, off, cap, h0, rfl, h1, h2, h3, h4⟩
    · exact absurd hin (by simp)
    · have hq : q < l.length := by omega
      unfold maxLen at h2
      clear hin
      by_cases h5 : q + 5 ≤ l.length
      · obtain ⟨R, hR, hR5, hRl⟩ : ∃ R, q + 5 - q = R ∧ R = 5 ∧ q + R ≤ l.length := ⟨_, rfl, by omega, by omega⟩
        have HR := hide hR
        have HR5 := hide hR5
        have hR6 : R ≤ 5 := by omega
        clear hR hR5
        go_enter Tryz.func151, Tryz.ntmps151
        go_wp2
        rw [HR.out]
        go_loop [7, 8, 28] (fun mm uu kk => ∃ (k m : Nat) (u : Int), k ≤ R ∧ kk = .int .i64 k ∧ mm = .int .i64 m ∧ uu = .int .i64 u ∧ ((128 ^ k : Nat) : Int) = u ∧ m < 128 ^ k ∧ gr 5 (l.drop q) 0 0 = gr (5 - k) (l.drop (q + k)) m k) (fun _ _ kk => 5 - (intOf kk).toNat)
        case atStart => exact ⟨0, 0, 1, by omega, rfl, rfl, rfl, rfl, by simp, rfl⟩
        case round =>
          obtain ⟨k, m, u, hk, rfl, rfl, rfl, hU, hm, hgr⟩ := hrel
          have Hm := hide hm
          have Hgr := hide hgr
          clear hm hgr
          have hUl : u ≤ 34359738368 := by rw [← hU]; have := pow128_le k (by omega); omega
          have hU0 : 0 ≤ u := by rw [← hU]; exact Int.natCast_nonneg _
          have hm5 : m < 34359738368 := by have := Hm.out; have := pow128_le k (by omega); omega
          by_cases hk5 : k < R
          · have hlt : q + k < l.length := by omega
            have hc : w.cell? ⟨b, off + q + k, none⟩ = some (.int .u8 (l[q + k].toNat : Int)) := by rw [Nat.add_assoc]; exact h4 (q + k) hlt
            obtain ⟨C, hC, hC2⟩ : ∃ C : Nat, l[q + k].toNat = C ∧ C < 256 := ⟨_, rfl, l[q + k].toNat_lt⟩
            rw [hC] at hc
            obtain ⟨D, hD, hD2⟩ : ∃ D : Nat, C % 128 = D ∧ D < 128 := ⟨_, rfl, Nat.mod_lt _ (by omega)⟩
            obtain ⟨E, hE⟩ : ∃ E : Nat, D * 128 ^ k = E := ⟨_, rfl⟩
            obtain ⟨M, hM⟩ : ∃ M : Nat, m + E = M := ⟨_, rfl⟩
            obtain ⟨hMl, hM1, e3, e2⟩ := num_or m k D E M Hm.out hD2 (by omega) hE hM
            clear e3 e2
            have hMd : m + C % 128 * 128 ^ k = M := by rw [hD, hE, hM]
            have HM1 := hide hM1
            have HM := hide hM
            have HU := hide (show ((128 ^ (k + 1) : Nat) : Int) = u * 128 from by rw [← hU, Nat.pow_succ]; simp)
            have eD : (C : Int) % 128 = (D : Int) := by rw [← hD]; rfl
            have hEl : E < 34359738368 := by clear hE hD hU hMd; omega
            have eE : wrap64 ((D : Int) * u) = (E : Int) := num_mul k D E u hU hE hEl
            have HL := hide (gr_last l q k m C M (by omega) hlt Hgr.out hC hMd)
            have HN := hide (gr_next l q k m C M (by omega) hlt Hgr.out hC hMd)
            clear hC h4 hD hE hM hM1 hMd Hgr Hm hU hMl
            by_cases hbig : 128 ≤ C
            · go_wp2
              go_round
              case rel => exact ⟨k + 1, M, u * 128, by omega, by go_num, by rw [← HM.out]; go_num, by go_num, HU.out, HM1.out, HN.out hbig⟩
              case measure => simp [intOf]; omega
            · have hf := hide (grp_some l q M k C hq (HL.out hbig))
              clear HL HN
              have hend : Hid (∀ (P : Int) (X : Bool), P = (q : Int) + k + 1 → (k = 0 → X = true) → (0 < k → X = decide (0 < C)) → grp l q = ((m : Int) + (E : Int), P, X)) := hide (by
                intro P X hP hX1 hX2
                rw [hf.out, ← HM.out, hP]
                by_cases hk0 : k = 0
                · rw [hX1 hk0, hk0]; simp
                · rw [hX2 (by omega)]; simp [hk0])
              by_cases hk0 : k < 1
              · go_wp2
                go_ret3
                exact ⟨ret_tri (hend.out _ _ (by omega) (fun _ => rfl) (by intro h; omega)), rfl⟩
              · go_wp2
                go_ret3
                exact ⟨ret_tri (hend.out _ _ (by omega) (by intro h; omega) (fun _ => by first | (simp; done) | (rw [Bool.eq_iff_iff]; simp; omega))), rfl⟩
          · have hk6 : ¬ k < 5 := by have := HR5.out; omega
            have hf := hide (grp_none l q (by rw [Hgr.out]; rw [show 5 - k = 0 from by have := HR5.out; omega]; rfl))
            go_wp2
            go_ret3
            exact ⟨ret_tri hf.out, rfl⟩
      · obtain ⟨R, hR, hR6, hRl⟩ : ∃ R, l.length - q = R ∧ R ≤ 5 ∧ q + R ≤ l.length := ⟨_, rfl, by omega, by omega⟩
        have HR := hide hR
        have HR5 := hide (show l.length ≤ q + R from by omega)
        clear hR
        go_enter Tryz.func151, Tryz.ntmps151
        go_wp2
        rw [HR.out]
        go_loop [7, 8, 28] (fun mm uu kk => ∃ (k m : Nat) (u : Int), k ≤ R ∧ kk = .int .i64 k ∧ mm = .int .i64 m ∧ uu = .int .i64 u ∧ ((128 ^ k : Nat) : Int) = u ∧ m < 128 ^ k ∧ gr 5 (l.drop q) 0 0 = gr (5 - k) (l.drop (q + k)) m k) (fun _ _ kk => 5 - (intOf kk).toNat)
        case atStart => exact ⟨0, 0, 1, by omega, rfl, rfl, rfl, rfl, by simp, rfl⟩
        case round =>
          obtain ⟨k, m, u, hk, rfl, rfl, rfl, hU, hm, hgr⟩ := hrel
          have Hm := hide hm
          have Hgr := hide hgr
          clear hm hgr
          have hUl : u ≤ 34359738368 := by rw [← hU]; have := pow128_le k (by omega); omega
          have hU0 : 0 ≤ u := by rw [← hU]; exact Int.natCast_nonneg _
          have hm5 : m < 34359738368 := by have := Hm.out; have := pow128_le k (by omega); omega
          by_cases hk5 : k < R
          · have hlt : q + k < l.length := by omega
            have hc : w.cell? ⟨b, off + q + k, none⟩ = some (.int .u8 (l[q + k].toNat : Int)) := by rw [Nat.add_assoc]; exact h4 (q + k) hlt
            obtain ⟨C, hC, hC2⟩ : ∃ C : Nat, l[q + k].toNat = C ∧ C < 256 := ⟨_, rfl, l[q + k].toNat_lt⟩
            rw [hC] at hc
            obtain ⟨D, hD, hD2⟩ : ∃ D : Nat, C % 128 = D ∧ D < 128 := ⟨_, rfl, Nat.mod_lt _ (by omega)⟩
            obtain ⟨E, hE⟩ : ∃ E : Nat, D * 128 ^ k = E := ⟨_, rfl⟩
            obtain ⟨M, hM⟩ : ∃ M : Nat, m + E = M := ⟨_, rfl⟩
            obtain ⟨hMl, hM1, e3, e2⟩ := num_or m k D E M Hm.out hD2 (by omega) hE hM
            clear e3 e2
            have hMd : m + C % 128 * 128 ^ k = M := by rw [hD, hE, hM]
            have HM1 := hide hM1
            have HM := hide hM
            have HU := hide (show ((128 ^ (k + 1) : Nat) : Int) = u * 128 from by rw [← hU, Nat.pow_succ]; simp)
            have eD : (C : Int) % 128 = (D : Int) := by rw [← hD]; rfl
            have hEl : E < 34359738368 := by clear hE hD hU hMd; omega
            have eE : wrap64 ((D : Int) * u) = (E : Int) := num_mul k D E u hU hE hEl
            have HL := hide (gr_last l q k m C M (by omega) hlt Hgr.out hC hMd)
            have HN := hide (gr_next l q k m C M (by omega) hlt Hgr.out hC hMd)
            clear hC h4 hD hE hM hM1 hMd Hgr Hm hU hMl
            by_cases hbig : 128 ≤ C
            · go_wp2
              go_round
              case rel => exact ⟨k + 1, M, u * 128, by omega, by go_num, by rw [← HM.out]; go_num, by go_num, HU.out, HM1.out, HN.out hbig⟩
              case measure => simp [intOf]; omega
            · have hf := hide (grp_some l q M k C hq (HL.out hbig))
              clear HL HN
              have hend : Hid (∀ (P : Int) (X : Bool), P = (q : Int) + k + 1 → (k = 0 → X = true) → (0 < k → X = decide (0 < C)) → grp l q = ((m : Int) + (E : Int), P, X)) := hide (by
                intro P X hP hX1 hX2
                rw [hf.out, ← HM.out, hP]
                by_cases hk0 : k = 0
                · rw [hX1 hk0, hk0]; simp
                · rw [hX2 (by omega)]; simp [hk0])
              by_cases hk0 : k < 1
              · go_wp2
                go_ret3
                exact ⟨ret_tri (hend.out _ _ (by omega) (fun _ => rfl) (by intro h; omega)), rfl⟩
              · go_wp2
                go_ret3
                exact ⟨ret_tri (hend.out _ _ (by omega) (by intro h; omega) (fun _ => by first | (simp; done) | (rw [Bool.eq_iff_iff]; simp; omega))), rfl⟩
          · have hf := hide (grp_none l q (by rw [Hgr.out]; exact gr_end _ _ _ (by have := HR5.out; omega) _ _))
            go_wp2
            go_ret3
            exact ⟨ret_tri hf.out, rfl⟩

set_option maxRecDepth 20000 in
theorem unfold_any (x : Int) (w : World) (h0 : 0 ≤ x) (h1 : x ≤ 2000000000) :
    Calls Tryz.prog 152 #[.int .i64 x] w fun e w' => e = .returned (.int .i64 (if x % 2 = 1 then -(x / 2) - 1 else x / 2)) ∧ w' = w := by
  by_cases hp : x % 2 = 1
  · have hq : (x % 2 == 1) = true := by simp [hp]
    have HP := hide hp
    clear hp
    go_enter Tryz.func152, Tryz.ntmps152
    go_wp2
    go_ret
    refine ⟨ret_int ?_, rfl⟩
    have hx := HP.out
    rw [Int.tdiv_eq_ediv_of_nonneg (by omega)]
    unfold wrap64
    omega
  · have hq : (x % 2 == 1) = false := by simp [hp]
    have HP := hide hp
    clear hp
    go_enter Tryz.func152, Tryz.ntmps152
    go_wp2
    go_ret
    exact ⟨ret_int rfl, rfl⟩

theorem grp_getN (l : List UInt8) (p : Int) : getN l p = if (grp l p).2.2 = true ∧ (grp l p).1 ≤ 2000000000 then ((if (grp l p).1 % 2 = 1 then -((grp l p).1 / 2) - 1 else (grp l p).1 / 2), (grp l p).2.1, true) else (0, 0, false) := by
  by_cases hin : 0 ≤ p ∧ p < l.length
  · cases hg : gr 5 (l.drop p.toNat) 0 0 with
    | none =>
      have e1 : grp l p = (0, 0, false) := by unfold grp; rw [if_pos hin, hg]
      have e2 : getN l p = (0, 0, false) := by unfold getN; rw [if_pos hin, hg]
      rw [e1, e2]; simp
    | some r =>
      obtain ⟨m, k, c⟩ := r
      have e1 : grp l p = ((m : Int), p + k + 1, decide (k = 0) || decide (0 < c)) := by unfold grp; rw [if_pos hin, hg]
      have e2 : getN l p = if (0 < k ∧ c = 0) ∨ 2000000000 < m then (0, 0, false) else ((if m % 2 = 1 then -((m : Int) / 2) - 1 else (m : Int) / 2), p + k + 1, true) := by unfold getN; rw [if_pos hin, hg]
      rw [e1, e2]
      simp only [Bool.or_eq_true, decide_eq_true_eq]
      by_cases hb : (0 < k ∧ c = 0) ∨ 2000000000 < m
      · rw [if_pos hb, if_neg (by omega)]
      · have hc : (k = 0 ∨ 0 < c) ∧ (m : Int) ≤ 2000000000 := by omega
        by_cases hm : m % 2 = 1
        · rw [if_neg hb, if_pos hm, if_pos hc, if_pos (show (m : Int) % 2 = 1 from by omega)]
        · rw [if_neg hb, if_neg hm, if_pos hc, if_neg (show ¬ (m : Int) % 2 = 1 from by omega)]
  · have e1 : grp l p = (0, 0, false) := by unfold grp; rw [if_neg hin]
    have e2 : getN l p = (0, 0, false) := by unfold getN; rw [if_neg hin]
    rw [e1, e2]; simp

theorem grp_ge (l : List UInt8) (p : Int) : 0 ≤ (grp l p).1 := by
  unfold grp
  split
  · split
    · simp
    · simp
  · simp

set_option maxRecDepth 20000 in
set_option maxHeartbeats 1000000 in
theorem implGetNum_any (v : Value) (l : List UInt8) (p : Int) (w : World) (hr : RdB w v l) (hl : l.length ≤ 4000000) (hp1 : -9223372036854775808 ≤ p) (hp2 : p ≤ 9223372036854775807) :
    Calls Tryz.prog 140 #[v, .int .i64 p] w fun e w' => e = .returned (tri (getN l p)) ∧ w' = w := by
  have hg := groupsAt_any v l p w hr hl hp1 hp2
  have h0 := grp_ge l p
  have he := grp_getN l p
  generalize grp l p = G at hg h0 he
  obtain ⟨m, x, ok⟩ := G
  simp only at h0 he
  simp only [tri] at hg
  have Hg := hide hg
  clear hg
  cases ok
  · have hf := hide (show getN l p = (0, 0, false) from by rw [he]; simp)
    clear he
    go_enter Tryz.func140, Tryz.ntmps140
    go_wp2_with (go_at_call 151; refine Hg.out.mono ?_; rintro e w' ⟨rfl, rfl⟩)
    go_ret3
    exact ⟨ret_tri hf.out, rfl⟩
  · by_cases hb : m ≤ 2000000000
    · by_cases hm : m % 2 = 1
      · have hf := hide (show getN l p = (-(m / 2) - 1, x, true) from by rw [he, if_pos ⟨rfl, hb⟩, if_pos hm])
        clear he
        go_enter Tryz.func140, Tryz.ntmps140
        go_wp2_with (first | (go_at_call 151; refine Hg.out.mono ?_; rintro e w' ⟨rfl, rfl⟩) | (go_at_call 152; refine (unfold_any _ _ h0 hb).mono ?_; rintro e w' ⟨rfl, rfl⟩))
        go_ret3
        exact ⟨ret_tri hf.out, rfl⟩
      · have hf := hide (show getN l p = (m / 2, x, true) from by rw [he, if_pos ⟨rfl, hb⟩, if_neg hm])
        clear he
        go_enter Tryz.func140, Tryz.ntmps140
        go_wp2_with (first | (go_at_call 151; refine Hg.out.mono ?_; rintro e w' ⟨rfl, rfl⟩) | (go_at_call 152; refine (unfold_any _ _ h0 hb).mono ?_; rintro e w' ⟨rfl, rfl⟩))
        go_ret3
        exact ⟨ret_tri hf.out, rfl⟩
    · have hf := hide (show getN l p = (0, 0, false) from by rw [he]; simp [hb])
      clear he
      go_enter Tryz.func140, Tryz.ntmps140
      go_wp2_with (go_at_call 151; refine Hg.out.mono ?_; rintro e w' ⟨rfl, rfl⟩)
      go_ret3
      exact ⟨ret_tri hf.out, rfl⟩
end Go.Proofs.YtcmmdkabocfnfaaGreatDoor
