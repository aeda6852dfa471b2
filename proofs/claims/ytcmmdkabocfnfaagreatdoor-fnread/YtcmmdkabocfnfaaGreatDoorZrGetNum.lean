/- GetNum: the program's and the model's answer alike, at all bytes and all places. -/
import Derived.Test.YtcmmdkabocfnfaaGreatDoorZrNames
import Derived.Test.YtcmmdkabocfnfaaGreatDoorZrDraw
namespace Go.Proofs.YtcmmdkabocfnfaaGreatDoor
open Go.RowKit
set_option linter.unusedVariables false

def tri (x : Int × Int × Bool) : Value := .tuple #[.int .i64 x.1, .int .i64 x.2.1, .bool x.2.2]
theorem ret_tri {a : Int} {b : Int} {c : Bool} {x : Int × Int × Bool} (h : x = (a, b, c)) : Ending.returned (.tuple #[.int .i64 a, .int .i64 b, .bool c]) = .returned (tri x) := by
  rw [h]; rfl

theorem getN_out (l : List UInt8) (p : Int) (h : p < 0 ∨ l.length ≤ p) : getN l p = (0, 0, false) := by
  unfold getN; rw [if_neg (by omega)]

set_option maxHeartbeats 1000000 in
theorem specGetNum_any (v : Value) (l : List UInt8) (p : Int) (w : World) (hr : RdB w v l) (hl : l.length ≤ 4000000) (hp1 : -9223372036854775808 ≤ p) (hp2 : p ≤ 9223372036854775807) :
    Calls Tryz.prog 71 #[v, .int .i64 p] w fun e w' => e = .returned (tri (getN l p)) ∧ w' = w := by
  by_cases hin : p < 0 ∨ l.length ≤ p
  · have hf := hide (getN_out l p hin)
    obtain ⟨a, cap, rfl⟩ := hr.shape
    clear hr
    rcases hin with h | h
    · go_enter Tryz.func71, Tryz.ntmps71
      go_wp2
      refine wp_loop_rounds 1 ?_
      rw [rounds_succ]
      go_wp2
      go_ret3
      exact ⟨ret_tri hf.out, rfl⟩
    · have h' : 0 ≤ p := by omega
      go_enter Tryz.func71, Tryz.ntmps71
      go_wp2
      refine wp_loop_rounds 1 ?_
      rw [rounds_succ]
      go_wp2
      go_ret3
      exact ⟨ret_tri hf.out, rfl⟩
  · obtain ⟨q, rfl⟩ := Int.eq_ofNat_of_zero_le (show 0 ≤ p from by omega)
    rcases hr with ⟨a, cap, rfl, rfl, -⟩ | ⟨b, off, cap, h0, rfl, h1, h2, h3, h4⟩
    · exact absurd hin (by simp)
    · have hq : q < l.length := by omega
      clear hin
      have hg0 : Hid (getN l q = match gr 5 (l.drop q) 0 0 with
        | none => (0, 0, false)
        | some (m, k, c) => if (0 < k ∧ c = 0) ∨ 2000000000 < m then (0, 0, false) else ((if m % 2 = 1 then -((m : Int) / 2) - 1 else (m : Int) / 2), (q : Int) + k + 1, true)) := hide (by
          unfold getN; rw [if_pos (by omega)]; rfl)
      go_enter Tryz.func71, Tryz.ntmps71
      go_wp2
      go_loop [7, 8] (fun mm kk => ∃ k m : Nat, k ≤ 5 ∧ kk = .int .i64 k ∧ mm = .int .i64 m ∧ m < 128 ^ k ∧ gr 5 (l.drop q) 0 0 = gr (5 - k) (l.drop (q + k)) m k) (fun _ kk => 5 - (intOf kk).toNat)
      case atStart => exact ⟨0, 0, by omega, rfl, rfl, by simp, rfl⟩
      case round =>
        obtain ⟨k, m, hk, rfl, rfl, hm, hgr⟩ := hrel
        have Hm := hide hm
        have Hgr := hide hgr
        clear hm hgr
        have hm5 : m < 34359738368 := by have := pow128_le k hk; have := Hm.out; omega
        by_cases hk5 : k < 5
        · by_cases hlt : q + k < l.length
          · have hc := h4 (q + k) hlt
            obtain ⟨C, hC, hC2⟩ : ∃ C : Nat, l[q + k].toNat = C ∧ C < 256 := ⟨_, rfl, l[q + k].toNat_lt⟩
            rw [hC] at hc
            obtain ⟨D, hD, hD2⟩ : ∃ D : Nat, C % 128 = D ∧ D < 128 := ⟨_, rfl, Nat.mod_lt _ (by omega)⟩
            obtain ⟨E, hE⟩ : ∃ E : Nat, D * 128 ^ k = E := ⟨_, rfl⟩
            obtain ⟨M, hM⟩ : ∃ M : Nat, m + E = M := ⟨_, rfl⟩
            obtain ⟨hMl, hM1, e3, e2⟩ := num_or m k D E M Hm.out hD2 hk5 hE hM
            have hMd : m + C % 128 * 128 ^ k = M := by rw [hD, hE, hM]
            have HM1 := hide hM1
            have e1 : bits .and .i64 (C : Int) 127 = (D : Int) := by rw [and127 C (by omega), hD]
            have HL := hide (gr_last l q k m C M hk5 hlt Hgr.out hC hMd)
            have HN := hide (gr_next l q k m C M hk5 hlt Hgr.out hC hMd)
            clear hC h4 hD hE hM hM1 hMd Hgr Hm
            by_cases hbig : 128 ≤ C
            · go_wp2_with (go_at_call 58; refine (l1In_any _ _ _ _).mono ?_; rintro e w' ⟨rfl, rfl⟩)
              go_round
              case rel => exact ⟨k + 1, M, by omega, by go_num, rfl, HM1.out, HN.out hbig⟩
              case measure => simp [intOf]; omega
            · have HS := hide (HL.out hbig)
              clear HL HN
              by_cases hpar : M % 2 = 1
              · have e4 : bits .and .i64 (M : Int) 1 = 1 := by rw [and1 M (by omega), hpar]; rfl
                have HP := hide hpar
                clear hpar
                by_cases hz : 0 < k ∧ C = 0
                · have hf := hide (getN_bad l q M k C HS.out (Or.inl hz))
                  obtain ⟨hz1, hz2⟩ := hz
                  have hz3 : C < 1 := by omega
                  clear hz2
                  go_wp2_with (go_at_call 58; refine (l1In_any _ _ _ _).mono ?_; rintro e w' ⟨rfl, rfl⟩)
                  go_ret3
                  exact ⟨ret_tri hf.out, rfl⟩
                · by_cases hb2 : 2000000000 < M
                  · have hf := hide (getN_bad l q M k C HS.out (Or.inr hb2))
                    have hi : inB (-((M : Int) / 2) - 1) (-1000000000) 1000000000 = false := by unfold inB; rw [decide_eq_false]; have := HP.out; omega
                    rcases (show k < 1 ∨ (0 < k ∧ 0 < C) from by omega) with h | ⟨h, h'⟩ <;> clear hz
                    all_goals
                      go_wp2_with (go_at_call 58; refine (l1In_any _ _ _ _).mono ?_; rintro e w' ⟨rfl, rfl⟩)
                      go_ret3
                      exact ⟨ret_tri hf.out, rfl⟩
                  · have hf := hide (getN_odd l q M k C hq HS.out (by omega) HP.out)
                    have hi : inB (-((M : Int) / 2) - 1) (-1000000000) 1000000000 = true := by unfold inB; rw [decide_eq_true]; have := HP.out; omega
                    rcases (show k < 1 ∨ (0 < k ∧ 0 < C) from by omega) with h | ⟨h, h'⟩ <;> clear hz
                    all_goals
                      go_wp2_with (go_at_call 58; refine (l1In_any _ _ _ _).mono ?_; rintro e w' ⟨rfl, rfl⟩)
                      go_ret3
                      exact ⟨ret_tri hf.out, rfl⟩
              · have e4 : bits .and .i64 (M : Int) 1 = 0 := by rw [and1 M (by omega), show M % 2 = 0 from by omega]; rfl
                have HP := hide hpar
                clear hpar
                by_cases hz : 0 < k ∧ C = 0
                · have hf := hide (getN_bad l q M k C HS.out (Or.inl hz))
                  obtain ⟨hz1, hz2⟩ := hz
                  have hz3 : C < 1 := by omega
                  clear hz2
                  go_wp2_with (go_at_call 58; refine (l1In_any _ _ _ _).mono ?_; rintro e w' ⟨rfl, rfl⟩)
                  go_ret3
                  exact ⟨ret_tri hf.out, rfl⟩
                · by_cases hb2 : 2000000000 < M
                  · have hf := hide (getN_bad l q M k C HS.out (Or.inr hb2))
                    have hi : inB ((M : Int) / 2) (-1000000000) 1000000000 = false := by unfold inB; rw [decide_eq_false]; have := HP.out; omega
                    rcases (show k < 1 ∨ (0 < k ∧ 0 < C) from by omega) with h | ⟨h, h'⟩ <;> clear hz
                    all_goals
                      go_wp2_with (go_at_call 58; refine (l1In_any _ _ _ _).mono ?_; rintro e w' ⟨rfl, rfl⟩)
                      go_ret3
                      exact ⟨ret_tri hf.out, rfl⟩
                  · have hf := hide (getN_even l q M k C hq HS.out (by omega) HP.out)
                    have hi : inB ((M : Int) / 2) (-1000000000) 1000000000 = true := by unfold inB; rw [decide_eq_true]; have := HP.out; omega
                    rcases (show k < 1 ∨ (0 < k ∧ 0 < C) from by omega) with h | ⟨h, h'⟩ <;> clear hz
                    all_goals
                      go_wp2_with (go_at_call 58; refine (l1In_any _ _ _ _).mono ?_; rintro e w' ⟨rfl, rfl⟩)
                      go_ret3
                      exact ⟨ret_tri hf.out, rfl⟩
          · have hf := hide (getN_none l q (by rw [Hgr.out]; exact gr_end _ _ _ (by omega) _ _))
            go_wp2
            go_ret3
            exact ⟨ret_tri hf.out, rfl⟩
        · have hf := hide (getN_none l q (by rw [Hgr.out, show 5 - k = 0 from by omega]; rfl))
          go_wp2
          go_ret3
          exact ⟨ret_tri hf.out, rfl⟩
end Go.Proofs.YtcmmdkabocfnfaaGreatDoor
