/- A number comes back of its bytes; cut it does not. GetNum: the program's and the model's answer alike, at all bytes and all places. -/
import Derived.Test.YtcmmdkabocfnfaaGreatDoorZbDraw
import Derived.Test.YtcmmdkabocfnfaaGreatDoorZbNames
namespace Go.Proofs.YtcmmdkabocfnfaaGreatDoor
open Go.RowKit
set_option linter.unusedVariables false

theorem putG_ne (f m : Nat) : putG f m ≠ [] := by
  cases f with
  | zero => simp [putG]
  | succ f => rw [putG]; split <;> simp

theorem low_byte (m : Nat) (h : m ≤ 127) : (UInt8.ofNat m).toNat = m := by rw [UInt8.toNat_ofNat']; omega
theorem high_byte (m : Nat) : (UInt8.ofNat (m % 128 + 128)).toNat = m % 128 + 128 := by rw [UInt8.toNat_ofNat']; omega

theorem sum_step (acc m k : Nat) : acc + m % 128 * 128 ^ k + m / 128 * 128 ^ (k + 1) = acc + m * 128 ^ k := by
  have e : m = m % 128 + 128 * (m / 128) := (Nat.mod_add_div m 128).symm
  rw [Nat.pow_succ, Nat.mul_comm (128 ^ k) 128, ← Nat.mul_assoc, Nat.add_assoc, ← Nat.add_mul]
  congr 2
  omega

theorem gr_put : ∀ (f F m acc k : Nat) (rest : List UInt8), F ≤ f + 1 → 0 < F → m < 128 ^ F →
    ∃ C, gr F (putG f m ++ rest) acc k = some (acc + m * 128 ^ k, k + ((putG f m).length - 1), C) ∧ (C = 0 → m = 0) ∧ (127 < m → 1 < (putG f m).length) ∧ (m ≤ 127 → (putG f m).length = 1) := by
  intro f
  induction f with
  | zero =>
    intro F m acc k rest hF hF0 hm
    cases F with
    | zero => omega
    | succ F =>
      have : F = 0 := by omega
      subst this
      simp at hm
      refine ⟨m, ?_, id, fun h => by omega, fun _ => by simp [putG]⟩
      simp only [putG, List.singleton_append, gr, low_byte m (by omega)]
      rw [if_neg (by omega), Nat.mod_eq_of_lt (by omega)]
      simp
  | succ f ih =>
    intro F m acc k rest hF hF0 hm
    by_cases h : m ≤ 127
    · rw [putG_last _ m h]
      cases F with
      | zero => omega
      | succ F =>
        refine ⟨m, ?_, id, fun h => by omega, fun _ => by simp⟩
        simp only [List.singleton_append, gr, low_byte m h]
        rw [if_neg (by omega), Nat.mod_eq_of_lt (by omega)]
        simp
    · rw [putG_more f m h]
      cases F with
      | zero => omega
      | succ F =>
        have hm' : m / 128 < 128 ^ F := by
          rw [Nat.pow_succ] at hm
          exact Nat.div_lt_of_lt_mul (by rw [Nat.mul_comm]; exact hm)
        obtain ⟨C, hg, hC, hl1, hl2⟩ := ih F (m / 128) (acc + m % 128 * 128 ^ k) (k + 1) rest (by omega) (by
          cases F with
          | zero => simp at hm'; omega
          | succ F => omega) hm'
        refine ⟨C, ?_, fun h0 => by have := hC h0; omega, fun _ => ?_, fun h' => by omega⟩
        · simp only [List.cons_append, gr, high_byte]
          rw [if_pos (by omega), show (m % 128 + 128) % 128 = m % 128 from by omega, hg, sum_step]
          have hne : (putG f (m / 128)).length ≠ 0 := by rw [Ne, List.length_eq_zero_iff]; exact putG_ne _ _
          simp only [List.length_cons]
          congr 3
          omega
        · have hne : (putG f (m / 128)).length ≠ 0 := by rw [Ne, List.length_eq_zero_iff]; exact putG_ne _ _
          simp only [List.length_cons]; omega

theorem gr_cut : ∀ (f F m acc k : Nat), gr F ((putG f m).dropLast) acc k = none := by
  intro f
  induction f with
  | zero => intro F m acc k; cases F <;> simp [putG, gr]
  | succ f ih =>
    intro F m acc k
    by_cases h : m ≤ 127
    · rw [putG_last _ m h]; cases F <;> simp [gr]
    · rw [putG_more f m h, List.dropLast_cons_of_ne_nil (putG_ne _ _)]
      cases F with
      | zero => rfl
      | succ F =>
        rw [gr, high_byte, if_pos (by omega)]
        exact ih _ _ _ _

def clampN (n : Int) : Int := if 1000000000 < n then 1000000000 else if n < -1000000000 then -1000000000 else n

theorem unfold_fold (n : Int) : (if foldN n % 2 = 1 then -((foldN n : Int) / 2) - 1 else (foldN n : Int) / 2) = clampN n := by
  unfold foldN clampN
  split <;> split <;> split <;> omega

theorem getN_put (l rest : List UInt8) (n : Int) : getN (l ++ (numB n ++ rest)) (l.length : Int) = (clampN n, (l.length : Int) + (numB n).length, true) := by
  have hM := foldN_le n
  obtain ⟨C, hg, hC, hl1, hl2⟩ := gr_put 5 5 (foldN n) 0 0 rest (by omega) (by omega) (by
    have : (128 : Nat) ^ 5 = 34359738368 := by decide
    omega)
  have hne : (putG 5 (foldN n)).length ≠ 0 := by rw [Ne, List.length_eq_zero_iff]; exact putG_ne _ _
  have hlen : 0 < (numB n).length := by unfold numB; omega
  unfold getN
  rw [if_pos (by simp; omega)]
  rw [Int.toNat_natCast, List.drop_left]
  unfold numB
  rw [hg]
  simp only [Nat.zero_add, Nat.pow_zero, Nat.mul_one]
  rw [if_neg (by omega), unfold_fold]
  congr 2
  omega

theorem getN_cut (l : List UInt8) (n : Int) : getN (l ++ (numB n).dropLast) (l.length : Int) = (0, 0, false) := by
  unfold getN
  split
  · rw [Int.toNat_natCast, List.drop_left]
    unfold numB
    rw [gr_cut]
  · rfl
end Go.Proofs.YtcmmdkabocfnfaaGreatDoor

namespace Go.Proofs.YtcmmdkabocfnfaaGreatDoor
open Go.RowKit
set_option linter.unusedVariables false

def tri (x : Int × Int × Bool) : Value := .tuple #[.int .i64 x.1, .int .i64 x.2.1, .bool x.2.2]
theorem ret_tri {a : Int} {b : Int} {c : Bool} {x : Int × Int × Bool} (h : x = (a, b, c)) : Ending.returned (.tuple #[.int .i64 a, .int .i64 b, .bool c]) = .returned (tri x) := by
  rw [h]; rfl

theorem getN_out (l : List UInt8) (p : Int) (h : p < 0 ∨ l.length ≤ p) : getN l p = (0, 0, false) := by
  unfold getN; rw [if_neg (by omega)]

set_option maxHeartbeats 1000000 in
theorem specGetNum_any (v : Value) (l : List UInt8) (p : Int) (w : World) (hr : RdB w v l) (hl : l.length ≤ 4000000) (hp1 : -9223372036854775808 ≤ p) (hp2 : p ≤ 9223372036854775807) :
    Calls Tryz.prog 71 #[v, .int .i64 p] w fun e w' => e = .returned (tri (getN l p)) ∧ w' = w := by
  by_cases hin : p < 0 ∨ l.length ≤ p
  · have hf := hide (getN_out l p hin)
    obtain ⟨a, cap, rfl⟩ := hr.shape
    clear hr
    rcases hin with h | h
    · go_enter Tryz.func71, Tryz.ntmps71
      go_wp2
      refine wp_loop_rounds 1 ?_
      rw [rounds_succ]
      go_wp2
      go_ret3
      exact ⟨ret_tri hf.out, rfl⟩
    · have h' : 0 ≤ p := by omega
      go_enter Tryz.func71, Tryz.ntmps71
      go_wp2
      refine wp_loop_rounds 1 ?_
      rw [rounds_succ]
      go_wp2
      go_ret3
      exact ⟨ret_tri hf.out, rfl⟩
  · obtain ⟨q, rfl⟩ := Int.eq_ofNat_of_zero_le (show 0 ≤ p from by omega)
    rcases hr with ⟨a, cap, rfl, rfl, -⟩ | ⟨b, off, cap, h0, rfl, h1, h2, h3, h4⟩
    · exact absurd hin (by simp)
    · have hq : q < l.length := by omega
      clear hin
      have hg0 : Hid (getN l q = match gr 5 (l.drop q) 0 0 with
        | none => (0, 0, false)
        | some (m, k, c) => if (0 < k ∧ c = 0) ∨ 2000000000 < m then (0, 0, false) else ((if m % 2 = 1 then -((m : Int) / 2) - 1 else (m : Int) / 2), (q : Int) + k + 1, true)) := hide (by
          unfold getN; rw [if_pos (by omega)]; rfl)
      go_enter Tryz.func71, Tryz.ntmps71
      go_wp2
      go_loop [7, 8] (fun mm kk => ∃ k m : Nat, k ≤ 5 ∧ kk = .int .i64 k ∧ mm = .int .i64 m ∧ m < 128 ^ k ∧ gr 5 (l.drop q) 0 0 = gr (5 - k) (l.drop (q + k)) m k) (fun _ kk => 5 - (intOf kk).toNat)
      case atStart => exact ⟨0, 0, by omega, rfl, rfl, by simp, rfl⟩
      case round =>
        obtain ⟨k, m, hk, rfl, rfl, hm, hgr⟩ := hrel
        have Hm := hide hm
        have Hgr := hide hgr
        clear hm hgr
        have hm5 : m < 34359738368 := by have := pow128_le k hk; have := Hm.out; omega
        by_cases hk5 : k < 5
        · by_cases hlt : q + k < l.length
          · have hc := h4 (q + k) hlt
            obtain ⟨C, hC, hC2⟩ : ∃ C : Nat, l[q + k].toNat = C ∧ C < 256 := ⟨_, rfl, l[q + k].toNat_lt⟩
            rw [hC] at hc
            obtain ⟨D, hD, hD2⟩ : ∃ D : Nat, C % 128 = D ∧ D < 128 := ⟨_, rfl, Nat.mod_lt _ (by omega)⟩
            obtain ⟨E, hE⟩ : ∃ E : Nat, D * 128 ^ k = E := ⟨_, rfl⟩
            obtain ⟨M, hM⟩ : ∃ M : Nat, m + E = M := ⟨_, rfl⟩
            obtain ⟨hMl, hM1, e3, e2⟩ := num_or m k D E M Hm.out hD2 hk5 hE hM
            have hMd : m + C % 128 * 128 ^ k = M := by rw [hD, hE, hM]
            have HM1 := hide hM1
            have e1 : bits .and .i64 (C : Int) 127 = (D : Int) := by rw [and127 C (by omega), hD]
            have HL := hide (gr_last l q k m C M hk5 hlt Hgr.out hC hMd)
            have HN := hide (gr_next l q k m C M hk5 hlt Hgr.out hC hMd)
            clear hC h4 hD hE hM hM1 hMd Hgr Hm
            by_cases hbig : 128 ≤ C
            · go_wp2_with (go_at_call 58; refine (l1In_any _ _ _ _).mono ?_; rintro e w' ⟨rfl, rfl⟩)
              go_round
              case rel => exact ⟨k + 1, M, by omega, by go_num, rfl, HM1.out, HN.out hbig⟩
              case measure => simp [intOf]; omega
            · have HS := hide (HL.out hbig)
              clear HL HN
              by_cases hpar : M % 2 = 1
              · have e4 : bits .and .i64 (M : Int) 1 = 1 := by rw [and1 M (by omega), hpar]; rfl
                have HP := hide hpar
                clear hpar
                by_cases hz : 0 < k ∧ C = 0
                · have hf := hide (getN_bad l q M k C HS.out (Or.inl hz))
                  obtain ⟨hz1, hz2⟩ := hz
                  have hz3 : C < 1 := by omega
                  clear hz2
                  go_wp2_with (go_at_call 58; refine (l1In_any _ _ _ _).mono ?_; rintro e w' ⟨rfl, rfl⟩)
                  go_ret3
                  exact ⟨ret_tri hf.out, rfl⟩
                · by_cases hb2 : 2000000000 < M
                  · have hf := hide (getN_bad l q M k C HS.out (Or.inr hb2))
                    have hi : inB (-((M : Int) / 2) - 1) (-1000000000) 1000000000 = false := by unfold inB; rw [decide_eq_false]; have := HP.out; omega
                    rcases (show k < 1 ∨ (0 < k ∧ 0 < C) from by omega) with h | ⟨h, h'⟩ <;> clear hz
                    all_goals
                      go_wp2_with (go_at_call 58; refine (l1In_any _ _ _ _).mono ?_; rintro e w' ⟨rfl, rfl⟩)
                      go_ret3
                      exact ⟨ret_tri hf.out, rfl⟩
                  · have hf := hide (getN_odd l q M k C hq HS.out (by omega) HP.out)
                    have hi : inB (-((M : Int) / 2) - 1) (-1000000000) 1000000000 = true := by unfold inB; rw [decide_eq_true]; have := HP.out; omega
                    rcases (show k < 1 ∨ (0 < k ∧ 0 < C) from by omega) with h | ⟨h, h'⟩ <;> clear hz
                    all_goals
                      go_wp2_with (go_at_call 58; refine (l1In_any _ _ _ _).mono ?_; rintro e w' ⟨rfl, rfl⟩)
                      go_ret3
                      exact ⟨ret_tri hf.out, rfl⟩
              · have e4 : bits .and .i64 (M : Int) 1 = 0 := by rw [and1 M (by omega), show M % 2 = 0 from by omega]; rfl
                have HP := hide hpar
                clear hpar
                by_cases hz : 0 < k ∧ C = 0
                · have hf := hide (getN_bad l q M k C HS.out (Or.inl hz))
                  obtain ⟨hz1, hz2⟩ := hz
                  have hz3 : C < 1 := by omega
                  clear hz2
                  go_wp2_with (go_at_call 58; refine (l1In_any _ _ _ _).mono ?_; rintro e w' ⟨rfl, rfl⟩)
                  go_ret3
                  exact ⟨ret_tri hf.out, rfl⟩
                · by_cases hb2 : 2000000000 < M
                  · have hf := hide (getN_bad l q M k C HS.out (Or.inr hb2))
                    have hi : inB ((M : Int) / 2) (-1000000000) 1000000000 = false := by unfold inB; rw [decide_eq_false]; have := HP.out; omega
                    rcases (show k < 1 ∨ (0 < k ∧ 0 < C) from by omega) with h | ⟨h, h'⟩ <;> clear hz
                    all_goals
                      go_wp2_with (go_at_call 58; refine (l1In_any _ _ _ _).mono ?_; rintro e w' ⟨rfl, rfl⟩)
                      go_ret3
                      exact ⟨ret_tri hf.out, rfl⟩
                  · have hf := hide (getN_even l q M k C hq HS.out (by omega) HP.out)
                    have hi : inB ((M : Int) / 2) (-1000000000) 1000000000 = true := by unfold inB; rw [decide_eq_true]; have := HP.out; omega
                    rcases (show k < 1 ∨ (0 < k ∧ 0 < C) from by omega) with h | ⟨h, h'⟩ <;> clear hz
                    all_goals
                      go_wp2_with (go_at_call 58; refine (l1In_any _ _ _ _).mono ?_; rintro e w' ⟨rfl, rfl⟩)
                      go_ret3
                      exact ⟨ret_tri hf.out, rfl⟩
          · have hf := hide (getN_none l q (by rw [Hgr.out]; exact gr_end _ _ _ (by omega) _ _))
            go_wp2
            go_ret3
            exact ⟨ret_tri hf.out, rfl⟩
        · have hf := hide (getN_none l q (by rw [Hgr.out, show 5 - k = 0 from by omega]; rfl))
          go_wp2
          go_ret3
          exact ⟨ret_tri hf.out, rfl⟩
end Go.Proofs.YtcmmdkabocfnfaaGreatDoor
