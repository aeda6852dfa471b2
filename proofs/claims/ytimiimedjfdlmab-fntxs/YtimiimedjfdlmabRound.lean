/- A number comes back of its bytes; cut it does not. -/
import Derived.Test.YtimiimedjfdlmabPutPure
namespace Go.Proofs.Ytimiimedjfdlmab
open Go.RowKit
set_option linter.unusedVariables false

theorem putG_ne (f m : Nat) : putG f m ≠ [] := by
  cases f with
  | zero => simp [putG]
  | succ f => rw [putG]; split <;> simp

theorem low_byte (m : Nat) (h : m ≤ 127) : (UInt8.ofNat m).toNat = m := by rw [UInt8.toNat_ofNat']; omega
theorem high_byte (m : Nat) : (UInt8.ofNat (m % 128 + 128)).toNat = m % 128 + 128 := by rw [UInt8.toNat_ofNat']; omega

theorem sum_step (acc m k : Nat) : acc + m % 128 * 128 ^ k + m / 128 * 128 ^ (k + 1) = acc + m * 128 ^ k := by
  have e : m = m % 128 + 128 * (m / 128) := (Nat.mod_add_div m 128).symm
  rw [Nat.pow_succ, Nat.mul_comm (128 ^ k) 128, ← Nat.mul_assoc, Nat.add_assoc, ← Nat.add_mul]
  congr 2
  omega

theorem gr_put : ∀ (f F m acc k : Nat) (rest : List UInt8), F ≤ f + 1 → 0 < F → m < 128 ^ F →
    ∃ C, gr F (putG f m ++ rest) acc k = some (acc + m * 128 ^ k, k + ((putG f m).length - 1), C) ∧ (C = 0 → m = 0) ∧ (127 < m → 1 < (putG f m).length) ∧ (m ≤ 127 → (putG f m).length = 1) := by
  intro f
  induction f with
  | zero =>
    intro F m acc k rest hF hF0 hm
    cases F with
    | zero => omega
    | succ F =>
      have : F = 0 := by omega
      subst this
      simp at hm
      refine ⟨m, ?_, id, fun h => by omega, fun _ => by simp [putG]⟩
      simp only [putG, List.singleton_append, gr, low_byte m (by omega)]
      rw [if_neg (by omega), Nat.mod_eq_of_lt (by omega)]
      simp
  | succ f ih =>
    intro F m acc k rest hF hF0 hm
    by_cases h : m ≤ 127
    · rw [putG_last _ m h]
      cases F with
      | zero => omega
      | succ F =>
        refine ⟨m, ?_, id, fun h => by omega, fun _ => by simp⟩
        simp only [List.singleton_append, gr, low_byte m h]
        rw [if_neg (by omega), Nat.mod_eq_of_lt (by omega)]
        simp
    · rw [putG_more f m h]
      cases F with
      | zero => omega
      | succ F =>
        have hm' : m / 128 < 128 ^ F := by
          rw [Nat.pow_succ] at hm
          exact Nat.div_lt_of_lt_mul (by rw [Nat.mul_comm]; exact hm)
        obtain ⟨C, hg, hC, hl1, hl2⟩ := ih F (m / 128) (acc + m % 128 * 128 ^ k) (k + 1) rest (by omega) (by
          cases F with
          | zero => simp at hm'; omega
          | succ F => omega) hm'
        refine ⟨C, ?_, fun h0 => by have := hC h0; omega, fun _ => ?_, fun h' => by omega⟩
        · simp only [List.cons_append, gr, high_byte]
          rw [if_pos (by omega), show (m % 128 + 128) % 128 = m % 128 from by omega, hg, sum_step]
          have hne : (putG f (m / 128)).length ≠ 0 := by rw [Ne, List.length_eq_zero_iff]; exact putG_ne _ _
          simp only [List.length_cons]
          congr 3
          omega
        · have hne : (putG f (m / 128)).length ≠ 0 := by rw [Ne, List.length_eq_zero_iff]; exact putG_ne _ _
          simp only [List.length_cons]; omega

theorem gr_cut : ∀ (f F m acc k : Nat), gr F ((putG f m).dropLast) acc k = none := by
  intro f
  induction f with
  | zero => intro F m acc k; cases F <;> simp [putG, gr]
  | succ f ih =>
    intro F m acc k
    by_cases h : m ≤ 127
    · rw [putG_last _ m h]; cases F <;> simp [gr]
    · rw [putG_more f m h, List.dropLast_cons_of_ne_nil (putG_ne _ _)]
      cases F with
      | zero => rfl
      | succ F =>
        rw [gr, high_byte, if_pos (by omega)]
        exact ih _ _ _ _

def clampN (n : Int) : Int := if 1000000000 < n then 1000000000 else if n < -1000000000 then -1000000000 else n

theorem unfold_fold (n : Int) : (if foldN n % 2 = 1 then -((foldN n : Int) / 2) - 1 else (foldN n : Int) / 2) = clampN n := by
  unfold foldN clampN
  split <;> split <;> split <;> omega

theorem getN_put (l rest : List UInt8) (n : Int) : getN (l ++ (numB n ++ rest)) (l.length : Int) = (clampN n, (l.length : Int) + (numB n).length, true) := by
  have hM := foldN_le n
  obtain ⟨C, hg, hC, hl1, hl2⟩ := gr_put 5 5 (foldN n) 0 0 rest (by omega) (by omega) (by
    have : (128 : Nat) ^ 5 = 34359738368 := by decide
    omega)
  have hne : (putG 5 (foldN n)).length ≠ 0 := by rw [Ne, List.length_eq_zero_iff]; exact putG_ne _ _
  have hlen : 0 < (numB n).length := by unfold numB; omega
  unfold getN
  rw [if_pos (by simp; omega)]
  rw [Int.toNat_natCast, List.drop_left]
  unfold numB
  rw [hg]
  simp only [Nat.zero_add, Nat.pow_zero, Nat.mul_one]
  rw [if_neg (by omega), unfold_fold]
  congr 2
  omega

theorem getN_cut (l : List UInt8) (n : Int) : getN (l ++ (numB n).dropLast) (l.length : Int) = (0, 0, false) := by
  unfold getN
  split
  · rw [Int.toNat_natCast, List.drop_left]
    unfold numB
    rw [gr_cut]
  · rfl
end Go.Proofs.Ytimiimedjfdlmab
