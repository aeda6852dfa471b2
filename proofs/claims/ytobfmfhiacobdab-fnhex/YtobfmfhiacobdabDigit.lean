/- One hex digit: the model's l2Digit and the landed code's hexDigit. -/
import Derived.Test.YtobfmfhiacobdabIn
namespace Go.Proofs.Ytobfmfhiacobdab
open Go.RowKit
set_option linter.unusedVariables false

def dg (c : Nat) : Option Nat := if 48 ≤ c ∧ c ≤ 57 then some (c - 48) else if 97 ≤ c ∧ c ≤ 102 then some (c - 87) else none
theorem dg_lt {c d : Nat} (h : dg c = some d) : d < 16 := by
  unfold dg at h
  split at h
  · cases h; omega
  · split at h
    · cases h; omega
    · cases h

theorem ret_db {a b : Int} (h : a = b) : Ending.returned (.tuple #[.int .u8 a, .bool true]) = .returned (.tuple #[.int .u8 b, .bool true]) := by rw [h]


set_option maxRecDepth 20000 in
theorem hexDigit_some (c d : Nat) (hc : c < 256) (hd : dg c = some d) (w : World) :
    Calls Try.prog 11 #[.int .u8 (c : Int)] w fun e w' => e = .returned (.tuple #[.int .u8 (d : Int), .bool true]) ∧ w' = w := by
  unfold dg at hd
  split at hd
  · rename_i h
    have h1 : (48 : Int) ≤ (c : Int) := by omega
    have h2 : (c : Int) ≤ 57 := by omega
    cases hd
    go_enter Try.func11, Try.ntmps11
    go_wp2
    go_ret2
    exact ⟨ret_db (by omega), rfl⟩
  · split at hd
    · rename_i h0 h
      have h1 : (97 : Int) ≤ (c : Int) := by omega
      have h2 : (c : Int) ≤ 102 := by omega
      have h3 : (57 : Int) < (c : Int) := by omega
      cases hd
      go_enter Try.func11, Try.ntmps11
      go_wp2
      go_ret2
      exact ⟨ret_db (by omega), rfl⟩
    · cases hd

set_option maxRecDepth 20000 in
theorem hexDigit_none (c : Nat) (hc : c < 256) (hd : dg c = none) (w : World) :
    Calls Try.prog 11 #[.int .u8 (c : Int)] w fun e w' => e = .returned (.tuple #[.int .u8 0, .bool false]) ∧ w' = w := by
  unfold dg at hd
  split at hd
  · cases hd
  · split at hd
    · cases hd
    · rename_i h0 h
      clear hd
      by_cases h1 : c < 48
      · have a1 : (c : Int) < 48 := by omega
        go_enter Try.func11, Try.ntmps11
        go_wp2
        go_ret2
        exact ⟨rfl, rfl⟩
      · have a1 : (48 : Int) ≤ (c : Int) := by omega
        have a2 : (57 : Int) < (c : Int) := by omega
        by_cases h2 : c < 97
        · have a3 : (c : Int) < 97 := by omega
          go_enter Try.func11, Try.ntmps11
          go_wp2
          go_ret2
          exact ⟨rfl, rfl⟩
        · have a3 : (97 : Int) ≤ (c : Int) := by omega
          have a4 : (102 : Int) < (c : Int) := by omega
          go_enter Try.func11, Try.ntmps11
          go_wp2
          go_ret2
          exact ⟨rfl, rfl⟩
end Go.Proofs.Ytobfmfhiacobdab
