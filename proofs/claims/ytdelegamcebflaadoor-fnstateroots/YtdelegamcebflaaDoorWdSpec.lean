/- The 64 words of a block: the model's l2Words. -/
import Derived.Test.YtdelegamcebflaaDoorJoin8
import Derived.Test.YtdelegamcebflaaDoorJoin11
import Derived.Deep.RegionHeldLaw
namespace Go.Proofs.YtdelegamcebflaaDoor
open Go.RowKit
set_option linter.unusedVariables false

def allW (b : List Nat) (n : Nat) : List Nat := (List.range n).map (W b)
theorem allW_len (b : List Nat) (n : Nat) : (allW b n).length = n := by simp [allW]
theorem allW_at (b : List Nat) (n i : Nat) (h : i < (allW b n).length) : (allW b n)[i] = W b i := by simp [allW]
theorem allW_snoc (b : List Nat) (n : Nat) : allW b (n + 1) = allW b n ++ [W b n] := by simp [allW, List.range_succ]
theorem wAt_four (l : List UInt8) (hl : l.length = 64) (j : Nat) (h : j < 16) : wAt l 64 j = (((l[4 * j]'(by omega)).toNat * 256 + (l[4 * j + 1]'(by omega)).toNat) * 256 + (l[4 * j + 2]'(by omega)).toNat) * 256 + (l[4 * j + 3]'(by omega)).toNat := by
  unfold wAt
  have e : l.take 64 = l := List.take_of_length_le (by omega)
  have e2 : (l.drop (4 * j)).take 4 = [l[4 * j]'(by omega), l[4 * j + 1]'(by omega), l[4 * j + 2]'(by omega), l[4 * j + 3]'(by omega)] := by
    rw [List.drop_eq_getElem_cons (i := 4 * j) (by omega), List.drop_eq_getElem_cons (i := 4 * j + 1) (by omega), List.drop_eq_getElem_cons (i := 4 * j + 1 + 1) (by omega), List.drop_eq_getElem_cons (i := 4 * j + 1 + 1 + 1) (by omega)]
    simp only [List.take_succ_cons, List.take_zero]
  rw [e, e2]
  simp only [beN, List.foldl_cons, List.foldl_nil]
  omega
theorem word4 (x0 x1 x2 x3 : Nat) (b0 : x0 < 256) (b1 : x1 < 256) (b2 : x2 < 256) (b3 : x3 < 256) :
    bits .or .i64 (bits .or .i64 (bits .or .i64 (IntKind.i64.wrap (IntKind.i64.wrap (x0 : Int) * 16777216)) (IntKind.i64.wrap (IntKind.i64.wrap (x1 : Int) * 65536))) (IntKind.i64.wrap (IntKind.i64.wrap (x2 : Int) * 256))) (IntKind.i64.wrap (x3 : Int)) = ((((x0 * 256 + x1) * 256 + x2) * 256 + x3 : Nat) : Int) := by
  have w0 : ∀ x : Nat, x < 256 → IntKind.i64.wrap (x : Int) = (x : Int) := by intro x hx; rw [IntKind.wrap_i64]; omega
  rw [w0 x0 b0, w0 x1 b1, w0 x2 b2, w0 x3 b3]
  rw [show IntKind.i64.wrap ((x0 : Int) * 16777216) = ((x0 * 2 ^ 24 : Nat) : Int) from by rw [IntKind.wrap_i64]; omega, show IntKind.i64.wrap ((x1 : Int) * 65536) = ((x1 * 2 ^ 16 : Nat) : Int) from by rw [IntKind.wrap_i64]; omega, show IntKind.i64.wrap ((x2 : Int) * 256) = ((x2 * 2 ^ 8 : Nat) : Int) from by rw [IntKind.wrap_i64]; omega]
  rw [i64_or_nat _ _ (by omega) (by omega), Nat.or_comm, or_high (x1 * 2 ^ 16) x0 24 (by omega), i64_or_nat _ _ (by omega) (by omega), Nat.or_comm]
  rw [show x1 * 2 ^ 16 + x0 * 2 ^ 24 = (x1 + x0 * 256) * 2 ^ 16 from by omega, or_high (x2 * 2 ^ 8) (x1 + x0 * 256) 16 (by omega), i64_or_nat _ _ (by omega) (by omega), Nat.or_comm]
  rw [show x2 * 2 ^ 8 + (x1 + x0 * 256) * 2 ^ 16 = (x2 + (x1 + x0 * 256) * 256) * 2 ^ 8 from by omega, or_high x3 _ 8 (by omega)]
  congr 1
  omega

theorem wrapN (n : Nat) (h : n < 9223372036854775808) : IntKind.i64.wrap (n : Int) = (n : Int) := by rw [IntKind.wrap_i64]; omega
theorem sum4 (x16 s0 x7 s1 : Nat) (h1 : x16 < 4294967296) (h2 : s0 < 4294967296) (h3 : x7 < 4294967296) (h4 : s1 < 4294967296) :
    bits .and .i64 (IntKind.i64.wrap (IntKind.i64.wrap (IntKind.i64.wrap ((x16 : Int) + (s0 : Int)) + (x7 : Int)) + (s1 : Int))) 4294967295 = (((x16 + (x7 + s0 + s1)) % 4294967296 : Nat) : Int) := by
  rw [← Int.natCast_add, wrapN _ (by omega), ← Int.natCast_add, wrapN _ (by omega), ← Int.natCast_add, wrapN _ (by omega), i64_mask _ (by omega)]
  congr 2
  omega

end Go.Proofs.YtdelegamcebflaaDoor
