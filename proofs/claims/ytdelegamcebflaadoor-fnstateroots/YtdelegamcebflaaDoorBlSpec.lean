/- A block: the model's l2K and l2Block. -/
import Derived.Test.YtdelegamcebflaaDoorWdSpec
import Derived.Test.YtdelegamcebflaaDoorShaTail
namespace Go.Proofs.YtdelegamcebflaaDoor
open Go.RowKit
set_option linter.unusedVariables false

theorem An.eight {w : World} {q a b c d e f g h : Nat} (H : An w q (S8.list ⟨a, b, c, d, e, f, g, h⟩)) : w.cell? ⟨q, 0, none⟩ = some (.int .i64 (a : Int)) ∧ w.cell? ⟨q, 1, none⟩ = some (.int .i64 (b : Int)) ∧ w.cell? ⟨q, 2, none⟩ = some (.int .i64 (c : Int)) ∧ w.cell? ⟨q, 3, none⟩ = some (.int .i64 (d : Int)) ∧ w.cell? ⟨q, 4, none⟩ = some (.int .i64 (e : Int)) ∧ w.cell? ⟨q, 5, none⟩ = some (.int .i64 (f : Int)) ∧ w.cell? ⟨q, 6, none⟩ = some (.int .i64 (g : Int)) ∧ w.cell? ⟨q, 7, none⟩ = some (.int .i64 (h : Int)) :=
  ⟨H.2 0 (by simp [S8.list]), H.2 1 (by simp [S8.list]), H.2 2 (by simp [S8.list]), H.2 3 (by simp [S8.list]), H.2 4 (by simp [S8.list]), H.2 5 (by simp [S8.list]), H.2 6 (by simp [S8.list]), H.2 7 (by simp [S8.list])⟩

theorem sum5 (h s1 c k x : Nat) (h1 : h < 4294967296) (h2 : s1 < 4294967296) (h3 : c < 4294967296) (h4 : k < 4294967296) (h5 : x < 4294967296) :
    IntKind.i64.wrap (IntKind.i64.wrap (IntKind.i64.wrap (IntKind.i64.wrap ((h : Int) + (s1 : Int)) + (c : Int)) + (k : Int)) + (x : Int)) = ((h + s1 + c + (k + x) : Nat) : Int) := by
  rw [← Int.natCast_add, wrapN _ (by omega), ← Int.natCast_add, wrapN _ (by omega), ← Int.natCast_add, wrapN _ (by omega), ← Int.natCast_add, wrapN _ (by omega)]
  congr 1
  omega
theorem wrap64N (n : Nat) (h : n < 9223372036854775808) : wrap64 (n : Int) = (n : Int) := by unfold wrap64; omega
theorem sum5' (h s1 c k x : Nat) (h1 : h < 4294967296) (h2 : s1 < 4294967296) (h3 : c < 4294967296) (h4 : k < 4294967296) (h5 : x < 4294967296) :
    wrap64 (wrap64 (wrap64 (wrap64 ((h : Int) + (s1 : Int)) + (c : Int)) + (k : Int)) + (x : Int)) = ((h + s1 + c + (k + x) : Nat) : Int) := by
  rw [← Int.natCast_add, wrap64N _ (by omega), ← Int.natCast_add, wrap64N _ (by omega), ← Int.natCast_add, wrap64N _ (by omega), ← Int.natCast_add, wrap64N _ (by omega)]
  congr 1
  omega
theorem An.set {w : World} {g : Nat} {l : List Nat} (h : An w g l) (k x : Nat) (hk : k < l.length) : An (w.setCell ⟨g, k, none⟩ (.int .i64 (x : Int))) g (l.set k x) := by
  refine ⟨by have := ((Below.refl 0 w).setCell (p := ⟨g, k, none⟩) (Nat.zero_le _) (.int .i64 (x : Int))).size; have := h.1; omega, ?_⟩
  intro j hj
  rw [List.length_set] at hj
  by_cases e : k = j
  · subst e
    rw [World.cell?_setCell_same _ _ _ (h.2 k hj)]
    simp
  · rw [World.cell?_setCell_other _ _ _ _ (by intro q; injection q with _ q2; exact e q2), h.2 j hj]
    simp [e]
theorem sum2 (a b : Nat) (h1 : a < 100000000000) (h2 : b < 100000000000) : bits .and .i64 (IntKind.i64.wrap ((a : Int) + (b : Int))) 4294967295 = (((a + b) % 4294967296 : Nat) : Int) := by
  rw [← Int.natCast_add, wrapN _ (by omega), i64_mask _ (by omega)]

theorem list_lt (s : S8) (h : s.Lt) (k : Nat) (hk : k < 8) : s.list[k]'hk < 4294967296 := by
  match k, hk with
  | 0, _ => exact h.a
  | 1, _ => exact h.b
  | 2, _ => exact h.c
  | 3, _ => exact h.d
  | 4, _ => exact h.e
  | 5, _ => exact h.f
  | 6, _ => exact h.g
  | 7, _ => exact h.h

end Go.Proofs.YtdelegamcebflaaDoor
