/- A word renewed in place: the landed code's shaRenew. -/
import Derived.Test.YtdelegamcebflaaDoorJoin8
import Derived.Test.YtdelegamcebflaaDoorShaTail
namespace Go.Proofs.YtdelegamcebflaaDoor
open Go.RowKit
set_option linter.unusedVariables false

theorem wrap_tmod (i d : Nat) (h : d ≤ i) (h64 : i < 64) : (IntKind.i64.wrap ((i : Int) - (d : Int))).tmod 16 = (((i - d) % 16 : Nat) : Int) := by
  have e : IntKind.i64.wrap ((i : Int) - (d : Int)) = ((i - d : Nat) : Int) := by
    rw [IntKind.wrap_i64]
    omega
  rw [e]
  rfl

set_option maxRecDepth 20000 in
set_option maxHeartbeats 1000000 in
theorem shaRenew_go (g i j0 j7 j15 j2 x0 x7 x15 x2 : Nat) (w : World) (h16 : 16 ≤ i) (h64 : i < 64)
    (e0 : (i : Int).tmod 16 = (j0 : Int)) (e7 : (IntKind.i64.wrap ((i : Int) - 7)).tmod 16 = (j7 : Int)) (e15 : (IntKind.i64.wrap ((i : Int) - 15)).tmod 16 = (j15 : Int)) (e2 : (IntKind.i64.wrap ((i : Int) - 2)).tmod 16 = (j2 : Int))
    (l0 : (j0 : Int) < 16) (l7 : (j7 : Int) < 16) (l15 : (j15 : Int) < 16) (l2 : (j2 : Int) < 16)
    (c0 : w.cell? ⟨g, j0, none⟩ = some (.int .u32 (x0 : Int))) (c7 : w.cell? ⟨g, j7, none⟩ = some (.int .u32 (x7 : Int))) (c15 : w.cell? ⟨g, j15, none⟩ = some (.int .u32 (x15 : Int))) (c2 : w.cell? ⟨g, j2, none⟩ = some (.int .u32 (x2 : Int)))
    (hx15 : x15 < 4294967296) (hx2 : x2 < 4294967296) (hfz : w.frozen? ⟨g, j0, none⟩ = false) :
    Calls Tryd.prog 60 #[.pointer (some ⟨g, 0, none⟩), .int .i64 (i : Int)] w fun e w' => e = .returned (.tuple #[]) ∧ ∃ w1, Sm w w1 ∧ w' = w1.setCell ⟨g, j0, none⟩ (.int .u32 (((x0 + (x7 + bS0 x15 + bS1 x2)) % 4294967296 : Nat) : Int)) := by
  have hs0 : bits .xor .u32 (bits .xor .u32 (rotr 7 x15 : Int) (rotr 18 x15 : Int)) ((x15 : Int) / 8) = ((bS0 x15 : Nat) : Int) := by
    rw [show (x15 : Int) / 8 = ((x15 / 8 : Nat) : Int) from by omega]
    exact u32_xor3 _ _ _ (rotr_lt _ _) (rotr_lt _ _) (by omega)
  have hs1 : bits .xor .u32 (bits .xor .u32 (rotr 17 x2 : Int) (rotr 19 x2 : Int)) ((x2 : Int) / 1024) = ((bS1 x2 : Nat) : Int) := by
    rw [show (x2 : Int) / 1024 = ((x2 / 1024 : Nat) : Int) from by omega]
    exact u32_xor3 _ _ _ (rotr_lt _ _) (rotr_lt _ _) (by omega)
  go_enter Tryd.func60, Tryd.ntmps60
  go_wp2
  go_quiet (fail)
  go_wp2
  refine region_tail 34 (by kernel_rfl) (by kernel_rfl) ?_
  simp only [List.take_succ_cons, List.take_zero, List.drop_succ_cons, List.drop_zero]
  repeat still_step
  still_call (rotL_7 x15 hx15 _)
  repeat still_step
  still_call (rotL_18 x15 hx15 _)
  repeat still_step
  still_call (rotL_17 x2 hx2 _)
  repeat still_step
  still_call (rotL_19 x2 hx2 _)
  repeat still_step
  refine wpStill_nil ?_
  go_wp2
  refine bodyPost_end (results_none Tryd.results60 _ _ _) rfl ?_
  refine ⟨rfl, w.drewN (nq + 1), (Sm.refl w).drewN _, ?_⟩
  congr 2
  omega
end Go.Proofs.YtdelegamcebflaaDoor
