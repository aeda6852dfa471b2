/- One turn: the landed code's shaTurn. -/
import Derived.Test.YtdelegamcebflaaDoorJoin8
import Derived.Deep.RegionWith
namespace Go.Proofs.YtdelegamcebflaaDoor
open Go.RowKit
set_option linter.unusedVariables false

theorem shaTurn_out (A B C D E F G H fed : Nat) : Ending.returned (.agg #[.int .u32 (((H : Int) + fed + (chN E F G) + (cS1 E) + ((majN A B C) + (cS0 A))) % 4294967296), .int .u32 (A : Int), .int .u32 (B : Int), .int .u32 (C : Int), .int .u32 (((D : Int) + (H + fed + (chN E F G) + (cS1 E))) % 4294967296), .int .u32 (E : Int), .int .u32 (F : Int), .int .u32 (G : Int)]) = .returned (.agg ((turn ⟨A, B, C, D, E, F, G, H⟩ fed).vals .u32)) := by
  have e1 : ((H : Int) + fed + (chN E F G) + (cS1 E) + ((majN A B C) + (cS0 A))) % 4294967296 = (((H + cS1 E + chN E F G + fed + (cS0 A + majN A B C)) % 4294967296 : Nat) : Int) := by omega
  have e2 : ((D : Int) + (H + fed + (chN E F G) + (cS1 E))) % 4294967296 = (((D + (H + cS1 E + chN E F G + fed)) % 4294967296 : Nat) : Int) := by omega
  rw [e1, e2]
  rfl

set_option maxRecDepth 20000 in
set_option maxHeartbeats 1000000 in
theorem shaTurn_any (A B C D E F G H fed : Nat) (hs : S8.Lt ⟨A, B, C, D, E, F, G, H⟩) (w : World) :
    Calls Tryd.prog 61 #[.agg #[.int .u32 (A : Int), .int .u32 (B : Int), .int .u32 (C : Int), .int .u32 (D : Int), .int .u32 (E : Int), .int .u32 (F : Int), .int .u32 (G : Int), .int .u32 (H : Int)], .int .u32 (fed : Int)] w fun e w' => e = .returned (.agg ((turn ⟨A, B, C, D, E, F, G, H⟩ fed).vals .u32)) ∧ Below w.heap.size w w' := by
  have hA : A < 4294967296 := hs.a
  have hE : E < 4294967296 := hs.e
  have hch := u32_ch E F G hs.e hs.f hs.g
  have hmaj := u32_maj A B C hs.a hs.b hs.c
  have hS1 : bits .xor .u32 (bits .xor .u32 (rotr 6 E : Int) (rotr 11 E : Int)) (rotr 25 E : Int) = ((cS1 E : Nat) : Int) := u32_xor3 _ _ _ (rotr_lt _ _) (rotr_lt _ _) (rotr_lt _ _)
  have hS0 : bits .xor .u32 (bits .xor .u32 (rotr 2 A : Int) (rotr 13 A : Int)) (rotr 22 A : Int) = ((cS0 A : Nat) : Int) := u32_xor3 _ _ _ (rotr_lt _ _) (rotr_lt _ _) (rotr_lt _ _)
  clear hs
  have n6 : (-6 : Int).natAbs = 6 := rfl
  have n11 : (-11 : Int).natAbs = 11 := rfl
  have n25 : (-25 : Int).natAbs = 25 := rfl
  go_enter Tryd.func61, Tryd.ntmps61
  go_wp2
  go_quiet (fail)
  go_wp2
  go_quiet ((refine (rotL_any E hE _ (by decide) _).mono ?_; rintro e wa ⟨rfl, rfl⟩; exact ⟨rfl, _, rfl⟩))
  go_wp2_with fail
  refine (rotL_2 A hA _).mono ?_
  rintro e wa ⟨rfl, rfl⟩
  go_wp2_with fail
  refine (rotL_13 A hA _).mono ?_
  rintro e wa ⟨rfl, rfl⟩
  go_wp2_with fail
  refine (rotL_22 A hA _).mono ?_
  rintro e wa ⟨rfl, rfl⟩
  go_wp2
  refine bodyPost_ret (v := .agg #[.int .u32 (((H : Int) + fed + (chN E F G) + (cS1 E) + ((majN A B C) + (cS0 A))) % 4294967296), .int .u32 (A : Int), .int .u32 (B : Int), .int .u32 (C : Int), .int .u32 (((D : Int) + (H + fed + (chN E F G) + (cS1 E))) % 4294967296), .int .u32 (E : Int), .int .u32 (F : Int), .int .u32 (G : Int)]) (by simp [results, Tryd.results61, go_sem]) rfl ⟨?_, ?_⟩
  · exact shaTurn_out A B C D E F G H fed
  · exact ((((((((below_drewN (((Below.refl _ _).alloc (Nat.le_refl _) _).alloc (by simp) _) _).setCell (Nat.le_succ _) _).setCell (Nat.le_succ _) _).setCell (Nat.le_succ _) _).setCell (Nat.le_succ _) _).setCell (Nat.le_succ _) _).setCell (Nat.le_succ _) _).setCell (Nat.le_succ _) _).setCell (Nat.le_succ _) _
end Go.Proofs.YtdelegamcebflaaDoor
