/- A word of 32 bits turned: the model's l2Turn, and math/bits.RotateLeft32. -/
import Derived.Test.YtknmjahipekgpaaDoorMem
import Derived.Test.YtknmjahipekgpaaDoorPure
namespace Go.Proofs.YtknmjahipekgpaaDoor
open Go.RowKit
set_option linter.unusedVariables false

def rotr (n x : Nat) : Nat := (x / 2 ^ n ||| x * 2 ^ (32 - n)) % 4294967296
theorem rotr_lt (n x : Nat) : rotr n x < 4294967296 := Nat.mod_lt _ (by decide)

theorem rotr_model (n x q p : Nat) (hx : x < 4294967296) (hq : 2 ^ n = q) (hp : 2 ^ (32 - n) = p) (hp2 : p ≤ 1073741824) : bits .and .i64 (bits .or .i64 ((x : Int) / (q : Int)) ((x : Int) * (p : Int))) 4294967295 = ((rotr n x : Nat) : Int) := by
  subst hq
  subst hp
  have h1 : x / 2 ^ n ≤ x := Nat.div_le_self _ _
  have h2 : x * 2 ^ (32 - n) ≤ 4294967296 * 1073741824 := Nat.mul_le_mul (by omega) hp2
  have e1 : (x : Int) / ((2 ^ n : Nat) : Int) = ((x / 2 ^ n : Nat) : Int) := by simp
  have e2 : (x : Int) * ((2 ^ (32 - n) : Nat) : Int) = ((x * 2 ^ (32 - n) : Nat) : Int) := by simp
  rw [e1, e2, i64_or_nat _ _ (by omega) (by omega)]
  have h3 : (x / 2 ^ n ||| x * 2 ^ (32 - n)) < 2 ^ 63 := Nat.or_lt_two_pow (by omega) (by omega)
  rw [show (4294967295 : Int) = ((4294967295 : Nat) : Int) from rfl, i64_and_nat _ _ (by omega) (by omega)]
  rw [show (4294967295 : Nat) = 2 ^ 32 - 1 from rfl, Nat.and_two_pow_sub_one_eq_mod]
  rfl

theorem rotr_impl (n x q p : Nat) (hx : x < 4294967296) (hq : 2 ^ n = q) (hp : 2 ^ (32 - n) = p) : bits .or .u32 ((x : Int) * (p : Int) % 4294967296) ((x : Int) / (q : Int)) = ((rotr n x : Nat) : Int) := by
  subst hq
  subst hp
  have h1 : x / 2 ^ n ≤ x := Nat.div_le_self _ _
  have e1 : (x : Int) / ((2 ^ n : Nat) : Int) = ((x / 2 ^ n : Nat) : Int) := by simp
  have e2 : (x : Int) * ((2 ^ (32 - n) : Nat) : Int) % 4294967296 = ((x * 2 ^ (32 - n) % 4294967296 : Nat) : Int) := by simp
  rw [e1, e2, u32_or_nat _ _ (Nat.mod_lt _ (by decide)) (by omega)]
  have e3 : rotr n x = (x / 2 ^ n) % 2 ^ 32 ||| (x * 2 ^ (32 - n)) % 2 ^ 32 := Nat.or_mod_two_pow (n := 32)
  rw [e3, Nat.mod_eq_of_lt (show x / 2 ^ n < 2 ^ 32 by omega), Nat.or_comm]

set_option maxRecDepth 20000 in
theorem l2Turn_2 (x : Nat) (hx : x < 4294967296) (w : World) :
    Calls Tryd.prog 67 #[.int .i64 (x : Int), .int .i64 2] w fun e w' => e = .returned (.int .i64 ((rotr 2 x : Nat) : Int)) ∧ w' = w := by
  go_enter Tryd.func67, Tryd.ntmps67
  go_wp2
  go_ret
  exact ⟨ret_int (rotr_model 2 x 4 1073741824 hx rfl rfl (by decide)), rfl⟩

set_option maxRecDepth 20000 in
theorem rotL_2 (x : Nat) (hx : x < 4294967296) (w : World) :
    Calls Tryd.prog 69 #[.int .u32 (x : Int), .int .i64 (-2)] w fun e w' => e = .returned (.int .u32 ((rotr 2 x : Nat) : Int)) ∧ w' = w := by
  have hs : bits .and .u64 (IntKind.u64.wrap (-2)) 31 = 30 := by decide
  go_enter Tryd.func69, Tryd.ntmps69
  go_wp2
  go_ret
  exact ⟨ret_int (rotr_impl 2 x 4 1073741824 hx rfl rfl), rfl⟩

set_option maxRecDepth 20000 in
theorem l2Turn_6 (x : Nat) (hx : x < 4294967296) (w : World) :
    Calls Tryd.prog 67 #[.int .i64 (x : Int), .int .i64 6] w fun e w' => e = .returned (.int .i64 ((rotr 6 x : Nat) : Int)) ∧ w' = w := by
  go_enter Tryd.func67, Tryd.ntmps67
  go_wp2
  go_ret
  exact ⟨ret_int (rotr_model 6 x 64 67108864 hx rfl rfl (by decide)), rfl⟩

set_option maxRecDepth 20000 in
theorem rotL_6 (x : Nat) (hx : x < 4294967296) (w : World) :
    Calls Tryd.prog 69 #[.int .u32 (x : Int), .int .i64 (-6)] w fun e w' => e = .returned (.int .u32 ((rotr 6 x : Nat) : Int)) ∧ w' = w := by
  have hs : bits .and .u64 (IntKind.u64.wrap (-6)) 31 = 26 := by decide
  go_enter Tryd.func69, Tryd.ntmps69
  go_wp2
  go_ret
  exact ⟨ret_int (rotr_impl 6 x 64 67108864 hx rfl rfl), rfl⟩

set_option maxRecDepth 20000 in
theorem l2Turn_7 (x : Nat) (hx : x < 4294967296) (w : World) :
    Calls Tryd.prog 67 #[.int .i64 (x : Int), .int .i64 7] w fun e w' => e = .returned (.int .i64 ((rotr 7 x : Nat) : Int)) ∧ w' = w := by
  go_enter Tryd.func67, Tryd.ntmps67
  go_wp2
  go_ret
  exact ⟨ret_int (rotr_model 7 x 128 33554432 hx rfl rfl (by decide)), rfl⟩

set_option maxRecDepth 20000 in
theorem rotL_7 (x : Nat) (hx : x < 4294967296) (w : World) :
    Calls Tryd.prog 69 #[.int .u32 (x : Int), .int .i64 (-7)] w fun e w' => e = .returned (.int .u32 ((rotr 7 x : Nat) : Int)) ∧ w' = w := by
  have hs : bits .and .u64 (IntKind.u64.wrap (-7)) 31 = 25 := by decide
  go_enter Tryd.func69, Tryd.ntmps69
  go_wp2
  go_ret
  exact ⟨ret_int (rotr_impl 7 x 128 33554432 hx rfl rfl), rfl⟩

set_option maxRecDepth 20000 in
theorem l2Turn_11 (x : Nat) (hx : x < 4294967296) (w : World) :
    Calls Tryd.prog 67 #[.int .i64 (x : Int), .int .i64 11] w fun e w' => e = .returned (.int .i64 ((rotr 11 x : Nat) : Int)) ∧ w' = w := by
  go_enter Tryd.func67, Tryd.ntmps67
  go_wp2
  go_ret
  exact ⟨ret_int (rotr_model 11 x 2048 2097152 hx rfl rfl (by decide)), rfl⟩

set_option maxRecDepth 20000 in
theorem rotL_11 (x : Nat) (hx : x < 4294967296) (w : World) :
    Calls Tryd.prog 69 #[.int .u32 (x : Int), .int .i64 (-11)] w fun e w' => e = .returned (.int .u32 ((rotr 11 x : Nat) : Int)) ∧ w' = w := by
  have hs : bits .and .u64 (IntKind.u64.wrap (-11)) 31 = 21 := by decide
  go_enter Tryd.func69, Tryd.ntmps69
  go_wp2
  go_ret
  exact ⟨ret_int (rotr_impl 11 x 2048 2097152 hx rfl rfl), rfl⟩

set_option maxRecDepth 20000 in
theorem l2Turn_13 (x : Nat) (hx : x < 4294967296) (w : World) :
    Calls Tryd.prog 67 #[.int .i64 (x : Int), .int .i64 13] w fun e w' => e = .returned (.int .i64 ((rotr 13 x : Nat) : Int)) ∧ w' = w := by
  go_enter Tryd.func67, Tryd.ntmps67
  go_wp2
  go_ret
  exact ⟨ret_int (rotr_model 13 x 8192 524288 hx rfl rfl (by decide)), rfl⟩

set_option maxRecDepth 20000 in
theorem rotL_13 (x : Nat) (hx : x < 4294967296) (w : World) :
    Calls Tryd.prog 69 #[.int .u32 (x : Int), .int .i64 (-13)] w fun e w' => e = .returned (.int .u32 ((rotr 13 x : Nat) : Int)) ∧ w' = w := by
  have hs : bits .and .u64 (IntKind.u64.wrap (-13)) 31 = 19 := by decide
  go_enter Tryd.func69, Tryd.ntmps69
  go_wp2
  go_ret
  exact ⟨ret_int (rotr_impl 13 x 8192 524288 hx rfl rfl), rfl⟩

set_option maxRecDepth 20000 in
theorem l2Turn_17 (x : Nat) (hx : x < 4294967296) (w : World) :
    Calls Tryd.prog 67 #[.int .i64 (x : Int), .int .i64 17] w fun e w' => e = .returned (.int .i64 ((rotr 17 x : Nat) : Int)) ∧ w' = w := by
  go_enter Tryd.func67, Tryd.ntmps67
  go_wp2
  go_ret
  exact ⟨ret_int (rotr_model 17 x 131072 32768 hx rfl rfl (by decide)), rfl⟩

set_option maxRecDepth 20000 in
theorem rotL_17 (x : Nat) (hx : x < 4294967296) (w : World) :
    Calls Tryd.prog 69 #[.int .u32 (x : Int), .int .i64 (-17)] w fun e w' => e = .returned (.int .u32 ((rotr 17 x : Nat) : Int)) ∧ w' = w := by
  have hs : bits .and .u64 (IntKind.u64.wrap (-17)) 31 = 15 := by decide
  go_enter Tryd.func69, Tryd.ntmps69
  go_wp2
  go_ret
  exact ⟨ret_int (rotr_impl 17 x 131072 32768 hx rfl rfl), rfl⟩

set_option maxRecDepth 20000 in
theorem l2Turn_18 (x : Nat) (hx : x < 4294967296) (w : World) :
    Calls Tryd.prog 67 #[.int .i64 (x : Int), .int .i64 18] w fun e w' => e = .returned (.int .i64 ((rotr 18 x : Nat) : Int)) ∧ w' = w := by
  go_enter Tryd.func67, Tryd.ntmps67
  go_wp2
  go_ret
  exact ⟨ret_int (rotr_model 18 x 262144 16384 hx rfl rfl (by decide)), rfl⟩

set_option maxRecDepth 20000 in
theorem rotL_18 (x : Nat) (hx : x < 4294967296) (w : World) :
    Calls Tryd.prog 69 #[.int .u32 (x : Int), .int .i64 (-18)] w fun e w' => e = .returned (.int .u32 ((rotr 18 x : Nat) : Int)) ∧ w' = w := by
  have hs : bits .and .u64 (IntKind.u64.wrap (-18)) 31 = 14 := by decide
  go_enter Tryd.func69, Tryd.ntmps69
  go_wp2
  go_ret
  exact ⟨ret_int (rotr_impl 18 x 262144 16384 hx rfl rfl), rfl⟩

set_option maxRecDepth 20000 in
theorem l2Turn_19 (x : Nat) (hx : x < 4294967296) (w : World) :
    Calls Tryd.prog 67 #[.int .i64 (x : Int), .int .i64 19] w fun e w' => e = .returned (.int .i64 ((rotr 19 x : Nat) : Int)) ∧ w' = w := by
  go_enter Tryd.func67, Tryd.ntmps67
  go_wp2
  go_ret
  exact ⟨ret_int (rotr_model 19 x 524288 8192 hx rfl rfl (by decide)), rfl⟩

set_option maxRecDepth 20000 in
theorem rotL_19 (x : Nat) (hx : x < 4294967296) (w : World) :
    Calls Tryd.prog 69 #[.int .u32 (x : Int), .int .i64 (-19)] w fun e w' => e = .returned (.int .u32 ((rotr 19 x : Nat) : Int)) ∧ w' = w := by
  have hs : bits .and .u64 (IntKind.u64.wrap (-19)) 31 = 13 := by decide
  go_enter Tryd.func69, Tryd.ntmps69
  go_wp2
  go_ret
  exact ⟨ret_int (rotr_impl 19 x 524288 8192 hx rfl rfl), rfl⟩

set_option maxRecDepth 20000 in
theorem l2Turn_22 (x : Nat) (hx : x < 4294967296) (w : World) :
    Calls Tryd.prog 67 #[.int .i64 (x : Int), .int .i64 22] w fun e w' => e = .returned (.int .i64 ((rotr 22 x : Nat) : Int)) ∧ w' = w := by
  go_enter Tryd.func67, Tryd.ntmps67
  go_wp2
  go_ret
  exact ⟨ret_int (rotr_model 22 x 4194304 1024 hx rfl rfl (by decide)), rfl⟩

set_option maxRecDepth 20000 in
theorem rotL_22 (x : Nat) (hx : x < 4294967296) (w : World) :
    Calls Tryd.prog 69 #[.int .u32 (x : Int), .int .i64 (-22)] w fun e w' => e = .returned (.int .u32 ((rotr 22 x : Nat) : Int)) ∧ w' = w := by
  have hs : bits .and .u64 (IntKind.u64.wrap (-22)) 31 = 10 := by decide
  go_enter Tryd.func69, Tryd.ntmps69
  go_wp2
  go_ret
  exact ⟨ret_int (rotr_impl 22 x 4194304 1024 hx rfl rfl), rfl⟩

set_option maxRecDepth 20000 in
theorem l2Turn_25 (x : Nat) (hx : x < 4294967296) (w : World) :
    Calls Tryd.prog 67 #[.int .i64 (x : Int), .int .i64 25] w fun e w' => e = .returned (.int .i64 ((rotr 25 x : Nat) : Int)) ∧ w' = w := by
  go_enter Tryd.func67, Tryd.ntmps67
  go_wp2
  go_ret
  exact ⟨ret_int (rotr_model 25 x 33554432 128 hx rfl rfl (by decide)), rfl⟩

set_option maxRecDepth 20000 in
theorem rotL_25 (x : Nat) (hx : x < 4294967296) (w : World) :
    Calls Tryd.prog 69 #[.int .u32 (x : Int), .int .i64 (-25)] w fun e w' => e = .returned (.int .u32 ((rotr 25 x : Nat) : Int)) ∧ w' = w := by
  have hs : bits .and .u64 (IntKind.u64.wrap (-25)) 31 = 7 := by decide
  go_enter Tryd.func69, Tryd.ntmps69
  go_wp2
  go_ret
  exact ⟨ret_int (rotr_impl 25 x 33554432 128 hx rfl rfl), rfl⟩
theorem rotL_any (x : Nat) (hx : x < 4294967296) (k : Int) (hk : k ∈ [-2, -6, -7, -11, -13, -17, -18, -19, -22, -25]) (w : World) :
    Calls Tryd.prog 69 #[.int .u32 (x : Int), .int .i64 k] w fun e w' => e = .returned (.int .u32 ((rotr k.natAbs x : Nat) : Int)) ∧ w' = w := by
  simp only [List.mem_cons, List.not_mem_nil, or_false] at hk
  rcases hk with rfl | rfl | rfl | rfl | rfl | rfl | rfl | rfl | rfl | rfl
  · exact rotL_2 x hx w
  · exact rotL_6 x hx w
  · exact rotL_7 x hx w
  · exact rotL_11 x hx w
  · exact rotL_13 x hx w
  · exact rotL_17 x hx w
  · exact rotL_18 x hx w
  · exact rotL_19 x hx w
  · exact rotL_22 x hx w
  · exact rotL_25 x hx w
theorem l2Turn_any (x : Nat) (hx : x < 4294967296) (k : Int) (hk : k ∈ [2, 6, 7, 11, 13, 17, 18, 19, 22, 25]) (w : World) :
    Calls Tryd.prog 67 #[.int .i64 (x : Int), .int .i64 k] w fun e w' => e = .returned (.int .i64 ((rotr k.natAbs x : Nat) : Int)) ∧ w' = w := by
  simp only [List.mem_cons, List.not_mem_nil, or_false] at hk
  rcases hk with rfl | rfl | rfl | rfl | rfl | rfl | rfl | rfl | rfl | rfl
  · exact l2Turn_2 x hx w
  · exact l2Turn_6 x hx w
  · exact l2Turn_7 x hx w
  · exact l2Turn_11 x hx w
  · exact l2Turn_13 x hx w
  · exact l2Turn_17 x hx w
  · exact l2Turn_18 x hx w
  · exact l2Turn_19 x hx w
  · exact l2Turn_22 x hx w
  · exact l2Turn_25 x hx w
end Go.Proofs.YtknmjahipekgpaaDoor
