/- A word of 32 bits turned: the model's l2Turn, and math/bits.RotateLeft32. The turns of SHA-256 over plain numbers below 2^32. -/
import Derived.Test.YtmjnkcggomnnjaaZeRow
import Derived.Test.YtmjnkcggomnnjaaZePutPure
namespace Go.Proofs.Ytmjnkcggomnnjaa
open Go.RowKit
set_option linter.unusedVariables false

def rotr (n x : Nat) : Nat := (x / 2 ^ n ||| x * 2 ^ (32 - n)) % 4294967296
theorem rotr_lt (n x : Nat) : rotr n x < 4294967296 := Nat.mod_lt _ (by decide)

theorem rotr_model (n x q p : Nat) (hx : x < 4294967296) (hq : 2 ^ n = q) (hp : 2 ^ (32 - n) = p) (hp2 : p ≤ 1073741824) : bits .and .i64 (bits .or .i64 ((x : Int) / (q : Int)) ((x : Int) * (p : Int))) 4294967295 = ((rotr n x : Nat) : Int) := by
  subst hq
  subst hp
  have h1 : x / 2 ^ n ≤ x := Nat.div_le_self _ _
  have h2 : x * 2 ^ (32 - n) ≤ 4294967296 * 1073741824 := Nat.mul_le_mul (by omega) hp2
  have e1 : (x : Int) / ((2 ^ n : Nat) : Int) = ((x / 2 ^ n : Nat) : Int) := by simp
  have e2 : (x : Int) * ((2 ^ (32 - n) : Nat) : Int) = ((x * 2 ^ (32 - n) : Nat) : Int) := by simp
  rw [e1, e2, i64_or_nat _ _ (by omega) (by omega)]
  have h3 : (x / 2 ^ n ||| x * 2 ^ (32 - n)) < 2 ^ 63 := Nat.or_lt_two_pow (by omega) (by omega)
  rw [show (4294967295 : Int) = ((4294967295 : Nat) : Int) from rfl, i64_and_nat _ _ (by omega) (by omega)]
  rw [show (4294967295 : Nat) = 2 ^ 32 - 1 from rfl, Nat.and_two_pow_sub_one_eq_mod]
  rfl

theorem rotr_impl (n x q p : Nat) (hx : x < 4294967296) (hq : 2 ^ n = q) (hp : 2 ^ (32 - n) = p) : bits .or .u32 ((x : Int) * (p : Int) % 4294967296) ((x : Int) / (q : Int)) = ((rotr n x : Nat) : Int) := by
  subst hq
  subst hp
  have h1 : x / 2 ^ n ≤ x := Nat.div_le_self _ _
  have e1 : (x : Int) / ((2 ^ n : Nat) : Int) = ((x / 2 ^ n : Nat) : Int) := by simp
  have e2 : (x : Int) * ((2 ^ (32 - n) : Nat) : Int) % 4294967296 = ((x * 2 ^ (32 - n) % 4294967296 : Nat) : Int) := by simp
  rw [e1, e2, u32_or_nat _ _ (Nat.mod_lt _ (by decide)) (by omega)]
  have e3 : rotr n x = (x / 2 ^ n) % 2 ^ 32 ||| (x * 2 ^ (32 - n)) % 2 ^ 32 := Nat.or_mod_two_pow (n := 32)
  rw [e3, Nat.mod_eq_of_lt (show x / 2 ^ n < 2 ^ 32 by omega), Nat.or_comm]

set_option maxRecDepth 20000 in
theorem l2Turn_2 (x : Nat) (hx : x < 4294967296) (w : World) :
    Calls Try.prog 106 #[.int .i64 (x : Int), .int .i64 2] w fun e w' => e = .returned (.int .i64 ((rotr 2 x : Nat) : Int)) ∧ w' = w := by
  go_enter Try.func106, Try.ntmps106
  go_wp2
  go_ret
  exact ⟨ret_int (rotr_model 2 x 4 1073741824 hx rfl rfl (by decide)), rfl⟩


set_option maxRecDepth 20000 in
theorem l2Turn_6 (x : Nat) (hx : x < 4294967296) (w : World) :
    Calls Try.prog 106 #[.int .i64 (x : Int), .int .i64 6] w fun e w' => e = .returned (.int .i64 ((rotr 6 x : Nat) : Int)) ∧ w' = w := by
  go_enter Try.func106, Try.ntmps106
  go_wp2
  go_ret
  exact ⟨ret_int (rotr_model 6 x 64 67108864 hx rfl rfl (by decide)), rfl⟩


set_option maxRecDepth 20000 in
theorem l2Turn_7 (x : Nat) (hx : x < 4294967296) (w : World) :
    Calls Try.prog 106 #[.int .i64 (x : Int), .int .i64 7] w fun e w' => e = .returned (.int .i64 ((rotr 7 x : Nat) : Int)) ∧ w' = w := by
  go_enter Try.func106, Try.ntmps106
  go_wp2
  go_ret
  exact ⟨ret_int (rotr_model 7 x 128 33554432 hx rfl rfl (by decide)), rfl⟩


set_option maxRecDepth 20000 in
theorem l2Turn_11 (x : Nat) (hx : x < 4294967296) (w : World) :
    Calls Try.prog 106 #[.int .i64 (x : Int), .int .i64 11] w fun e w' => e = .returned (.int .i64 ((rotr 11 x : Nat) : Int)) ∧ w' = w := by
  go_enter Try.func106, Try.ntmps106
  go_wp2
  go_ret
  exact ⟨ret_int (rotr_model 11 x 2048 2097152 hx rfl rfl (by decide)), rfl⟩


set_option maxRecDepth 20000 in
theorem l2Turn_13 (x : Nat) (hx : x < 4294967296) (w : World) :
    Calls Try.prog 106 #[.int .i64 (x : Int), .int .i64 13] w fun e w' => e = .returned (.int .i64 ((rotr 13 x : Nat) : Int)) ∧ w' = w := by
  go_enter Try.func106, Try.ntmps106
  go_wp2
  go_ret
  exact ⟨ret_int (rotr_model 13 x 8192 524288 hx rfl rfl (by decide)), rfl⟩


set_option maxRecDepth 20000 in
theorem l2Turn_17 (x : Nat) (hx : x < 4294967296) (w : World) :
    Calls Try.prog 106 #[.int .i64 (x : Int), .int .i64 17] w fun e w' => e = .returned (.int .i64 ((rotr 17 x : Nat) : Int)) ∧ w' = w := by
  go_enter Try.func106, Try.ntmps106
  go_wp2
  go_ret
  exact ⟨ret_int (rotr_model 17 x 131072 32768 hx rfl rfl (by decide)), rfl⟩


set_option maxRecDepth 20000 in
theorem l2Turn_18 (x : Nat) (hx : x < 4294967296) (w : World) :
    Calls Try.prog 106 #[.int .i64 (x : Int), .int .i64 18] w fun e w' => e = .returned (.int .i64 ((rotr 18 x : Nat) : Int)) ∧ w' = w := by
  go_enter Try.func106, Try.ntmps106
  go_wp2
  go_ret
  exact ⟨ret_int (rotr_model 18 x 262144 16384 hx rfl rfl (by decide)), rfl⟩


set_option maxRecDepth 20000 in
theorem l2Turn_19 (x : Nat) (hx : x < 4294967296) (w : World) :
    Calls Try.prog 106 #[.int .i64 (x : Int), .int .i64 19] w fun e w' => e = .returned (.int .i64 ((rotr 19 x : Nat) : Int)) ∧ w' = w := by
  go_enter Try.func106, Try.ntmps106
  go_wp2
  go_ret
  exact ⟨ret_int (rotr_model 19 x 524288 8192 hx rfl rfl (by decide)), rfl⟩


set_option maxRecDepth 20000 in
theorem l2Turn_22 (x : Nat) (hx : x < 4294967296) (w : World) :
    Calls Try.prog 106 #[.int .i64 (x : Int), .int .i64 22] w fun e w' => e = .returned (.int .i64 ((rotr 22 x : Nat) : Int)) ∧ w' = w := by
  go_enter Try.func106, Try.ntmps106
  go_wp2
  go_ret
  exact ⟨ret_int (rotr_model 22 x 4194304 1024 hx rfl rfl (by decide)), rfl⟩


set_option maxRecDepth 20000 in
theorem l2Turn_25 (x : Nat) (hx : x < 4294967296) (w : World) :
    Calls Try.prog 106 #[.int .i64 (x : Int), .int .i64 25] w fun e w' => e = .returned (.int .i64 ((rotr 25 x : Nat) : Int)) ∧ w' = w := by
  go_enter Try.func106, Try.ntmps106
  go_wp2
  go_ret
  exact ⟨ret_int (rotr_model 25 x 33554432 128 hx rfl rfl (by decide)), rfl⟩

theorem l2Turn_any (x : Nat) (hx : x < 4294967296) (k : Int) (hk : k ∈ [2, 6, 7, 11, 13, 17, 18, 19, 22, 25]) (w : World) :
    Calls Try.prog 106 #[.int .i64 (x : Int), .int .i64 k] w fun e w' => e = .returned (.int .i64 ((rotr k.natAbs x : Nat) : Int)) ∧ w' = w := by
  simp only [List.mem_cons, List.not_mem_nil, or_false] at hk
  rcases hk with rfl | rfl | rfl | rfl | rfl | rfl | rfl | rfl | rfl | rfl
  · exact l2Turn_2 x hx w
  · exact l2Turn_6 x hx w
  · exact l2Turn_7 x hx w
  · exact l2Turn_11 x hx w
  · exact l2Turn_13 x hx w
  · exact l2Turn_17 x hx w
  · exact l2Turn_18 x hx w
  · exact l2Turn_19 x hx w
  · exact l2Turn_22 x hx w
  · exact l2Turn_25 x hx w
end Go.Proofs.Ytmjnkcggomnnjaa

namespace Go.Proofs.Ytmjnkcggomnnjaa
open Go.RowKit
set_option linter.unusedVariables false

structure S8 where
  a : Nat
  b : Nat
  c : Nat
  d : Nat
  e : Nat
  f : Nat
  g : Nat
  h : Nat

structure S8.Lt (s : S8) : Prop where
  a : s.a < 4294967296
  b : s.b < 4294967296
  c : s.c < 4294967296
  d : s.d < 4294967296
  e : s.e < 4294967296
  f : s.f < 4294967296
  g : s.g < 4294967296
  h : s.h < 4294967296

def S8.list (s : S8) : List Nat := [s.a, s.b, s.c, s.d, s.e, s.f, s.g, s.h]

def bS0 (x : Nat) : Nat := rotr 7 x ^^^ rotr 18 x ^^^ x / 8
def bS1 (x : Nat) : Nat := rotr 17 x ^^^ rotr 19 x ^^^ x / 1024
def cS1 (x : Nat) : Nat := rotr 6 x ^^^ rotr 11 x ^^^ rotr 25 x
def cS0 (x : Nat) : Nat := rotr 2 x ^^^ rotr 13 x ^^^ rotr 22 x
def chN (e f g : Nat) : Nat := e &&& f ^^^ (4294967295 - e) &&& g
def majN (a b c : Nat) : Nat := a &&& b ^^^ a &&& c ^^^ b &&& c

theorem xor3_lt (a b c : Nat) (ha : a < 4294967296) (hb : b < 4294967296) (hc : c < 4294967296) : a ^^^ b ^^^ c < 4294967296 :=
  Nat.xor_lt_two_pow (n := 32) (Nat.xor_lt_two_pow (n := 32) ha hb) hc
theorem bS0_lt (x : Nat) (h : x < 4294967296) : bS0 x < 4294967296 := xor3_lt _ _ _ (rotr_lt _ _) (rotr_lt _ _) (by omega)
theorem bS1_lt (x : Nat) (h : x < 4294967296) : bS1 x < 4294967296 := xor3_lt _ _ _ (rotr_lt _ _) (rotr_lt _ _) (by omega)
theorem cS1_lt (x : Nat) : cS1 x < 4294967296 := xor3_lt _ _ _ (rotr_lt _ _) (rotr_lt _ _) (rotr_lt _ _)
theorem cS0_lt (x : Nat) : cS0 x < 4294967296 := xor3_lt _ _ _ (rotr_lt _ _) (rotr_lt _ _) (rotr_lt _ _)
theorem and_lt (a b : Nat) (ha : a < 4294967296) : a &&& b < 4294967296 := Nat.lt_of_le_of_lt Nat.and_le_left ha
theorem chN_lt (e f g : Nat) (h : e < 4294967296) : chN e f g < 4294967296 :=
  Nat.xor_lt_two_pow (n := 32) (and_lt _ _ h) (and_lt _ _ (by omega))
theorem majN_lt (a b c : Nat) (ha : a < 4294967296) (hb : b < 4294967296) : majN a b c < 4294967296 :=
  xor3_lt _ _ _ (and_lt _ _ ha) (and_lt _ _ ha) (and_lt _ _ hb)

def turn (s : S8) (fed : Nat) : S8 :=
  ⟨(s.h + cS1 s.e + chN s.e s.f s.g + fed + (cS0 s.a + majN s.a s.b s.c)) % 4294967296, s.a, s.b, s.c, (s.d + (s.h + cS1 s.e + chN s.e s.f s.g + fed)) % 4294967296, s.e, s.f, s.g⟩

theorem turn_lt (s : S8) (fed : Nat) (h : s.Lt) : (turn s fed).Lt :=
  ⟨Nat.mod_lt _ (by decide), h.a, h.b, h.c, Nat.mod_lt _ (by decide), h.e, h.f, h.g⟩
theorem turn_mod (s : S8) (fed : Nat) : turn s (fed % 4294967296) = turn s fed := by
  simp only [turn, S8.mk.injEq, and_true, true_and]
  constructor <;> omega

def S8.vals (k : IntKind) (s : S8) : Array Value := #[.int k s.a, .int k s.b, .int k s.c, .int k s.d, .int k s.e, .int k s.f, .int k s.g, .int k s.h]

/-! the bit operations of a turn, as each side has them -/
theorem u32_xor3 (a b c : Nat) (ha : a < 4294967296) (hb : b < 4294967296) (hc : c < 4294967296) : bits .xor .u32 (bits .xor .u32 (a : Int) (b : Int)) (c : Int) = ((a ^^^ b ^^^ c : Nat) : Int) := by
  rw [u32_xor_nat a b ha hb, u32_xor_nat _ c (Nat.xor_lt_two_pow (n := 32) ha hb) hc]
theorem i64_xor_nat (a b : Nat) (ha : a < 9223372036854775808) (hb : b < 9223372036854775808) : bits .xor .i64 (a : Int) (b : Int) = ((a ^^^ b : Nat) : Int) := by
  have hx : a ^^^ b < 2 ^ 63 := Nat.xor_lt_two_pow (by omega) (by omega)
  show IntKind.i64.wrap ((BitVec.ofInt 64 (a : Int) ^^^ BitVec.ofInt 64 (b : Int)).toNat : Int) = _
  rw [BitVec.toNat_xor, ofInt_u64 a (by omega), ofInt_u64 b (by omega), IntKind.wrap_i64]
  omega
theorem u32_max_xor (e : Nat) (he : e < 4294967296) : bits .xor .u32 IntKind.u32.max (e : Int) = ((4294967295 - e : Nat) : Int) := by
  show bits .xor .u32 ((4294967295 : Nat) : Int) (e : Int) = _
  rw [u32_xor_nat _ _ (by omega) he]
  congr 1
  have h := Nat.sub_add_eq (2 ^ 32) e 1
  apply Nat.eq_of_testBit_eq
  intro i
  rw [show 4294967295 - e = 2 ^ 32 - (e + 1) from by omega, Nat.testBit_two_pow_sub_succ (by omega), Nat.testBit_xor, show (4294967295 : Nat) = 2 ^ 32 - 1 from rfl, Nat.testBit_two_pow_sub_one]
  by_cases hi : i < 32
  · simp [hi]
  · simp [hi]
    exact Nat.testBit_lt_two_pow (Nat.lt_of_lt_of_le (show e < 2 ^ 32 from he) (Nat.pow_le_pow_right (by omega) (by omega)))
theorem u32_ch (e f g : Nat) (he : e < 4294967296) (hf : f < 4294967296) (hg : g < 4294967296) : bits .xor .u32 (bits .and .u32 (e : Int) (f : Int)) (bits .and .u32 (bits .xor .u32 IntKind.u32.max (e : Int)) (g : Int)) = ((chN e f g : Nat) : Int) := by
  rw [u32_max_xor e he, u32_and_nat e f he hf, u32_and_nat _ g (by omega) hg, u32_xor_nat _ _ (and_lt _ _ he) (and_lt _ _ (by omega))]
  rfl
theorem u32_maj (a b c : Nat) (ha : a < 4294967296) (hb : b < 4294967296) (hc : c < 4294967296) : bits .xor .u32 (bits .xor .u32 (bits .and .u32 (a : Int) (b : Int)) (bits .and .u32 (a : Int) (c : Int))) (bits .and .u32 (b : Int) (c : Int)) = ((majN a b c : Nat) : Int) := by
  rw [u32_and_nat a b ha hb, u32_and_nat a c ha hc, u32_and_nat b c hb hc, u32_xor3 _ _ _ (and_lt _ _ ha) (and_lt _ _ ha) (and_lt _ _ hb)]
  rfl
theorem i64_xor3 (a b c : Nat) (ha : a < 4294967296) (hb : b < 4294967296) (hc : c < 4294967296) : bits .xor .i64 (bits .xor .i64 (a : Int) (b : Int)) (c : Int) = ((a ^^^ b ^^^ c : Nat) : Int) := by
  have h := Nat.xor_lt_two_pow (n := 32) ha hb
  rw [i64_xor_nat a b (by omega) (by omega), i64_xor_nat _ c (by omega) (by omega)]
theorem i64_mask (n : Nat) (h : n < 9223372036854775808) : bits .and .i64 (n : Int) 4294967295 = ((n % 4294967296 : Nat) : Int) := by
  rw [show (4294967295 : Int) = ((4294967295 : Nat) : Int) from rfl, i64_and_nat _ _ h (by omega), show (4294967295 : Nat) = 2 ^ 32 - 1 from rfl, Nat.and_two_pow_sub_one_eq_mod]
theorem i64_max_xor (e : Nat) (he : e < 4294967296) : bits .xor .i64 4294967295 (e : Int) = ((4294967295 - e : Nat) : Int) := by
  have h1 := u32_max_xor e he
  rw [show bits .xor .u32 IntKind.u32.max (e : Int) = bits .xor .u32 ((4294967295 : Nat) : Int) (e : Int) from rfl, u32_xor_nat _ _ (by omega) he] at h1
  rw [show (4294967295 : Int) = ((4294967295 : Nat) : Int) from rfl, i64_xor_nat _ _ (by omega) (by omega)]
  exact h1
theorem i64_ch (e f g : Nat) (he : e < 4294967296) (hf : f < 4294967296) (hg : g < 4294967296) : bits .xor .i64 (bits .and .i64 (e : Int) (f : Int)) (bits .and .i64 (bits .xor .i64 4294967295 (e : Int)) (g : Int)) = ((chN e f g : Nat) : Int) := by
  have h1 := and_lt e f he
  have h2 := and_lt (4294967295 - e) g (by omega)
  rw [i64_max_xor e he, i64_and_nat e f (by omega) (by omega), i64_and_nat _ g (by omega) (by omega), i64_xor_nat _ _ (by omega) (by omega)]
  rfl
theorem i64_maj (a b c : Nat) (ha : a < 4294967296) (hb : b < 4294967296) (hc : c < 4294967296) : bits .xor .i64 (bits .xor .i64 (bits .and .i64 (a : Int) (b : Int)) (bits .and .i64 (a : Int) (c : Int))) (bits .and .i64 (b : Int) (c : Int)) = ((majN a b c : Nat) : Int) := by
  rw [i64_and_nat a b (by omega) (by omega), i64_and_nat a c (by omega) (by omega), i64_and_nat b c (by omega) (by omega), i64_xor3 _ _ _ (and_lt _ _ ha) (and_lt _ _ ha) (and_lt _ _ hb)]
  rfl
end Go.Proofs.Ytmjnkcggomnnjaa
