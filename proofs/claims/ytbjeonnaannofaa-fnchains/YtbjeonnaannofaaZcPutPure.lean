/- Plain facts on numbers: the groups of seven bits of a number, read and put; bit operations on an int that is not below 0. Plain facts on the bytes of a number, and the law of append over bytes of the call's own. -/
import Derived.Test.YtbjeonnaannofaaRows
import Derived.WalkKit
import Derived.Laws.BitsAllLaws
import Derived.Test.YtbjeonnaannofaaZcBig
import Derived.Laws.AppendOwnNone
namespace Go.Proofs.Ytbjeonnaannofaa
open Go.RowKit

theorem i64_and_nat (a b : Nat) (ha : a < 9223372036854775808) (hb : b < 9223372036854775808) : bits .and .i64 (a : Int) (b : Int) = ((a &&& b : Nat) : Int) := by
  have hx : a &&& b < 2 ^ 63 := Nat.and_lt_two_pow _ (by omega)
  show IntKind.i64.wrap ((BitVec.ofInt 64 (a : Int) &&& BitVec.ofInt 64 (b : Int)).toNat : Int) = _
  rw [BitVec.toNat_and, ofInt_u64 a (by omega), ofInt_u64 b (by omega), IntKind.wrap_i64]
  omega
theorem i64_or_nat (a b : Nat) (ha : a < 9223372036854775808) (hb : b < 9223372036854775808) : bits .or .i64 (a : Int) (b : Int) = ((a ||| b : Nat) : Int) := by
  have hx : a ||| b < 2 ^ 63 := Nat.or_lt_two_pow (by omega) (by omega)
  show IntKind.i64.wrap ((BitVec.ofInt 64 (a : Int) ||| BitVec.ofInt 64 (b : Int)).toNat : Int) = _
  rw [BitVec.toNat_or, ofInt_u64 a (by omega), ofInt_u64 b (by omega), IntKind.wrap_i64]
  omega
theorem and127 (a : Nat) (ha : a < 9223372036854775808) : bits .and .i64 (a : Int) 127 = ((a % 128 : Nat) : Int) := by
  have := i64_and_nat a 127 ha (by omega)
  rw [show ((127 : Nat) : Int) = 127 from rfl] at this
  rw [this, show (127 : Nat) = 2 ^ 7 - 1 from rfl, Nat.and_two_pow_sub_one_eq_mod]
theorem and1 (a : Nat) (ha : a < 9223372036854775808) : bits .and .i64 (a : Int) 1 = ((a % 2 : Nat) : Int) := by
  have := i64_and_nat a 1 ha (by omega)
  rw [show ((1 : Nat) : Int) = 1 from rfl] at this
  rw [this, show (1 : Nat) = 2 ^ 1 - 1 from rfl, Nat.and_two_pow_sub_one_eq_mod]
theorem or_high (a c i : Nat) (h : a < 2 ^ i) : a ||| c * 2 ^ i = a + c * 2 ^ i := by
  rw [← Nat.shiftLeft_eq, Nat.or_comm, ← Nat.shiftLeft_add_eq_or_of_lt h, Nat.add_comm]
theorem or128 (a : Nat) (ha : a < 128) : bits .or .i64 (a : Int) 128 = ((a + 128 : Nat) : Int) := by
  have := i64_or_nat a 128 (by omega) (by omega)
  rw [show ((128 : Nat) : Int) = 128 from rfl] at this
  rw [this]
  have h := or_high a 1 7 (by omega)
  simp at h
  rw [h]

/-- The groups of a number: what has been read, how many groups, and the last one. -/
def gr : Nat → List UInt8 → Nat → Nat → Option (Nat × Nat × Nat)
  | 0, _, _, _ => none
  | _ + 1, [], _, _ => none
  | f + 1, c :: t, m, k => if 128 ≤ c.toNat then gr f t (m + c.toNat % 128 * 128 ^ k) (k + 1) else some (m + c.toNat % 128 * 128 ^ k, k, c.toNat)

/-- What a place of these bytes reads as: 0, 0 and false, or the number, the place behind, and true. -/
def getN (l : List UInt8) (p : Int) : Int × Int × Bool :=
  if 0 ≤ p ∧ p < l.length then
    match gr 5 (l.drop p.toNat) 0 0 with
    | none => (0, 0, false)
    | some (m, k, c) => if (0 < k ∧ c = 0) ∨ 2000000000 < m then (0, 0, false) else ((if m % 2 = 1 then -((m : Int) / 2) - 1 else (m : Int) / 2), p + k + 1, true)
  else (0, 0, false)

theorem gr_step (f : Nat) (l : List UInt8) (q : Nat) (h : q < l.length) (m k : Nat) :
    gr (f + 1) (l.drop q) m k = if 128 ≤ l[q].toNat then gr f (l.drop (q + 1)) (m + l[q].toNat % 128 * 128 ^ k) (k + 1) else some (m + l[q].toNat % 128 * 128 ^ k, k, l[q].toNat) := by
  rw [List.drop_eq_getElem_cons h]; rfl
theorem gr_end (f : Nat) (l : List UInt8) (q : Nat) (h : l.length ≤ q) (m k : Nat) : gr f (l.drop q) m k = none := by
  rw [List.drop_of_length_le h]; cases f <;> rfl

theorem pow128 (k : Nat) : (128 : Nat) ^ k = 2 ^ (7 * k) := by
  rw [show (128 : Nat) = 2 ^ 7 from rfl, ← Nat.pow_mul]
theorem sum_lt (m k c : Nat) (h : m < 128 ^ k) (hc : c < 128) : m + c * 128 ^ k < 128 ^ (k + 1) := by
  have h1 : (c + 1) * 128 ^ k ≤ 128 * 128 ^ k := Nat.mul_le_mul_right _ (by omega)
  rw [Nat.add_mul] at h1
  rw [Nat.pow_succ]; omega
theorem pow128_le (k : Nat) (h : k ≤ 5) : 128 ^ k ≤ 34359738368 := by
  have : (128 : Nat) ^ k ≤ 128 ^ 5 := Nat.pow_le_pow_right (by omega) h
  simpa using this

theorem num_or (m k D E M : Nat) (h : m < 128 ^ k) (hD : D < 128) (hk : k < 5) (hE : D * 128 ^ k = E) (hM : m + E = M) :
    M < 34359738368 ∧ M < 128 ^ (k + 1) ∧ bits .or .i64 (m : Int) (E : Int) = (M : Int) ∧ wrap64 ((D : Int) * 2 ^ (7 * k)) = (E : Int) := by
  have h1 : M < 128 ^ (k + 1) := by have := sum_lt m k D h hD; rwa [hE, hM] at this
  have h2 : M < 34359738368 := by have := pow128_le (k + 1) (by omega); omega
  have hmE : m < 9223372036854775808 := by omega
  have hEE : E < 9223372036854775808 := by omega
  refine ⟨h2, h1, ?_, ?_⟩
  · rw [i64_or_nat m E hmE hEE, ← hM, ← hE, pow128, or_high m D (7 * k) (by rw [← pow128]; exact h)]
  · have e : ((D : Int) * 2 ^ (7 * k)) = ((D * 2 ^ (7 * k) : Nat) : Int) := by simp
    rw [e, ← pow128, hE]; clear e; unfold wrap64; omega

theorem num_mul (k D E : Nat) (u : Int) (hU : ((128 ^ k : Nat) : Int) = u) (hE : D * 128 ^ k = E) (h : E < 34359738368) : wrap64 ((D : Int) * u) = (E : Int) := by
  have e : ((D : Int) * u) = ((D * 128 ^ k : Nat) : Int) := by rw [← hU]; simp
  rw [e, hE]; clear e hE hU; unfold wrap64; omega

theorem getN_none (l : List UInt8) (q : Nat) (h : gr 5 (l.drop q) 0 0 = none) : getN l q = (0, 0, false) := by
  unfold getN; rw [Int.toNat_natCast, h]; split <;> rfl
theorem getN_bad (l : List UInt8) (q M k C : Nat) (h : gr 5 (l.drop q) 0 0 = some (M, k, C)) (hb : (0 < k ∧ C = 0) ∨ 2000000000 < M) : getN l q = (0, 0, false) := by
  unfold getN; rw [Int.toNat_natCast, h]; simp only [if_pos hb]; split <;> rfl
theorem getN_odd (l : List UInt8) (q M k C : Nat) (hq : q < l.length) (h : gr 5 (l.drop q) 0 0 = some (M, k, C)) (hb : ¬ ((0 < k ∧ C = 0) ∨ 2000000000 < M)) (hp : M % 2 = 1) : getN l q = (-((M : Int) / 2) - 1, (q : Int) + k + 1, true) := by
  unfold getN; rw [Int.toNat_natCast, h, if_pos (by omega)]; simp only [if_neg hb, if_pos hp]
theorem getN_even (l : List UInt8) (q M k C : Nat) (hq : q < l.length) (h : gr 5 (l.drop q) 0 0 = some (M, k, C)) (hb : ¬ ((0 < k ∧ C = 0) ∨ 2000000000 < M)) (hp : ¬ M % 2 = 1) : getN l q = ((M : Int) / 2, (q : Int) + k + 1, true) := by
  unfold getN; rw [Int.toNat_natCast, h, if_pos (by omega)]; simp only [if_neg hb, if_neg hp]

theorem gr_last (l : List UInt8) (q k m C M : Nat) (hk : k < 5) (hlt : q + k < l.length) (hg : gr 5 (l.drop q) 0 0 = gr (5 - k) (l.drop (q + k)) m k) (hC : l[q + k].toNat = C) (hM : m + C % 128 * 128 ^ k = M) (hb : ¬ 128 ≤ C) :
    gr 5 (l.drop q) 0 0 = some (M, k, C) := by
  have h := gr_step (4 - k) l (q + k) hlt m k
  rw [hC, hM, if_neg hb, show 4 - k + 1 = 5 - k from by omega] at h
  rw [hg, h]
theorem gr_next (l : List UInt8) (q k m C M : Nat) (hk : k < 5) (hlt : q + k < l.length) (hg : gr 5 (l.drop q) 0 0 = gr (5 - k) (l.drop (q + k)) m k) (hC : l[q + k].toNat = C) (hM : m + C % 128 * 128 ^ k = M) (hb : 128 ≤ C) :
    gr 5 (l.drop q) 0 0 = gr (5 - (k + 1)) (l.drop (q + (k + 1))) M (k + 1) := by
  have h := gr_step (4 - k) l (q + k) hlt m k
  rw [hC, hM, if_pos hb, show 4 - k + 1 = 5 - k from by omega] at h
  rw [hg, h, show 4 - k = 5 - (k + 1) from by omega, Nat.add_assoc]
end Go.Proofs.Ytbjeonnaannofaa

namespace Go.Proofs.Ytbjeonnaannofaa
open Go.RowKit
set_option linter.unusedVariables false

def foldN (n : Int) : Nat := if n < 0 then (2 * min (-n) 1000000000 - 1).toNat else (2 * min n 1000000000).toNat

def putG : Nat → Nat → List UInt8
  | 0, m => [UInt8.ofNat m]
  | f + 1, m => if m ≤ 127 then [UInt8.ofNat m] else UInt8.ofNat (m % 128 + 128) :: putG f (m / 128)

def numB (n : Int) : List UInt8 := putG 5 (foldN n)

theorem foldN_le (n : Int) : foldN n ≤ 2000000000 := by unfold foldN; split <;> omega
theorem putG_len : ∀ (f m : Nat), (putG f m).length ≤ f + 1 := by
  intro f
  induction f with
  | zero => intro m; simp [putG]
  | succ f ih =>
    intro m
    rw [putG]
    split
    · simp
    · have := ih (m / 128); simp only [List.length_cons]; omega
theorem numB_len (n : Int) : (numB n).length ≤ 6 := putG_len 5 _
theorem putG_last (f m : Nat) (h : m ≤ 127) : putG f m = [UInt8.ofNat m] := by
  cases f with
  | zero => rfl
  | succ f => rw [putG, if_pos h]
theorem putG_more (f m : Nat) (h : ¬ m ≤ 127) : putG (f + 1) m = UInt8.ofNat (m % 128 + 128) :: putG f (m / 128) := by rw [putG, if_neg h]

theorem byte_of (m : Nat) (h : m < 256) : (m : Int) = ((UInt8.ofNat m).toNat : Int) := by
  rw [UInt8.toNat_ofNat']; omega

theorem div_lt_pow (m f : Nat) (h : m < 128 ^ (f + 1 + 1)) : m / 128 < 128 ^ (f + 1) := by
  rw [Nat.pow_succ] at h
  exact Nat.div_lt_of_lt_mul (by rw [Nat.mul_comm]; exact h)

theorem fold_pow (M : Nat) (h : M ≤ 2000000000) : M < 128 ^ (5 + 1) := by
  have : (128 : Nat) ^ (5 + 1) = 4398046511104 := by decide
  omega

theorem rd_one (w : World) (x : Int) (c : UInt8) (h : x = (c.toNat : Int)) : RdB (w.alloc (.cells #[.int .u8 x] 5)) (.slice (some ⟨w.heap.size, 0, none⟩) 1 1) [c] := by
  refine .inr ⟨w.heap.size, 0, 1, by simp, rfl, by simp, by unfold maxLen; omega, by simp, ?_⟩
  intro i hi
  simp only [List.length_cons, List.length_nil] at hi
  have : i = 0 := by omega
  subst this
  simp [World.cell?_alloc_at, h]

theorem own_nil (w : World) (base : Nat) (h : base ≤ w.heap.size) : OwnB base (w.alloc (.cells #[] 5)) (.slice (some ⟨w.heap.size, 0, none⟩) 0 0) [] :=
  World.ownsRow_lit w #[] 0 h (by unfold maxLen; omega) (by simp)

theorem OwnB.alloc {base : Nat} {w : World} {v : Value} {l : List UInt8} (h : OwnB base w v l) (o : Obj) : OwnB base (w.alloc o) v l := World.ownsRow.alloc h o

theorem app_own {ops : Array Oper} {rest : List Oper} {o : Oper} {a : Act} {Q : Exit → Act → World → Prop} (w : World) (hgd : o.guard = none) (s x : Operand)
    (ho : o.op = .call { callee := .builtin .append, args := #[s, x], argTypes := #[22, 22] })
    (base : Nat) (v vx : Value) (l k : List UInt8) (hs : a.eval s = v) (hx : a.eval x = vx) (hown : OwnB base w v l) (hrd : RdB w vx k)
    (hlen : l.length + k.length ≤ 100000000) (hbase : base ≤ w.heap.size)
    (h : ∀ v' w', OwnB base w' v' (l ++ k) → Below base w w' → wpList Try.prog ops Q rest (a.put o.dst v') w') : wpList Try.prog ops Q (o :: rest) a w := by
  obtain ⟨i0, hi, hz0, hz1, hz2⟩ := info_parts Try.infoU8
  have hbel : ∀ w', w.grownBy w' v.ownBlock → Below base w w' := fun w' hg => (Below.refl _ _).grown hg hbase (fun k hk => (World.ownsRow.lt hown k hk).1)
  rcases hrd with ⟨ax, cap, rfl, rfl, hnil⟩ | ⟨b, off, cap, h0, rfl, h1, h2, h3, h4⟩
  · cases ax with
    | none =>
      have hc : cap = 0 := hnil rfl
      subst hc
      refine wpList_append_own_none hgd s x 22 ho base 5 i0 1 Try.underlying22 hi v l.length (l.map cb) hs hown hx ?_
      exact h v w (by simpa [OwnB] using hown) (Below.refl _ _)
    | some ad =>
      refine wpList_append_own w hgd s x 22 ho base 5 i0 (.int .u8 0) 1 1 Try.underlying22 hi hz0 hz1 hz2 rfl (by decide) v l.length (l.map cb) hs hown ad 0 cap [] hx rfl (by intro j u hj; simp at hj) (by intro u hu; simp at hu) (by unfold maxLen; simp at hlen; omega) (by simp at hlen; omega) hbase ?_
      intro v' w' ho' hg _
      exact h v' w' (by simpa [OwnB] using ho') (hbel w' hg)
  · refine wpList_append_own w hgd s x 22 ho base 5 i0 (.int .u8 0) 1 1 Try.underlying22 hi hz0 hz1 hz2 rfl (by decide) v l.length (l.map cb) hs hown ⟨b, off, none⟩ k.length cap (k.map cb) hx (by simp) ?_ ?_ (by unfold maxLen; omega) (by omega) hbase ?_
    · intro j u hj
      have hj' : j < k.length := by have := (List.getElem?_eq_some_iff.1 hj).1; simpa using this
      have ea : (⟨b, off, none⟩ : Addr).add j = ⟨b, off + j, none⟩ := by
        by_cases hz : j = 0
        · subst hz; simp [Addr.add]
        · simp [Addr.add, hz]
      rw [ea, h4 j hj']
      simp [hj', cb] at hj
      rw [← hj]
    · intro u hu
      obtain ⟨c, _, rfl⟩ := List.mem_map.1 hu
      rfl
    · intro v' w' ho' hg _
      exact h v' w' (by simpa [OwnB] using ho') (hbel w' hg)
end Go.Proofs.Ytbjeonnaannofaa
