/- Plain facts on numbers: the groups of seven bits of a number, read and put; bit operations on an int that is not below 0. Plain facts on the bytes of a number, and the law of append over bytes of the call's own. The model's draws: a cursor over the bytes of a code; whatever is drawn, it is of its kind, and nothing but the cursor turns. -/
import Derived.Test.YtbjeonnaannofaaRows
import Derived.WalkKit
import Derived.Laws.BitsAllLaws
import Derived.Test.YtbjeonnaannofaaZaBig
import Derived.Laws.AppendOwnNone
namespace Go.Proofs.Ytbjeonnaannofaa
open Go.RowKit

theorem i64_and_nat (a b : Nat) (ha : a < 9223372036854775808) (hb : b < 9223372036854775808) : bits .and .i64 (a : Int) (b : Int) = ((a &&& b : Nat) : Int) := by
  have hx : a &&& b < 2 ^ 63 := Nat.and_lt_two_pow _ (by omega)
  show IntKind.i64.wrap ((BitVec.ofInt 64 (a : Int) &&& BitVec.ofInt 64 (b : Int)).toNat : Int) = _
  rw [BitVec.toNat_and, ofInt_u64 a (by omega), ofInt_u64 b (by omega), IntKind.wrap_i64]
  omega
theorem i64_or_nat (a b : Nat) (ha : a < 9223372036854775808) (hb : b < 9223372036854775808) : bits .or .i64 (a : Int) (b : Int) = ((a ||| b : Nat) : Int) := by
  have hx : a ||| b < 2 ^ 63 := Nat.or_lt_two_pow (by omega) (by omega)
  show IntKind.i64.wrap ((BitVec.ofInt 64 (a : Int) ||| BitVec.ofInt 64 (b : Int)).toNat : Int) = _
  rw [BitVec.toNat_or, ofInt_u64 a (by omega), ofInt_u64 b (by omega), IntKind.wrap_i64]
  omega
theorem and127 (a : Nat) (ha : a < 9223372036854775808) : bits .and .i64 (a : Int) 127 = ((a % 128 : Nat) : Int) := by
  have := i64_and_nat a 127 ha (by omega)
  rw [show ((127 : Nat) : Int) = 127 from rfl] at this
  rw [this, show (127 : Nat) = 2 ^ 7 - 1 from rfl, Nat.and_two_pow_sub_one_eq_mod]
theorem and1 (a : Nat) (ha : a < 9223372036854775808) : bits .and .i64 (a : Int) 1 = ((a % 2 : Nat) : Int) := by
  have := i64_and_nat a 1 ha (by omega)
  rw [show ((1 : Nat) : Int) = 1 from rfl] at this
  rw [this, show (1 : Nat) = 2 ^ 1 - 1 from rfl, Nat.and_two_pow_sub_one_eq_mod]
theorem or_high (a c i : Nat) (h : a < 2 ^ i) : a ||| c * 2 ^ i = a + c * 2 ^ i := by
  rw [← Nat.shiftLeft_eq, Nat.or_comm, ← Nat.shiftLeft_add_eq_or_of_lt h, Nat.add_comm]
theorem or128 (a : Nat) (ha : a < 128) : bits .or .i64 (a : Int) 128 = ((a + 128 : Nat) : Int) := by
  have := i64_or_nat a 128 (by omega) (by omega)
  rw [show ((128 : Nat) : Int) = 128 from rfl] at this
  rw [this]
  have h := or_high a 1 7 (by omega)
  simp at h
  rw [h]

/-- The groups of a number: what has been read, how many groups, and the last one. -/
def gr : Nat → List UInt8 → Nat → Nat → Option (Nat × Nat × Nat)
  | 0, _, _, _ => none
  | _ + 1, [], _, _ => none
  | f + 1, c :: t, m, k => if 128 ≤ c.toNat then gr f t (m + c.toNat % 128 * 128 ^ k) (k + 1) else some (m + c.toNat % 128 * 128 ^ k, k, c.toNat)

/-- What a place of these bytes reads as: 0, 0 and false, or the number, the place behind, and true. -/
def getN (l : List UInt8) (p : Int) : Int × Int × Bool :=
  if 0 ≤ p ∧ p < l.length then
    match gr 5 (l.drop p.toNat) 0 0 with
    | none => (0, 0, false)
    | some (m, k, c) => if (0 < k ∧ c = 0) ∨ 2000000000 < m then (0, 0, false) else ((if m % 2 = 1 then -((m : Int) / 2) - 1 else (m : Int) / 2), p + k + 1, true)
  else (0, 0, false)

theorem gr_step (f : Nat) (l : List UInt8) (q : Nat) (h : q < l.length) (m k : Nat) :
    gr (f + 1) (l.drop q) m k = if 128 ≤ l[q].toNat then gr f (l.drop (q + 1)) (m + l[q].toNat % 128 * 128 ^ k) (k + 1) else some (m + l[q].toNat % 128 * 128 ^ k, k, l[q].toNat) := by
  rw [List.drop_eq_getElem_cons h]; rfl
theorem gr_end (f : Nat) (l : List UInt8) (q : Nat) (h : l.length ≤ q) (m k : Nat) : gr f (l.drop q) m k = none := by
  rw [List.drop_of_length_le h]; cases f <;> rfl

theorem pow128 (k : Nat) : (128 : Nat) ^ k = 2 ^ (7 * k) := by
  rw [show (128 : Nat) = 2 ^ 7 from rfl, ← Nat.pow_mul]
theorem sum_lt (m k c : Nat) (h : m < 128 ^ k) (hc : c < 128) : m + c * 128 ^ k < 128 ^ (k + 1) := by
  have h1 : (c + 1) * 128 ^ k ≤ 128 * 128 ^ k := Nat.mul_le_mul_right _ (by omega)
  rw [Nat.add_mul] at h1
  rw [Nat.pow_succ]; omega
theorem pow128_le (k : Nat) (h : k ≤ 5) : 128 ^ k ≤ 34359738368 := by
  have : (128 : Nat) ^ k ≤ 128 ^ 5 := Nat.pow_le_pow_right (by omega) h
  simpa using this

theorem num_or (m k D E M : Nat) (h : m < 128 ^ k) (hD : D < 128) (hk : k < 5) (hE : D * 128 ^ k = E) (hM : m + E = M) :
    M < 34359738368 ∧ M < 128 ^ (k + 1) ∧ bits .or .i64 (m : Int) (E : Int) = (M : Int) ∧ wrap64 ((D : Int) * 2 ^ (7 * k)) = (E : Int) := by
  have h1 : M < 128 ^ (k + 1) := by have := sum_lt m k D h hD; rwa [hE, hM] at this
  have h2 : M < 34359738368 := by have := pow128_le (k + 1) (by omega); omega
  have hmE : m < 9223372036854775808 := by omega
  have hEE : E < 9223372036854775808 := by omega
  refine ⟨h2, h1, ?_, ?_⟩
  · rw [i64_or_nat m E hmE hEE, ← hM, ← hE, pow128, or_high m D (7 * k) (by rw [← pow128]; exact h)]
  · have e : ((D : Int) * 2 ^ (7 * k)) = ((D * 2 ^ (7 * k) : Nat) : Int) := by simp
    rw [e, ← pow128, hE]; clear e; unfold wrap64; omega

theorem num_mul (k D E : Nat) (u : Int) (hU : ((128 ^ k : Nat) : Int) = u) (hE : D * 128 ^ k = E) (h : E < 34359738368) : wrap64 ((D : Int) * u) = (E : Int) := by
  have e : ((D : Int) * u) = ((D * 128 ^ k : Nat) : Int) := by rw [← hU]; simp
  rw [e, hE]; clear e hE hU; unfold wrap64; omega

theorem getN_none (l : List UInt8) (q : Nat) (h : gr 5 (l.drop q) 0 0 = none) : getN l q = (0, 0, false) := by
  unfold getN; rw [Int.toNat_natCast, h]; split <;> rfl
theorem getN_bad (l : List UInt8) (q M k C : Nat) (h : gr 5 (l.drop q) 0 0 = some (M, k, C)) (hb : (0 < k ∧ C = 0) ∨ 2000000000 < M) : getN l q = (0, 0, false) := by
  unfold getN; rw [Int.toNat_natCast, h]; simp only [if_pos hb]; split <;> rfl
theorem getN_odd (l : List UInt8) (q M k C : Nat) (hq : q < l.length) (h : gr 5 (l.drop q) 0 0 = some (M, k, C)) (hb : ¬ ((0 < k ∧ C = 0) ∨ 2000000000 < M)) (hp : M % 2 = 1) : getN l q = (-((M : Int) / 2) - 1, (q : Int) + k + 1, true) := by
  unfold getN; rw [Int.toNat_natCast, h, if_pos (by omega)]; simp only [if_neg hb, if_pos hp]
theorem getN_even (l : List UInt8) (q M k C : Nat) (hq : q < l.length) (h : gr 5 (l.drop q) 0 0 = some (M, k, C)) (hb : ¬ ((0 < k ∧ C = 0) ∨ 2000000000 < M)) (hp : ¬ M % 2 = 1) : getN l q = ((M : Int) / 2, (q : Int) + k + 1, true) := by
  unfold getN; rw [Int.toNat_natCast, h, if_pos (by omega)]; simp only [if_neg hb, if_neg hp]

theorem gr_last (l : List UInt8) (q k m C M : Nat) (hk : k < 5) (hlt : q + k < l.length) (hg : gr 5 (l.drop q) 0 0 = gr (5 - k) (l.drop (q + k)) m k) (hC : l[q + k].toNat = C) (hM : m + C % 128 * 128 ^ k = M) (hb : ¬ 128 ≤ C) :
    gr 5 (l.drop q) 0 0 = some (M, k, C) := by
  have h := gr_step (4 - k) l (q + k) hlt m k
  rw [hC, hM, if_neg hb, show 4 - k + 1 = 5 - k from by omega] at h
  rw [hg, h]
theorem gr_next (l : List UInt8) (q k m C M : Nat) (hk : k < 5) (hlt : q + k < l.length) (hg : gr 5 (l.drop q) 0 0 = gr (5 - k) (l.drop (q + k)) m k) (hC : l[q + k].toNat = C) (hM : m + C % 128 * 128 ^ k = M) (hb : 128 ≤ C) :
    gr 5 (l.drop q) 0 0 = gr (5 - (k + 1)) (l.drop (q + (k + 1))) M (k + 1) := by
  have h := gr_step (4 - k) l (q + k) hlt m k
  rw [hC, hM, if_pos hb, show 4 - k + 1 = 5 - k from by omega] at h
  rw [hg, h, show 4 - k = 5 - (k + 1) from by omega, Nat.add_assoc]
end Go.Proofs.Ytbjeonnaannofaa

namespace Go.Proofs.Ytbjeonnaannofaa
open Go.RowKit
set_option linter.unusedVariables false

def foldN (n : Int) : Nat := if n < 0 then (2 * min (-n) 1000000000 - 1).toNat else (2 * min n 1000000000).toNat

def putG : Nat → Nat → List UInt8
  | 0, m => [UInt8.ofNat m]
  | f + 1, m => if m ≤ 127 then [UInt8.ofNat m] else UInt8.ofNat (m % 128 + 128) :: putG f (m / 128)

def numB (n : Int) : List UInt8 := putG 5 (foldN n)

theorem foldN_le (n : Int) : foldN n ≤ 2000000000 := by unfold foldN; split <;> omega
theorem putG_len : ∀ (f m : Nat), (putG f m).length ≤ f + 1 := by
  intro f
  induction f with
  | zero => intro m; simp [putG]
  | succ f ih =>
    intro m
    rw [putG]
    split
    · simp
    · have := ih (m / 128); simp only [List.length_cons]; omega
theorem numB_len (n : Int) : (numB n).length ≤ 6 := putG_len 5 _
theorem putG_last (f m : Nat) (h : m ≤ 127) : putG f m = [UInt8.ofNat m] := by
  cases f with
  | zero => rfl
  | succ f => rw [putG, if_pos h]
theorem putG_more (f m : Nat) (h : ¬ m ≤ 127) : putG (f + 1) m = UInt8.ofNat (m % 128 + 128) :: putG f (m / 128) := by rw [putG, if_neg h]

theorem byte_of (m : Nat) (h : m < 256) : (m : Int) = ((UInt8.ofNat m).toNat : Int) := by
  rw [UInt8.toNat_ofNat']; omega

theorem div_lt_pow (m f : Nat) (h : m < 128 ^ (f + 1 + 1)) : m / 128 < 128 ^ (f + 1) := by
  rw [Nat.pow_succ] at h
  exact Nat.div_lt_of_lt_mul (by rw [Nat.mul_comm]; exact h)

theorem fold_pow (M : Nat) (h : M ≤ 2000000000) : M < 128 ^ (5 + 1) := by
  have : (128 : Nat) ^ (5 + 1) = 4398046511104 := by decide
  omega

theorem rd_one (w : World) (x : Int) (c : UInt8) (h : x = (c.toNat : Int)) : RdB (w.alloc (.cells #[.int .u8 x] 5)) (.slice (some ⟨w.heap.size, 0, none⟩) 1 1) [c] := by
  refine .inr ⟨w.heap.size, 0, 1, by simp, rfl, by simp, by unfold maxLen; omega, by simp, ?_⟩
  intro i hi
  simp only [List.length_cons, List.length_nil] at hi
  have : i = 0 := by omega
  subst this
  simp [World.cell?_alloc_at, h]

theorem own_nil (w : World) (base : Nat) (h : base ≤ w.heap.size) : OwnB base (w.alloc (.cells #[] 5)) (.slice (some ⟨w.heap.size, 0, none⟩) 0 0) [] :=
  World.ownsRow_lit w #[] 0 h (by unfold maxLen; omega) (by simp)

theorem OwnB.alloc {base : Nat} {w : World} {v : Value} {l : List UInt8} (h : OwnB base w v l) (o : Obj) : OwnB base (w.alloc o) v l := World.ownsRow.alloc h o

theorem app_own {ops : Array Oper} {rest : List Oper} {o : Oper} {a : Act} {Q : Exit → Act → World → Prop} (w : World) (hgd : o.guard = none) (s x : Operand)
    (ho : o.op = .call { callee := .builtin .append, args := #[s, x], argTypes := #[22, 22] })
    (base : Nat) (v vx : Value) (l k : List UInt8) (hs : a.eval s = v) (hx : a.eval x = vx) (hown : OwnB base w v l) (hrd : RdB w vx k)
    (hlen : l.length + k.length ≤ 100000000) (hbase : base ≤ w.heap.size)
    (h : ∀ v' w', OwnB base w' v' (l ++ k) → Below base w w' → wpList Try.prog ops Q rest (a.put o.dst v') w') : wpList Try.prog ops Q (o :: rest) a w := by
  obtain ⟨i0, hi, hz0, hz1, hz2⟩ := info_parts Try.infoU8
  have hbel : ∀ w', w.grownBy w' v.ownBlock → Below base w w' := fun w' hg => (Below.refl _ _).grown hg hbase (fun k hk => (World.ownsRow.lt hown k hk).1)
  rcases hrd with ⟨ax, cap, rfl, rfl, hnil⟩ | ⟨b, off, cap, h0, rfl, h1, h2, h3, h4⟩
  · cases ax with
    | none =>
      have hc : cap = 0 := hnil rfl
      subst hc
      refine wpList_append_own_none hgd s x 22 ho base 5 i0 1 Try.underlying22 hi v l.length (l.map cb) hs hown hx ?_
      exact h v w (by simpa [OwnB] using hown) (Below.refl _ _)
    | some ad =>
      refine wpList_append_own w hgd s x 22 ho base 5 i0 (.int .u8 0) 1 1 Try.underlying22 hi hz0 hz1 hz2 rfl (by decide) v l.length (l.map cb) hs hown ad 0 cap [] hx rfl (by intro j u hj; simp at hj) (by intro u hu; simp at hu) (by unfold maxLen; simp at hlen; omega) (by simp at hlen; omega) hbase ?_
      intro v' w' ho' hg _
      exact h v' w' (by simpa [OwnB] using ho') (hbel w' hg)
  · refine wpList_append_own w hgd s x 22 ho base 5 i0 (.int .u8 0) 1 1 Try.underlying22 hi hz0 hz1 hz2 rfl (by decide) v l.length (l.map cb) hs hown ⟨b, off, none⟩ k.length cap (k.map cb) hx (by simp) ?_ ?_ (by unfold maxLen; omega) (by omega) hbase ?_
    · intro j u hj
      have hj' : j < k.length := by have := (List.getElem?_eq_some_iff.1 hj).1; simpa using this
      have ea : (⟨b, off, none⟩ : Addr).add j = ⟨b, off + j, none⟩ := by
        by_cases hz : j = 0
        · subst hz; simp [Addr.add]
        · simp [Addr.add, hz]
      rw [ea, h4 j hj']
      simp [hj', cb] at hj
      rw [← hj]
    · intro u hu
      obtain ⟨c, _, rfl⟩ := List.mem_map.1 hu
      rfl
    · intro v' w' ho' hg _
      exact h v' w' (by simpa [OwnB] using ho') (hbel w' hg)
end Go.Proofs.Ytbjeonnaannofaa

namespace Go.Proofs.Ytbjeonnaannofaa
open Go.RowKit
set_option linter.unusedVariables false

/-- A cursor at block g over the bytes 'code', which lie in the world w0 and have not turned since. -/
structure Cur (w0 w : World) (g : Nat) (cv : Value) (code : List UInt8) : Prop where
  rd : RdB w0 cv code
  bel : Below w0.heap.size w0 w
  le : w0.heap.size ≤ g
  blk : ∃ i h : Int, w.heap[g]? = some (.cells #[cv, .int .i64 i, .int .i64 h] 116 (0, 0)) ∧ 0 ≤ i ∧ i ≤ code.length ∧ -9223372036854775808 ≤ h ∧ h ≤ 9223372036854775807

def mulK (h : Int) : Int := wrap64 (h * 6364136223846793005)

theorem wrap64_bd (x : Int) : -9223372036854775808 ≤ wrap64 x ∧ wrap64 x ≤ 9223372036854775807 := by unfold wrap64; omega

theorem and255_bd (x : Int) : 0 ≤ bits .and .i64 x 255 ∧ bits .and .i64 x 255 ≤ 255 := by
  show 0 ≤ IntKind.i64.wrap ((BitVec.ofInt 64 x &&& BitVec.ofInt 64 255).toNat : Int) ∧ IntKind.i64.wrap ((BitVec.ofInt 64 x &&& BitVec.ofInt 64 255).toNat : Int) ≤ 255
  have h : (BitVec.ofInt 64 x &&& BitVec.ofInt 64 255).toNat ≤ 255 := by
    rw [BitVec.toNat_and]
    exact Nat.le_trans Nat.and_le_right (by decide)
  rw [IntKind.wrap_i64]
  omega

theorem cur_cells {w : World} {g : Nat} {a b c : Value} {t : TypeId} (h : w.heap[g]? = some (.cells #[a, b, c] t (0, 0))) :
    w.cell? ⟨g, 0, none⟩ = some a ∧ w.cell? ⟨g, 1, none⟩ = some b ∧ w.cell? ⟨g, 2, none⟩ = some c ∧ w.frozen? ⟨g, 0, none⟩ = false ∧ w.frozen? ⟨g, 1, none⟩ = false ∧ w.frozen? ⟨g, 2, none⟩ = false :=
  ⟨cell_of_row w g 0 _ t (0, 0) h, cell_of_row w g 1 _ t (0, 0) h, cell_of_row w g 2 _ t (0, 0) h, frozen_of_row w g 0 _ t h, frozen_of_row w g 1 _ t h, frozen_of_row w g 2 _ t h⟩

theorem cur_set {w : World} {g : Nat} {a b c : Value} {t : TypeId} (h : w.heap[g]? = some (.cells #[a, b, c] t (0, 0))) (u : Value) :
    ((w.setCell ⟨g, 2, none⟩ u).heap[g]? = some (.cells #[a, b, u] t (0, 0)) ∧ w.grownBy (w.setCell ⟨g, 2, none⟩ u) (some g)) ∧
    ((w.setCell ⟨g, 1, none⟩ u).heap[g]? = some (.cells #[a, u, c] t (0, 0)) ∧ w.grownBy (w.setCell ⟨g, 1, none⟩ u) (some g)) :=
  ⟨⟨heap_setCell_same w g 2 #[a, b, c] t u h, ⟨rfl, rfl, rfl, by simp, fun k _ hk => heap_setCell_other w ⟨g, 2, none⟩ k u (fun e => hk (by simp [e]))⟩⟩,
   ⟨heap_setCell_same w g 1 #[a, b, c] t u h, ⟨rfl, rfl, rfl, by simp, fun k _ hk => heap_setCell_other w ⟨g, 1, none⟩ k u (fun e => hk (by simp [e]))⟩⟩⟩

theorem grw_trans {a b c : World} {row : Option Nat} (h : a.grownBy b row) (k : b.grownBy c row) : a.grownBy c row :=
  ⟨k.os.trans h.os, k.tape.trans h.tape, k.output.trans h.output, Nat.le_trans h.size k.size, fun i hi hr => (k.block i (Nat.lt_of_lt_of_le hi h.size) hr).trans (h.block i hi hr)⟩
theorem grw_drewN {a b : World} {row : Option Nat} (h : a.grownBy b row) (n : Nat) : a.grownBy (b.drewN n) row := ⟨h.os, h.tape, h.output, h.size, h.block⟩

theorem Cur.step {w0 w w' : World} {g : Nat} {cv : Value} {code : List UInt8} (hc : Cur w0 w g cv code) (hg : w.grownBy w' (some g)) (i h : Int)
    (hb : w'.heap[g]? = some (.cells #[cv, .int .i64 i, .int .i64 h] 116 (0, 0))) (h1 : 0 ≤ i) (h2 : i ≤ code.length) (h3 : -9223372036854775808 ≤ h) (h4 : h ≤ 9223372036854775807) : Cur w0 w' g cv code :=
  ⟨hc.rd, hc.bel.grown hg hc.bel.size (fun k hk => by cases hk; exact hc.le), hc.le, ⟨i, h, hb, h1, h2, h3, h4⟩⟩

theorem Cur.byte {w0 w : World} {g b off cap : Nat} {code : List UInt8} (hbel : Below w0.heap.size w0 w) (hb : b < w0.heap.size) (j : Nat) {v : Value} (hc : w0.cell? ⟨b, off + j, none⟩ = some v) : w.cell? ⟨b, off + j, none⟩ = some v := (hbel.cell (p := ⟨b, off + j, none⟩) hb).trans hc

set_option maxRecDepth 20000 in
set_option maxHeartbeats 1000000 in
theorem l1Byte_any (w0 w : World) (g : Nat) (cv : Value) (code : List UInt8) (hc : Cur w0 w g cv code) (hl : code.length ≤ 1048576) :
    Calls Try.prog 101 #[.pointer (some ⟨g, 0, none⟩)] w fun e w' => ∃ x : Nat, e = .returned (.int .i64 (x : Int)) ∧ x ≤ 255 ∧ Cur w0 w' g cv code ∧ w.grownBy w' (some g) := by
  obtain ⟨i, h, hb, hi0, hi1, hh0, hh1⟩ := hc.blk
  obtain ⟨c0, c1, c2, f0, f1, f2⟩ := cur_cells hb
  have Hc := hide hc
  have Hb := hide hb
  clear hb
  have km : ∀ h : Int, wrap64 (h * 6364136223846793005) = mulK h := fun _ => rfl
  obtain ⟨I, rfl⟩ := Int.eq_ofNat_of_zero_le hi0
  obtain ⟨av, capv, hcv⟩ := hc.rd.shape
  have Hrd := hide hc.rd
  subst hcv
  clear hc
  go_enter Try.func101, Try.ntmps101
  go_wp2
  clear km
  generalize wrap64 (h * 6364136223846793005) = Y
  have hHb := wrap64_bd (mulK h + 1442695040888963407)
  generalize wrap64 (mulK h + 1442695040888963407) = H at hHb
  obtain ⟨hH0, hH1⟩ := hHb
  have hs := (cur_set Hb.out (.int .i64 H)).1
  generalize w.setCell ⟨g, 2, none⟩ (.int .i64 H) = w1 at hs
  obtain ⟨hb1, hg1⟩ := hs
  clear c0 c1 c2 f0 f1 f2
  obtain ⟨c0, c1, c2, f0, f1, f2⟩ := cur_cells hb1
  have Hb1 := hide hb1
  have Hg1 := hide hg1
  clear hb1 hg1
  go_quiet (fail)
  go_wp2
  have hX := and255_bd (bits BinOp.xor IntKind.i64 (H / 8589934592) (H / 140737488355328))
  generalize bits BinOp.and IntKind.i64 (bits BinOp.xor IntKind.i64 (H / 8589934592) (H / 140737488355328)) 255 = X at hX
  obtain ⟨hX0, hX1⟩ := hX
  obtain ⟨x, rfl⟩ := Int.eq_ofNat_of_zero_le hX0
  have hx : x ≤ 255 := by omega
  clear hX0 hX1
  by_cases hI : I < code.length
  · rcases Hrd.out with ⟨_, _, _, e, _⟩ | ⟨b, off, cap, h0, hv, h1, h2, h3, h4⟩
    · rw [e] at hI; simp at hI
    · cases hv
      have hc4 : w1.cell? ⟨b, off + I, none⟩ = some (.int .u8 (code[I].toNat : Int)) := Cur.byte (g := g) (cap := capv) (code := code) (Hc.out.step Hg1.out _ _ Hb1.out (by omega) (by omega) hH0 hH1).bel h3 I (h4 I hI)
      have hcb : (code[I].toNat : Int) < 256 := by have := code[I].toNat_lt; omega
      generalize code[I].toNat = C at hc4 hcb
      have hlt : (I : Int) < (code.length : Int) := by omega
      clear h4 h0 h1 h2 h3
      go_quiet (fail)
      go_wp2
      go_quiet (fail)
      go_wp2
      have hY := and255_bd ((x : Int) + (C : Int))
      obtain ⟨y, hy⟩ := Int.eq_ofNat_of_zero_le hY.1
      have hs2 := (cur_set Hb1.out (.int .i64 ((I : Int) + 1))).2
      go_ret
      refine ⟨y, ret_int hy, by omega, Hc.out.step (grw_trans Hg1.out (grw_drewN hs2.2 _)) ((I : Int) + 1) H hs2.1 (by omega) (by omega) hH0 hH1, grw_trans Hg1.out (grw_drewN hs2.2 _)⟩
  · have hd : ¬ (I : Int) < (code.length : Int) := by omega
    go_quiet (fail)
    go_wp2
    go_ret
    exact ⟨x, rfl, hx, Hc.out.step (grw_drewN Hg1.out _) _ _ Hb1.out (by omega) (by omega) hH0 hH1, grw_drewN Hg1.out _⟩

theorem Cur.below {B : Nat} {w0 w w' : World} {g : Nat} {cv : Value} {code : List UInt8} (hc : Cur w0 w g cv code) (hb : Below B w w') (hg : g < B) : Cur w0 w' g cv code := by
  obtain ⟨i, h, hbk, r⟩ := hc.blk
  exact ⟨hc.rd, hc.bel.trans (hb.mono (by have := hc.le; omega)), hc.le, ⟨i, h, by rw [hb.block g hg]; exact hbk, r⟩⟩
theorem Cur.lt {w0 w : World} {g : Nat} {cv : Value} {code : List UInt8} (hc : Cur w0 w g cv code) : g < w.heap.size := by
  obtain ⟨i, h, hbk, r⟩ := hc.blk
  exact (Array.getElem?_eq_some_iff.1 hbk).1
theorem Cur.drewN {w0 w : World} {g : Nat} {cv : Value} {code : List UInt8} (hc : Cur w0 w g cv code) (n : Nat) : Cur w0 (w.drewN n) g cv code :=
  hc.below (B := g + 1) (below_drewN (Below.refl _ _) n) (by omega)

theorem grw_below {B : Nat} {a b c : World} {row : Option Nat} (h : a.grownBy b row) (k : Below B b c) (hB : a.heap.size ≤ B) : a.grownBy c row :=
  ⟨k.os.trans h.os, k.tape.trans h.tape, k.output.trans h.output, Nat.le_trans h.size k.size, fun i hi hr => (k.block i (by omega)).trans (h.block i hi hr)⟩
theorem grw_of_below {B : Nat} {a b : World} (row : Option Nat) (k : Below B a b) (hB : a.heap.size ≤ B) : a.grownBy b row :=
  ⟨k.os, k.tape, k.output, k.size, fun i hi _ => k.block i (by omega)⟩
theorem below_grw {B g : Nat} {a b : World} (h : a.grownBy b (some g)) (hB : B ≤ g) (hs : B ≤ a.heap.size) : Below B a b :=
  (Below.refl _ _).grown h hs (fun k hk => by cases hk; exact hB)

set_option maxRecDepth 20000 in
set_option maxHeartbeats 1000000 in
theorem l1Below_any (w0 w : World) (g : Nat) (cv : Value) (code : List UInt8) (n : Int) (hc : Cur w0 w g cv code) (hl : code.length ≤ 1048576) (h1 : -9223372036854775808 ≤ n) (h2 : n ≤ 9223372036854775807) :
    Calls Try.prog 46 #[.pointer (some ⟨g, 0, none⟩), .int .i64 n] w fun e w' => ∃ x : Nat, e = .returned (.int .i64 (x : Int)) ∧ (0 < n → (x : Int) < n) ∧ (n ≤ 0 → x = 0) ∧ Cur w0 w' g cv code ∧ w.grownBy w' (some g) := by
  have Hc := hide hc
  clear hc
  by_cases hn : n ≤ 0
  · go_enter Try.func46, Try.ntmps46
    go_wp2
    go_ret
    exact ⟨0, rfl, fun h => by omega, fun _ => rfl, Hc.out, World.grownBy.refl _ _⟩
  · by_cases hn2 : n ≤ 256
    · have hn0 : (n == 0) = false := by rw [beq_eq_false_iff_ne]; omega
      go_enter Try.func46, Try.ntmps46
      go_wp2_with fail
      refine (l1Byte_any _ _ _ _ _ Hc.out hl).mono ?_
      rintro e w1 ⟨x, rfl, hx, hc1, hg1⟩
      have hm := Int.emod_nonneg (x : Int) (show n ≠ 0 from by omega)
      have hm2 := Int.emod_lt_of_pos (x : Int) (show 0 < n from by omega)
      go_wp2
      go_ret
      obtain ⟨y, hy⟩ := Int.eq_ofNat_of_zero_le hm
      exact ⟨y, ret_int hy, fun _ => by omega, fun h => by omega, hc1, hg1⟩
    · have hn0 : (n == 0) = false := by rw [beq_eq_false_iff_ne]; omega
      go_enter Try.func46, Try.ntmps46
      go_wp2_with fail
      refine (l1Byte_any _ _ _ _ _ Hc.out hl).mono ?_
      rintro e w1 ⟨x, rfl, hx, hc1, hg1⟩
      go_wp2_with fail
      refine (l1Byte_any _ _ _ _ _ hc1 hl).mono ?_
      rintro e w2 ⟨y, rfl, hy, hc2, hg2⟩
      go_wp2_with fail
      refine (l1Byte_any _ _ _ _ _ hc2 hl).mono ?_
      rintro e w3 ⟨z, rfl, hz, hc3, hg3⟩
      have hs0 : 0 ≤ (x : Int) * 65536 + (y : Int) * 256 + (z : Int) := by omega
      have hm := Int.emod_nonneg ((x : Int) * 65536 + (y : Int) * 256 + (z : Int)) (show n ≠ 0 from by omega)
      have hm2 := Int.emod_lt_of_pos ((x : Int) * 65536 + (y : Int) * 256 + (z : Int)) (show 0 < n from by omega)
      go_wp2
      go_ret
      obtain ⟨r, hr⟩ := Int.eq_ofNat_of_zero_le hm
      exact ⟨r, ret_int hr, fun _ => by omega, fun h => by omega, hc3, grw_trans (grw_trans hg1 hg2) hg3⟩

/-- The numbers ns lie at the head of block b. -/
def IntsAt (w : World) (b : Nat) (ns : List Int) : Prop := b < w.heap.size ∧ ∀ j (h : j < ns.length), w.cell? ⟨b, j, none⟩ = some (.int .i64 ns[j])
theorem ints_new (w : World) (ns : List Int) (t : TypeId) : IntsAt (w.alloc (.cells (ns.map (Value.int .i64)).toArray t)) w.heap.size ns := by
  refine ⟨by simp, fun j hj => ?_⟩
  rw [World.cell?_alloc_at _ _ _ _ rfl]
  simp [hj]
theorem IntsAt.grw {w w' : World} {b g : Nat} {ns : List Int} (h : IntsAt w b ns) (hg : w.grownBy w' (some g)) (hne : b ≠ g) : IntsAt w' b ns :=
  ⟨by have := hg.size; have := h.1; omega, fun j hj => hg.cell (a := ⟨b, j, none⟩) (h.2 j hj) (by simp [hne])⟩

set_option maxRecDepth 20000 in
theorem l1Int_any (w0 w : World) (g b : Nat) (cv : Value) (code : List UInt8) (ns : List Int) (hc : Cur w0 w g cv code) (hl : code.length ≤ 1048576) (hi : IntsAt w b ns) (hne : b ≠ g) (hn : 0 < ns.length) (hn2 : ns.length ≤ 1000) (cap : Nat) :
    Calls Try.prog 88 #[.pointer (some ⟨g, 0, none⟩), .slice (some ⟨b, 0, none⟩) ns.length cap] w fun e w' => ∃ n : Int, e = .returned (.int .i64 n) ∧ n ∈ ns ∧ Cur w0 w' g cv code ∧ w.grownBy w' (some g) := by
  have Hc := hide hc
  have Hi := hide hi
  clear hc hi
  go_enter Try.func88, Try.ntmps88
  go_wp2_with fail
  refine (l1Below_any _ _ _ _ _ _ Hc.out hl (by omega) (by omega)).mono ?_
  rintro e w1 ⟨x, rfl, hx1, hx2, hc1, hg1⟩
  have hxl : x < ns.length := by have := hx1 (by omega); omega
  have hcell := (Hi.out.grw hg1 hne).2 x hxl
  have hmem := hide (List.getElem_mem hxl)
  generalize ns[x] = n at hcell hmem
  clear hx1 hx2
  go_wp2
  go_ret
  exact ⟨n, rfl, hmem.out, hc1, hg1⟩


end Go.Proofs.Ytbjeonnaannofaa
