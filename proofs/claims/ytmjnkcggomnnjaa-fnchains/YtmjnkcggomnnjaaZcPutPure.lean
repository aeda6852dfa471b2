/- Plain facts on the bytes of a number, and the law of append over bytes of the call's own. -/
import Derived.Test.YtmjnkcggomnnjaaZcRow
import Derived.Test.YtmjnkcggomnnjaaPure
import Derived.Laws.AppendOwnNone
namespace Go.Proofs.Ytmjnkcggomnnjaa
open Go.RowKit
set_option linter.unusedVariables false

def foldN (n : Int) : Nat := if n < 0 then (2 * min (-n) 1000000000 - 1).toNat else (2 * min n 1000000000).toNat

def putG : Nat → Nat → List UInt8
  | 0, m => [UInt8.ofNat m]
  | f + 1, m => if m ≤ 127 then [UInt8.ofNat m] else UInt8.ofNat (m % 128 + 128) :: putG f (m / 128)

def numB (n : Int) : List UInt8 := putG 5 (foldN n)

theorem foldN_le (n : Int) : foldN n ≤ 2000000000 := by unfold foldN; split <;> omega
theorem putG_len : ∀ (f m : Nat), (putG f m).length ≤ f + 1 := by
  intro f
  induction f with
  | zero => intro m; simp [putG]
  | succ f ih =>
    intro m
    rw [putG]
    split
    · simp
    · have := ih (m / 128); simp only [List.length_cons]; omega
theorem numB_len (n : Int) : (numB n).length ≤ 6 := putG_len 5 _
theorem putG_last (f m : Nat) (h : m ≤ 127) : putG f m = [UInt8.ofNat m] := by
  cases f with
  | zero => rfl
  | succ f => rw [putG, if_pos h]
theorem putG_more (f m : Nat) (h : ¬ m ≤ 127) : putG (f + 1) m = UInt8.ofNat (m % 128 + 128) :: putG f (m / 128) := by rw [putG, if_neg h]

theorem byte_of (m : Nat) (h : m < 256) : (m : Int) = ((UInt8.ofNat m).toNat : Int) := by
  rw [UInt8.toNat_ofNat']; omega

theorem div_lt_pow (m f : Nat) (h : m < 128 ^ (f + 1 + 1)) : m / 128 < 128 ^ (f + 1) := by
  rw [Nat.pow_succ] at h
  exact Nat.div_lt_of_lt_mul (by rw [Nat.mul_comm]; exact h)

theorem fold_pow (M : Nat) (h : M ≤ 2000000000) : M < 128 ^ (5 + 1) := by
  have : (128 : Nat) ^ (5 + 1) = 4398046511104 := by decide
  omega

theorem rd_one (w : World) (x : Int) (c : UInt8) (h : x = (c.toNat : Int)) : RdB (w.alloc (.cells #[.int .u8 x] 5)) (.slice (some ⟨w.heap.size, 0, none⟩) 1 1) [c] := by
  refine .inr ⟨w.heap.size, 0, 1, by simp, rfl, by simp, by unfold maxLen; omega, by simp, ?_⟩
  intro i hi
  simp only [List.length_cons, List.length_nil] at hi
  have : i = 0 := by omega
  subst this
  simp [World.cell?_alloc_at, h]

theorem own_nil (w : World) (base : Nat) (h : base ≤ w.heap.size) : OwnB base (w.alloc (.cells #[] 5)) (.slice (some ⟨w.heap.size, 0, none⟩) 0 0) [] :=
  World.ownsRow_lit w #[] 0 h (by unfold maxLen; omega) (by simp)

theorem OwnB.alloc {base : Nat} {w : World} {v : Value} {l : List UInt8} (h : OwnB base w v l) (o : Obj) : OwnB base (w.alloc o) v l := World.ownsRow.alloc h o

theorem app_own {ops : Array Oper} {rest : List Oper} {o : Oper} {a : Act} {Q : Exit → Act → World → Prop} (w : World) (hgd : o.guard = none) (s x : Operand)
    (ho : o.op = .call { callee := .builtin .append, args := #[s, x], argTypes := #[22, 22] })
    (base : Nat) (v vx : Value) (l k : List UInt8) (hs : a.eval s = v) (hx : a.eval x = vx) (hown : OwnB base w v l) (hrd : RdB w vx k)
    (hlen : l.length + k.length ≤ 100000000) (hbase : base ≤ w.heap.size)
    (h : ∀ v' w', OwnB base w' v' (l ++ k) → Below base w w' → wpList Try.prog ops Q rest (a.put o.dst v') w') : wpList Try.prog ops Q (o :: rest) a w := by
  obtain ⟨i0, hi, hz0, hz1, hz2⟩ := info_parts Try.infoU8
  have hbel : ∀ w', w.grownBy w' v.ownBlock → Below base w w' := fun w' hg => (Below.refl _ _).grown hg hbase (fun k hk => (World.ownsRow.lt hown k hk).1)
  rcases hrd with ⟨ax, cap, rfl, rfl, hnil⟩ | ⟨b, off, cap, h0, rfl, h1, h2, h3, h4⟩
  · cases ax with
    | none =>
      have hc : cap = 0 := hnil rfl
      subst hc
      refine wpList_append_own_none hgd s x 22 ho base 5 i0 1 Try.underlying22 hi v l.length (l.map cb) hs hown hx ?_
      exact h v w (by simpa [OwnB] using hown) (Below.refl _ _)
    | some ad =>
      refine wpList_append_own w hgd s x 22 ho base 5 i0 (.int .u8 0) 1 1 Try.underlying22 hi hz0 hz1 hz2 rfl (by decide) v l.length (l.map cb) hs hown ad 0 cap [] hx rfl (by intro j u hj; simp at hj) (by intro u hu; simp at hu) (by unfold maxLen; simp at hlen; omega) (by simp at hlen; omega) hbase ?_
      intro v' w' ho' hg _
      exact h v' w' (by simpa [OwnB] using ho') (hbel w' hg)
  · refine wpList_append_own w hgd s x 22 ho base 5 i0 (.int .u8 0) 1 1 Try.underlying22 hi hz0 hz1 hz2 rfl (by decide) v l.length (l.map cb) hs hown ⟨b, off, none⟩ k.length cap (k.map cb) hx (by simp) ?_ ?_ (by unfold maxLen; omega) (by omega) hbase ?_
    · intro j u hj
      have hj' : j < k.length := by have := (List.getElem?_eq_some_iff.1 hj).1; simpa using this
      have ea : (⟨b, off, none⟩ : Addr).add j = ⟨b, off + j, none⟩ := by
        by_cases hz : j = 0
        · subst hz; simp [Addr.add]
        · simp [Addr.add, hz]
      rw [ea, h4 j hj']
      simp [hj', cb] at hj
      rw [← hj]
    · intro u hu
      obtain ⟨c, _, rfl⟩ := List.mem_map.1 hu
      rfl
    · intro v' w' ho' hg _
      exact h v' w' (by simpa [OwnB] using ho') (hbel w' hg)
end Go.Proofs.Ytmjnkcggomnnjaa
