/- The sixteen words of 64 bytes, the highest byte first. -/
import Derived.Test.YtknmjahipekgpaaDoorShaWords
namespace Go.Proofs.YtknmjahipekgpaaDoor
open Go.RowKit
set_option linter.unusedVariables false

def beN (l : List UInt8) : Nat := l.foldl (fun a c => a * 256 + c.toNat) 0
theorem beN_snoc (l : List UInt8) (c : UInt8) : beN (l ++ [c]) = beN l * 256 + c.toNat := by simp [beN]
theorem beN_lt (l : List UInt8) : beN l < 256 ^ l.length := by
  suffices h : ∀ (n : Nat) (l : List UInt8), l.length = n → beN l < 256 ^ n from h _ l rfl
  intro n
  induction n with
  | zero => intro l hl; rw [List.length_eq_zero_iff.1 hl]; decide
  | succ n ih =>
    intro l hl
    have hne : l ≠ [] := by intro e; rw [e] at hl; simp at hl
    obtain ⟨t, c, rfl⟩ : ∃ t c, l = t ++ [c] := ⟨l.dropLast, l.getLast hne, (List.dropLast_concat_getLast hne).symm⟩
    have hl' : t.length = n := by simp at hl; omega
    have h1 := ih t hl'
    have h2 : c.toNat < 256 := c.toNat_lt
    rw [beN_snoc, Nat.pow_succ]
    omega

/-- The j-th word, of the first i bytes. -/
def wAt (l : List UInt8) (i j : Nat) : Nat := beN (((l.take i).drop (4 * j)).take 4)
def wds (l : List UInt8) (i : Nat) : List Nat := (List.range 16).map (wAt l i)
def wordsB (l : List UInt8) : List Nat := wds l 64
theorem wds_len (l : List UInt8) (i : Nat) : (wds l i).length = 16 := by simp [wds]
theorem wds_at (l : List UInt8) (i j : Nat) (h : j < (wds l i).length) : (wds l i)[j] = wAt l i j := by simp [wds]
theorem wds_zero (l : List UInt8) : wds l 0 = [0, 0, 0, 0, 0, 0, 0, 0, 0, 0, 0, 0, 0, 0, 0, 0] := by
  simp [wds, wAt, beN, List.range, List.range.loop]
theorem wAt_here (l : List UInt8) (i : Nat) (h : i < l.length) : wAt l (i + 1) (i / 4) = wAt l i (i / 4) * 256 + l[i].toNat := by
  unfold wAt
  rw [← beN_snoc]
  congr 1
  rw [List.take_succ_eq_append_getElem h, List.drop_append_of_le_length (by simp; omega)]
  have hlen : ((l.take i).drop (4 * (i / 4))).length = i - 4 * (i / 4) := by simp; omega
  generalize (l.take i).drop (4 * (i / 4)) = D at hlen ⊢
  rw [List.take_of_length_le (by rw [List.length_append, hlen]; simp; omega), List.take_of_length_le (by rw [hlen]; omega)]
theorem wAt_few (l : List UInt8) (i : Nat) (h : i < l.length) : wAt l i (i / 4) < 16777216 := by
  have h1 := beN_lt (((l.take i).drop (4 * (i / 4))).take 4)
  have h2 : (((l.take i).drop (4 * (i / 4))).take 4).length ≤ 3 := by simp; omega
  exact Nat.lt_of_lt_of_le h1 (Nat.le_trans (Nat.pow_le_pow_right (by omega) h2) (by decide))
theorem wAt_lt (l : List UInt8) (i j : Nat) : wAt l i j < 4294967296 := by
  have h1 := beN_lt (((l.take i).drop (4 * j)).take 4)
  have h2 : (((l.take i).drop (4 * j)).take 4).length ≤ 4 := by simp; omega
  exact Nat.lt_of_lt_of_le h1 (Nat.le_trans (Nat.pow_le_pow_right (by omega) h2) (by decide))
theorem wAt_other (l : List UInt8) (i j : Nat) (h : i < l.length) (hj : j ≠ i / 4) : wAt l (i + 1) j = wAt l i j := by
  unfold wAt
  congr 1
  rw [List.take_succ_eq_append_getElem h]
  by_cases hlt : j < i / 4
  · rw [List.drop_append_of_le_length (by simp; omega), List.take_append_of_le_length (by simp; omega)]
  · rw [List.drop_eq_nil_of_le (by simp; omega), List.drop_eq_nil_of_le (by simp; omega)]
theorem wds_next (l : List UInt8) (i : Nat) (h : i < l.length) : wds l (i + 1) = (wds l i).set (i / 4) (wAt l i (i / 4) * 256 + l[i].toNat) := by
  apply List.ext_getElem
  · rw [List.length_set, wds_len, wds_len]
  · intro j h1 h2
    rw [wds_at, List.getElem_set]
    by_cases e : i / 4 = j
    · rw [if_pos e, ← e, wAt_here l i h]
    · rw [if_neg e, wds_at, wAt_other l i j h (fun q => e q.symm)]
theorem wordsB_len (l : List UInt8) : (wordsB l).length = 16 := wds_len _ _
theorem wordsB_lt (l : List UInt8) : ∀ x ∈ wordsB l, x < 4294967296 := by
  intro x hx
  simp only [wordsB, wds, List.mem_map] at hx
  obtain ⟨j, _, rfl⟩ := hx
  exact wAt_lt _ _ _
theorem u32_push (x c : Nat) (hx : x < 16777216) (hc : c < 256) : bits .or .u32 ((x : Int) * 256 % 4294967296) ((c : Int) % 4294967296) = ((x * 256 + c : Nat) : Int) := by
  rw [show (c : Int) % 4294967296 = (c : Int) from by omega, show (x : Int) * 256 % 4294967296 = ((x * 2 ^ 8 : Nat) : Int) from by omega, u32_or_nat _ _ (by omega) (by omega), Nat.or_comm, or_high c x 8 (by omega)]
  congr 1
  omega
end Go.Proofs.YtknmjahipekgpaaDoor
