/- An order comes back of its bytes (plain). -/
import Derived.Test.YtimiimedjfdlmabRound
import Derived.Test.YtimiimedjfdlmabTxGet
namespace Go.Proofs.Ytimiimedjfdlmab
open Go.RowKit
set_option linter.unusedVariables false

theorem clamp_in5 (n : Int) (h : -1000000000 ≤ n ∧ n ≤ 1000000000) : clampN n = n := by
  unfold clampN; rw [if_neg (by omega), if_neg (by omega)]
theorem back_bytes5 (s : ByteArray) : (⟨s.data.toList.toArray⟩ : ByteArray) = s := by
  apply ByteArray.ext; simp
theorem getT_put5 (l rest : List UInt8) (s : ByteArray) (hs : s.size ≤ 1000000000) : getT (l ++ (textB s ++ rest)) (l.length : Int) = (s.data.toList, (l.length : Int) + (textB s).length, true) := by
  have e : l ++ (textB s ++ rest) = l ++ (numB (s.size : Int) ++ (s.data.toList ++ rest)) := by simp [textB]
  have hg := getN_put l (s.data.toList ++ rest) (s.size : Int)
  rw [clamp_in5 _ (by omega)] at hg
  rw [e]
  have hsz : s.data.toList.length = s.size := by simp
  have := getT_yes (l ++ (numB (s.size : Int) ++ (s.data.toList ++ rest))) (l.length : Int) s.size (l.length + (numB (s.size : Int)).length) (by rw [hg]; simp) (by simp; omega)
  rw [this]
  have e2 : (l ++ (numB (s.size : Int) ++ (s.data.toList ++ rest))).drop (l.length + (numB (s.size : Int)).length) = s.data.toList ++ rest := by
    rw [← List.append_assoc, ← List.length_append, List.drop_left]
  rw [e2, List.take_append_of_le_length (by omega), List.take_of_length_le (by omega)]
  have e3 : (textB s).length = (numB (s.size : Int)).length + s.size := by simp [textB]
  rw [e3]
  simp only [Prod.mk.injEq, and_true, true_and]
  omega
theorem getN_at5 (L l rest : List UInt8) (n p : Int) (e : L = l ++ (numB n ++ rest)) (hp : p = l.length) (hn : -1000000000 ≤ n ∧ n ≤ 1000000000) : getN L p = (n, ((l ++ numB n).length : Int), true) := by
  rw [e, hp, getN_put, clamp_in5 _ hn]
  simp
theorem getT_at5 (L l rest : List UInt8) (s : ByteArray) (p : Int) (e : L = l ++ (textB s ++ rest)) (hp : p = l.length) (hs : s.size ≤ 1000000000) : getT L p = (s.data.toList, ((l ++ textB s).length : Int), true) := by
  rw [e, hp, getT_put5 _ _ _ hs]
  simp
/-- What was put comes back. -/
theorem getX_put (l : List UInt8) (t : Tx5) (hok : txB t = true) (hf : t.2.1.size ≤ 1000000) (ht : t.2.2.1.size ≤ 1000000) : getX (l ++ txP t) (l.length : Int) = (t, ((l ++ txP t).length : Int), true) := by
  obtain ⟨k, f, to, am, no⟩ := t
  have hk : (-1000000000 ≤ k ∧ k ≤ 1000000000) ∧ (-1000000000 ≤ am ∧ am ≤ 1000000000) ∧ (-1000000000 ≤ no ∧ no ≤ 1000000000) := by
    simp only [txB, inB, Bool.and_eq_true, decide_eq_true_eq] at hok
    obtain ⟨-, h2, h3, h4⟩ := hok
    refine ⟨?_, by omega, by omega⟩
    split at h4
    · omega
    · simp only [Bool.and_eq_true, decide_eq_true_eq] at h4; omega
  obtain ⟨hk, ha, hn⟩ := hk
  simp only at hf ht
  simp only [txP]
  have e1 := getN_at5 (l ++ (numB k ++ (textB f ++ (textB to ++ (numB am ++ numB no))))) l _ k l.length rfl rfl hk
  have e2 := getT_at5 (l ++ (numB k ++ (textB f ++ (textB to ++ (numB am ++ numB no))))) (l ++ numB k) (textB to ++ (numB am ++ numB no)) f _ (by simp) rfl (by omega)
  have e3 := getT_at5 (l ++ (numB k ++ (textB f ++ (textB to ++ (numB am ++ numB no))))) (l ++ numB k ++ textB f) (numB am ++ numB no) to _ (by simp) rfl (by omega)
  have e4 := getN_at5 (l ++ (numB k ++ (textB f ++ (textB to ++ (numB am ++ numB no))))) (l ++ numB k ++ textB f ++ textB to) (numB no) am _ (by simp) rfl ha
  have e5 := getN_at5 (l ++ (numB k ++ (textB f ++ (textB to ++ (numB am ++ numB no))))) (l ++ numB k ++ textB f ++ textB to ++ numB am) [] no _ (by simp) rfl hn
  rw [getX_is e1 e2 e3 e4 e5, back_bytes5, back_bytes5, hok]
  simp
theorem putG_pos5 (n : Int) : 0 < (numB n).length := by
  cases h : numB n with
  | nil => exact absurd h (putG_ne _ _)
  | cons _ _ => simp
theorem txP_pos (t : Tx5) : 0 < (txP t).length := by
  have := putG_pos5 t.1
  unfold txP; rw [List.length_append]; omega

end Go.Proofs.Ytimiimedjfdlmab
