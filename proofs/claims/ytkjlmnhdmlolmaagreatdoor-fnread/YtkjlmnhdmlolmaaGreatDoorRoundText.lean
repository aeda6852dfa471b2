/- Texts, and lists of them, come back of their bytes. -/
import Derived.Test.YtkjlmnhdmlolmaaGreatDoorJoin7
import Derived.Test.YtkjlmnhdmlolmaaGreatDoorJoin10
import Derived.Test.YtkjlmnhdmlolmaaGreatDoorGetNames
namespace Go.Proofs.YtkjlmnhdmlolmaaGreatDoor
open Go.RowKit
set_option linter.unusedVariables false

theorem clamp_small (k : Nat) (h : k ≤ 1000000000) : clampN (k : Int) = (k : Int) := by
  unfold clampN; rw [if_neg (by omega), if_neg (by omega)]

theorem getT_put (l rest : List UInt8) (s : ByteArray) (hs : s.size ≤ 1000000000) : getT (l ++ (textB s ++ rest)) (l.length : Int) = (s.data.toList, (l.length : Int) + (textB s).length, true) := by
  have e : l ++ (textB s ++ rest) = l ++ (numB (s.size : Int) ++ (s.data.toList ++ rest)) := by simp [textB]
  have hg := getN_put l (s.data.toList ++ rest) (s.size : Int)
  rw [clamp_small _ hs] at hg
  rw [e]
  have hsz : s.data.toList.length = s.size := by simp
  have := getT_yes (l ++ (numB (s.size : Int) ++ (s.data.toList ++ rest))) (l.length : Int) s.size (l.length + (numB (s.size : Int)).length) (by rw [hg]; simp) (by simp; omega)
  rw [this]
  have e2 : (l ++ (numB (s.size : Int) ++ (s.data.toList ++ rest))).drop (l.length + (numB (s.size : Int)).length) = s.data.toList ++ rest := by
    rw [← List.append_assoc, ← List.length_append, List.drop_left]
  rw [e2, List.take_append_of_le_length (by omega), List.take_of_length_le (by omega)]
  have e3 : (textB s).length = (numB (s.size : Int)).length + s.size := by simp [textB]
  rw [e3]
  simp only [Prod.mk.injEq, and_true, true_and]
  omega

theorem back_bytes (s : ByteArray) : (⟨s.data.toList.toArray⟩ : ByteArray) = s := by
  apply ByteArray.ext; simp

theorem getL_put : ∀ (ls : List ByteArray) (pre rest : List UInt8) (acc : List ByteArray), (∀ s ∈ ls, s.size ≤ 1000000000) →
    getL ls.length (pre ++ (textsB ls ++ rest)) (pre.length : Int) acc = some (acc ++ ls, (pre.length : Int) + (textsB ls).length) := by
  intro ls
  induction ls with
  | nil => intro pre rest acc _; simp [getL, textsB]
  | cons s t ih =>
    intro pre rest acc hs
    have e : pre ++ (textsB (s :: t) ++ rest) = pre ++ (textB s ++ (textsB t ++ rest)) := by simp [textsB]
    have hT := getT_put pre (textsB t ++ rest) s (hs s (by simp))
    rw [List.length_cons, getL, e, hT, if_pos rfl]
    have e2 : pre ++ (textB s ++ (textsB t ++ rest)) = (pre ++ textB s) ++ (textsB t ++ rest) := by simp
    have e3 : (pre.length : Int) + (textB s).length = ((pre ++ textB s).length : Int) := by simp
    simp only
    rw [e2, e3, ih (pre ++ textB s) rest _ (fun u hu => hs u (by simp [hu])), back_bytes]
    have e4 : (textsB (s :: t)).length = (textB s).length + (textsB t).length := by simp [textsB]
    rw [e4]
    simp only [List.append_assoc, List.singleton_append, Option.some.injEq, Prod.mk.injEq, true_and, List.length_append]
    omega

theorem getNs_put (l : List UInt8) (ls : List ByteArray) (hn : ls.length ≤ 100) (hs : ∀ s ∈ ls, s.size ≤ 1000000000) :
    getNs (l ++ namesB ls) (l.length : Int) = (ls, (l.length : Int) + (namesB ls).length, true) := by
  have hg := getN_put l (textsB ls) (ls.length : Int)
  rw [clamp_small _ (by omega)] at hg
  have hL := getL_put ls (l ++ numB (ls.length : Int)) [] [] hs
  rw [List.append_nil, List.append_assoc, List.nil_append] at hL
  have e3 : (l.length : Int) + (numB (ls.length : Int)).length = ((l ++ numB (ls.length : Int)).length : Int) := by simp
  rw [e3] at hg
  have := getNs_some (l ++ (numB (ls.length : Int) ++ textsB ls)) (l.length : Int) _ _ ls.length ls hg hn hL
  unfold namesB
  rw [this]
  simp only [Prod.mk.injEq, and_true, true_and, List.length_append]
  omega
end Go.Proofs.YtkjlmnhdmlolmaaGreatDoor
