/- cmp.Compare of texts and of numbers, cmp.Or of numbers; by them, which order is less. The landed code's order of orders. -/
import Derived.Test.YtbbkeebfginlfaaGreatDoorZgPlPure
import Derived.Test.YtbbkeebfginlfaaGreatDoorZgAcMem
import Derived.Deep.RegionHeldLaw
namespace Go.Proofs.YtbbkeebfginlfaaGreatDoor
open Go.RowKit
set_option linter.unusedVariables false

def cmpI (x y : Int) : Int := if x < y then -1 else if y < x then 1 else 0
def cmpS (x y : ByteArray) : Int := if Op.bytesLess x.toList y.toList = true then -1 else if x = y then 0 else 1
/-- The first that is not 0. -/
def orL : List Int → Int
  | [] => 0
  | x :: t => if x = 0 then orL t else x

theorem cmpI_lt (x y : Int) : decide (cmpI x y < 0) = decide (x < y) := by
  unfold cmpI
  by_cases h : x < y
  · simp [h]
  · rw [if_neg h]; split <;> simp [h]
theorem cmpI_eq (x y : Int) : cmpI x y = 0 ↔ x = y := by
  unfold cmpI
  by_cases h : x < y
  · rw [if_pos h]; omega
  · rw [if_neg h]
    by_cases h' : y < x
    · rw [if_pos h']; omega
    · rw [if_neg h']; omega
theorem less_ir5 (s : ByteArray) : Op.bytesLess s.toList s.toList = false := by
  cases h : Op.bytesLess s.toList s.toList
  · rfl
  · rw [less_as5 s s h] at h; cases h
theorem cmpS_lt (x y : ByteArray) : decide (cmpS x y < 0) = Op.bytesLess x.toList y.toList := by
  unfold cmpS
  cases h : Op.bytesLess x.toList y.toList
  · simp only [Bool.false_eq_true, if_false]; split <;> simp
  · simp
theorem cmpS_eq (x y : ByteArray) : cmpS x y = 0 ↔ x = y := by
  constructor
  · intro h
    by_cases e : x = y
    · exact e
    · unfold cmpS at h
      rw [if_neg e] at h
      cases h1 : Op.bytesLess x.toList y.toList
      · rw [h1] at h; simp at h
      · rw [h1] at h; simp at h
  · intro e
    subst e
    unfold cmpS
    rw [less_ir5, if_pos rfl]; rfl
theorem orL_z {x : Int} {t : List Int} (h : x = 0) : orL (x :: t) = orL t := if_pos h
theorem orL_n {x : Int} {t : List Int} (h : x ≠ 0) : orL (x :: t) = x := if_neg h
theorem lessT_or (k1 k2 m1 m2 n1 n2 : Int) (f1 f2 t1 t2 : ByteArray) : lessT (k1, f1, t1, m1, n1) (k2, f2, t2, m2, n2) = decide (orL [cmpS f1 f2, cmpI n1 n2, cmpI k1 k2, cmpS t1 t2, cmpI m1 m2] < 0) := by
  simp only [lessT]
  by_cases h1 : f1 = f2
  · rw [if_neg (by simp [h1]), orL_z ((cmpS_eq _ _).2 h1)]
    by_cases h2 : n1 = n2
    · rw [if_neg (by simp [h2]), orL_z ((cmpI_eq _ _).2 h2)]
      by_cases h3 : k1 = k2
      · rw [if_neg (by simp [h3]), orL_z ((cmpI_eq _ _).2 h3)]
        by_cases h4 : t1 = t2
        · rw [if_neg (by simp [h4]), orL_z ((cmpS_eq _ _).2 h4)]
          by_cases h5 : m1 = m2
          · rw [orL_z ((cmpI_eq _ _).2 h5)]; simp [h5, orL]
          · rw [orL_n (fun h => h5 ((cmpI_eq _ _).1 h)), cmpI_lt]
        · rw [if_pos h4, orL_n (fun h => h4 ((cmpS_eq _ _).1 h)), cmpS_lt]
      · rw [if_pos h3, orL_n (fun h => h3 ((cmpI_eq _ _).1 h)), cmpI_lt]
    · rw [if_pos h2, orL_n (fun h => h2 ((cmpI_eq _ _).1 h)), cmpI_lt]
  · rw [if_pos h1, orL_n (fun h => h1 ((cmpS_eq _ _).1 h)), cmpS_lt]

end Go.Proofs.YtbbkeebfginlfaaGreatDoor

namespace Go.Proofs.YtbbkeebfginlfaaGreatDoor
open Go.RowKit
set_option linter.unusedVariables false

end Go.Proofs.YtbbkeebfginlfaaGreatDoor
