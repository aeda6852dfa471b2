/- Of two orders that are not the same just one is less (plain). -/
import Derived.Test.YtkpnhgikkanfmaaTxVal
import Derived.Sort.Walk0
namespace Go.Proofs.Ytkpnhgikkanfmaa
open Go.RowKit
set_option linter.unusedVariables false

theorem list_inj5 {s t : ByteArray} (h : s.toList = t.toList) : s = t := by
  rw [ByteArray.toList_eq, ByteArray.toList_eq] at h
  exact ByteArray.ext (Array.toList_inj.1 h)
theorem less_as5 (s t : ByteArray) (h : Op.bytesLess s.toList t.toList = true) : Op.bytesLess t.toList s.toList = false := by
  rw [Go.Proofs.bytesLess_eq, decide_eq_true_iff] at h
  rw [Go.Proofs.bytesLess_eq, decide_eq_false_iff_not]
  exact fun h' => List.lt_irrefl _ (List.lt_trans h h')
theorem less_or5 (s t : ByteArray) (hn : s ≠ t) (h : Op.bytesLess s.toList t.toList = false) : Op.bytesLess t.toList s.toList = true := by
  rw [Go.Proofs.bytesLess_eq, decide_eq_false_iff_not] at h
  rw [Go.Proofs.bytesLess_eq, decide_eq_true_iff]
  by_cases h' : t.toList < s.toList
  · exact h'
  · have e := List.le_antisymm (List.not_lt.1 h') (List.not_lt.1 h)
    rw [ByteArray.toList_eq, ByteArray.toList_eq] at e
    exact absurd (ByteArray.ext (Array.toList_inj.1 e)) hn
/-- Of two orders that are not the same just one is less; of the same none. -/
theorem lessT_two (a b : Tx5) : lessT b a = (decide (a ≠ b) && !lessT a b) ∧ (a = b → lessT a b = false) := by
  obtain ⟨k1, f1, t1, m1, n1⟩ := a
  obtain ⟨k2, f2, t2, m2, n2⟩ := b
  by_cases h1 : f1 = f2
  · subst h1
    by_cases h2 : n1 = n2
    · subst h2
      by_cases h3 : k1 = k2
      · subst h3
        by_cases h4 : t1 = t2
        · subst h4
          by_cases h5 : m1 = m2
          · subst h5; simp [lessT]
          · simp [lessT, h5]; rw [Bool.eq_iff_iff]; simp; omega
        · have h4' : t2 ≠ t1 := fun e => h4 e.symm
          simp [lessT, h4, h4']
          cases hb : Op.bytesLess t1.toList t2.toList
          · simp [less_or5 _ _ h4 hb]
          · simp [less_as5 _ _ hb]
      · have h3' : k2 ≠ k1 := fun e => h3 e.symm
        simp [lessT, h3, h3']; rw [Bool.eq_iff_iff]; simp; omega
    · have h2' : n2 ≠ n1 := fun e => h2 e.symm
      simp [lessT, h2, h2']; rw [Bool.eq_iff_iff]; simp; omega
  · have h1' : f2 ≠ f1 := fun e => h1 e.symm
    simp [lessT, h1, h1']
    cases hb : Op.bytesLess f1.toList f2.toList
    · simp [less_or5 _ _ h1 hb]
    · simp [less_as5 _ _ hb]
end Go.Proofs.Ytkpnhgikkanfmaa
