/- The model's orders: which are right, which is less. -/
import Derived.Test.YtimiimedjfdlmacTxVal
namespace Go.Proofs.Ytimiimedjfdlmac
open Go.RowKit
set_option linter.unusedVariables false

theorem toList_inj5 {t : ByteArray} (h : t.toList = []) : t = ByteArray.empty := by
  rw [ByteArray.toList_eq] at h
  exact ByteArray.ext (Array.toList_inj.1 h)
set_option maxRecDepth 20000 in
set_option maxHeartbeats 2000000 in
theorem specTxLess_any (a b : Tx5) (w : World) : Calls Try.prog 7 #[txV a, txV b] w fun e w' => e = .returned (.bool (lessT a b)) ∧ Below w.heap.size w w' := by
  obtain ⟨k1, f1, t1, m1, n1⟩ := a
  obtain ⟨k2, f2, t2, m2, n2⟩ := b
  simp only [txV]
  have HB := hide (((Below.refl _ w).alloc (Nat.le_refl _) (.cells #[.int .i64 k1, .string f1, .string t1, .int .i64 m1, .int .i64 n1] 25)).alloc (by simp) (.cells #[.int .i64 k2, .string f2, .string t2, .int .i64 m2, .int .i64 n2] 25))
  by_cases h1 : f1 = f2
  · by_cases h2 : n1 = n2
    · by_cases h3 : k1 = k2
      · by_cases h4 : t1 = t2
        · have Hl : Hid (lessT (k1, f1, t1, m1, n1) (k2, f2, t2, m2, n2) = decide (m1 < m2)) := hide (by simp [lessT, h1, h2, h3, h4])
          generalize lessT (k1, f1, t1, m1, n1) (k2, f2, t2, m2, n2) = X at Hl
          subst h1 h2 h3 h4
          go_enter Try.func7, Try.ntmps7
          go_wp2
          go_ret
          exact ⟨ret_bool Hl.out.symm, HB.out⟩
        · have Hl : Hid (lessT (k1, f1, t1, m1, n1) (k2, f2, t2, m2, n2) = Op.bytesLess t1.toList t2.toList) := hide (by simp [lessT, h1, h2, h3, h4])
          generalize lessT (k1, f1, t1, m1, n1) (k2, f2, t2, m2, n2) = X at Hl
          have hq := bytes_ne h4
          subst h1 h2 h3
          clear h4
          go_enter Try.func7, Try.ntmps7
          go_wp2
          go_ret
          exact ⟨ret_bool Hl.out.symm, HB.out⟩
      · have Hl : Hid (lessT (k1, f1, t1, m1, n1) (k2, f2, t2, m2, n2) = decide (k1 < k2)) := hide (by simp [lessT, h1, h2, h3])
        generalize lessT (k1, f1, t1, m1, n1) (k2, f2, t2, m2, n2) = X at Hl
        have hq : (k1 != k2) = true := by rw [bne_iff_ne]; exact h3
        subst h1 h2
        clear h3
        go_enter Try.func7, Try.ntmps7
        go_wp2
        go_ret
        exact ⟨ret_bool Hl.out.symm, HB.out⟩
    · have Hl : Hid (lessT (k1, f1, t1, m1, n1) (k2, f2, t2, m2, n2) = decide (n1 < n2)) := hide (by simp [lessT, h1, h2])
      generalize lessT (k1, f1, t1, m1, n1) (k2, f2, t2, m2, n2) = X at Hl
      have hq : (n1 != n2) = true := by rw [bne_iff_ne]; exact h2
      subst h1
      clear h2
      go_enter Try.func7, Try.ntmps7
      go_wp2
      go_ret
      exact ⟨ret_bool Hl.out.symm, HB.out⟩
  · have Hl : Hid (lessT (k1, f1, t1, m1, n1) (k2, f2, t2, m2, n2) = Op.bytesLess f1.toList f2.toList) := hide (by simp [lessT, h1])
    generalize lessT (k1, f1, t1, m1, n1) (k2, f2, t2, m2, n2) = X at Hl
    have hq := bytes_ne h1
    clear h1
    go_enter Try.func7, Try.ntmps7
    go_wp2
    go_ret
    exact ⟨ret_bool Hl.out.symm, HB.out⟩
end Go.Proofs.Ytimiimedjfdlmac
