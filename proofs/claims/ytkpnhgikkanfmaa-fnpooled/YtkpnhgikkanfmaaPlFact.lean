/- What is put into a pool is there once, and is not put again (plain). -/
import Derived.Test.YtkpnhgikkanfmaaPlPure
namespace Go.Proofs.Ytkpnhgikkanfmaa
open Go.RowKit
set_option linter.unusedVariables false

/-- How often an order stands in a list. -/
def cntT (t : Tx5) (l : List Tx5) : Nat := (l.filter (fun x => decide (x = t))).length
theorem cntT_snoc (t : Tx5) (l : List Tx5) (k : Nat) (h : k < l.length) : cntT t (l.take (k + 1)) = cntT t (l.take k) + (if l[k] = t then 1 else 0) := by
  unfold cntT
  rw [List.take_succ_eq_append_getElem h, List.filter_append, List.length_append, List.filter_cons, List.filter_nil]
  by_cases e : l[k] = t
  · simp [e]
  · simp [e]
theorem cntT_le (t : Tx5) (l : List Tx5) (k : Nat) : cntT t (l.take k) ≤ l.length := by
  unfold cntT
  have h1 := List.length_filter_le (fun x => decide (x = t)) (l.take k)
  have h2 : (l.take k).length ≤ l.length := by simp; omega
  omega
theorem cntT_none {t : Tx5} {l : List Tx5} (h : ∀ x ∈ l, x ≠ t) : cntT t l = 0 := by
  unfold cntT
  rw [List.length_eq_zero_iff, List.filter_eq_nil_iff]
  intro x hx
  simp [h x hx]
theorem lessT_ne {a b : Tx5} (h : lessT a b = true) : a ≠ b := fun e => by
  subst e
  rw [lessT_no] at h
  cases h
/-- In a right pool that has it, an order stands once. -/
theorem cntT_ins {l : List Tx5} {t : Tx5} {k : Nat} (h : poolB (insT k t l) = true) : cntT t (insT k t l) = 1 := by
  obtain ⟨-, h2, -⟩ := (pool_iff _).1 h
  unfold insT at h2 ⊢
  rw [List.pairwise_append] at h2
  obtain ⟨p1, p2, p3⟩ := h2
  rw [List.pairwise_cons] at p2
  have e1 : cntT t (l.take k) = 0 := cntT_none (fun x hx => lessT_ne (p3 x hx t List.mem_cons_self))
  have e2 : cntT t (l.drop k) = 0 := cntT_none (fun x hx => (lessT_ne (p2.1 x hx)).symm)
  unfold cntT at e1 e2 ⊢
  rw [List.filter_append, List.length_append, List.filter_cons, if_pos (by simp), List.length_cons, e1, e2]
/-- What is there is not put again. -/
theorem poS_again {l : List Tx5} {t : Tx5} (h : t ∈ l) : (poS l t).2 = false := by
  unfold poS
  by_cases hp : poolB (insT (buT l t l.length) t l) = true
  · exfalso
    obtain ⟨-, h2, h3, h4⟩ := ins_pool hp
    obtain ⟨i, hi, rfl⟩ := List.mem_iff_getElem.1 h
    by_cases hk : i < buT l l[i] l.length
    · exact lessT_ne (h3 i hi hk) rfl
    · exact lessT_ne (h4 i hi (by omega)) rfl
  · have : poolB (insT (buT l t l.length) t l) = false := by simpa using hp
    rw [this, Bool.and_false, if_neg (by simp)]
theorem poS_yes {l X : List Tx5} {t : Tx5} (h : poS l t = (X, true)) : X.length = l.length + 1 ∧ poolB X = true ∧ cntT t X = 1 ∧ (poS X t).2 = false := by
  unfold poS at h
  split at h
  · rename_i hp
    rw [Bool.and_eq_true] at hp
    simp only [Prod.mk.injEq, and_true] at h
    subst h
    exact ⟨insT_len, hp.2, cntT_ins hp.2, poS_again (insT_mem.2 (.inl rfl))⟩
  · simp at h
theorem poS_no {l X : List Tx5} {t : Tx5} (h : poS l t = (X, false)) : X = l := by
  unfold poS at h
  split at h
  · simp at h
  · simp only [Prod.mk.injEq, and_true] at h
    exact h.symm
end Go.Proofs.Ytkpnhgikkanfmaa
