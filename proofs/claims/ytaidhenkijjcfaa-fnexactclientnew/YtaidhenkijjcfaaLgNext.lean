/- What the next epoch makes of accounts, and what leaves with one more as the landed code puts it (plain facts). -/
import Derived.Test.YtaidhenkijjcfaaLgSpec
namespace Go.Proofs.Ytaidhenkijjcfaa
open Go.RowKit
set_option linter.unusedVariables false

/-- What is free of what leaves, at the epoch e, beside z. -/
def frF (e z : Int) (l : List (Int × Int)) : Int := l.foldl (fun s x => if x.2 ≤ e then wrap64 (s + x.1) else s) z
/-- What still leaves. -/
def stL (e : Int) (l : List (Int × Int)) : List (Int × Int) := l.filter (fun x => decide (e < x.2))
theorem frF_snoc (e z : Int) (l : List (Int × Int)) (k : Nat) (h : k < l.length) : frF e z (l.take (k + 1)) = if l[k].2 ≤ e then wrap64 (frF e z (l.take k) + l[k].1) else frF e z (l.take k) := by
  unfold frF
  rw [List.take_succ_eq_append_getElem h, List.foldl_append]
  rfl
theorem stL_snoc (e : Int) (l : List (Int × Int)) (k : Nat) (h : k < l.length) : stL e (l.take (k + 1)) = if l[k].2 ≤ e then stL e (l.take k) else stL e (l.take k) ++ [l[k]] := by
  unfold stL
  rw [List.take_succ_eq_append_getElem h, List.filter_append]
  by_cases hh : l[k].2 ≤ e
  · rw [if_pos hh, List.filter_cons_of_neg (by simp; omega), List.filter_nil, List.append_nil]
  · rw [if_neg hh, List.filter_cons_of_pos (by simp; omega), List.filter_nil]
theorem stL_len (e : Int) (l : List (Int × Int)) : (stL e l).length ≤ l.length := List.length_filter_le _ _
/-- An account in the epoch e. -/
def frA (e : Int) (a : Ac) : Ac := (a.1, frF e a.2.1 a.2.2.2.2, a.2.2.1, a.2.2.2.1, stL e a.2.2.2.2)
/-- What NextEpoch answers. -/
def neA (e : Int) (l : List Ac) : Int × List Ac := if (lgB e l && lgB (wrap64 (e + 1)) (l.map (frA (wrap64 (e + 1))))) = true then (wrap64 (e + 1), l.map (frA (wrap64 (e + 1)))) else (e, l)
theorem neA_old {e : Int} {l : List Ac} (h : lgB e l = false) : neA e l = (e, l) := by unfold neA; rw [h]; rfl
theorem neA_new {e : Int} {l : List Ac} (h : lgB (wrap64 (e + 1)) (l.map (frA (wrap64 (e + 1)))) = false) : neA e l = (e, l) := by unfold neA; rw [h, Bool.and_false]; rfl
theorem neA_yes {e : Int} {l : List Ac} (h : lgB e l = true) (h' : lgB (wrap64 (e + 1)) (l.map (frA (wrap64 (e + 1)))) = true) : neA e l = (wrap64 (e + 1), l.map (frA (wrap64 (e + 1)))) := by unfold neA; rw [h, h']; rfl
theorem frA_name (e : Int) (a : Ac) : (frA e a).1 = a.1 := rfl
theorem frA_len (e : Int) (a : Ac) : (frA e a).2.2.2.2.length ≤ a.2.2.2.2.length := stL_len _ _
theorem fr_all (e : Int) (l : List Ac) (h : ∀ a ∈ l, a.1.size ≤ maxLen ∧ a.2.2.2.2.length ≤ 4000000) : ∀ a ∈ l.map (frA e), a.1.size ≤ maxLen ∧ a.2.2.2.2.length ≤ 4000000 := by
  intro a ha
  obtain ⟨b, hb, rfl⟩ := List.mem_map.1 ha
  exact ⟨(h b hb).1, Nat.le_trans (frA_len e b) (h b hb).2⟩
/-- The first k accounts are in the epoch e already. -/
def frK (e : Int) (l : List Ac) (k : Nat) : List Ac := (l.take k).map (frA e) ++ l.drop k
theorem frK_zero (e : Int) (l : List Ac) : frK e l 0 = l := by simp [frK]
theorem frK_all (e : Int) (l : List Ac) : frK e l l.length = l.map (frA e) := by simp [frK]
theorem frK_len (e : Int) (l : List Ac) (k : Nat) : (frK e l k).length = l.length := by simp [frK]; omega
theorem frK_at (e : Int) (l : List Ac) (k : Nat) (h : k < l.length) : (frK e l k)[k]'(by rw [frK_len]; exact h) = l[k] := by
  unfold frK
  rw [List.getElem_append_right (by simp; omega), List.getElem_drop]
  congr 1
  simp
  omega
theorem frK_next (e : Int) (l : List Ac) (k : Nat) (h : k < l.length) : (frK e l k).set k (frA e l[k]) = frK e l (k + 1) := by
  unfold frK
  rw [List.take_succ_eq_append_getElem h, List.map_append, List.append_assoc, List.set_append_right _ _ (by simp; omega), show k - ((l.take k).map (frA e)).length = 0 from by simp; omega, List.drop_eq_getElem_cons h]
  rfl
end Go.Proofs.Ytaidhenkijjcfaa
