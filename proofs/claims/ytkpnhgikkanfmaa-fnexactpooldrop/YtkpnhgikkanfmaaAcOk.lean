/- The model's AcctOk. -/
import Derived.Test.YtkpnhgikkanfmaaAcSpec
import Derived.Test.YtkpnhgikkanfmaaNames
namespace Go.Proofs.Ytkpnhgikkanfmaa
open Go.RowKit
set_option linter.unusedVariables false

/-- What the i-th of what leaves must be. -/
def lvAt (l : List (Int × Int)) (i : Nat) : Bool := inB (l.getD i (0, 0)).1 1 1000000 && (inB (l.getD i (0, 0)).2 0 1000 && (decide (i = 0) || decide ((l.getD (i - 1) (0, 0)).2 < (l.getD i (0, 0)).2)))
def lvsB (l : List (Int × Int)) : Bool := (List.range l.length).all (lvAt l)
def acB (a : Ac) : Bool := nmB a.1 && (inB a.2.1 0 1000000 && (inB a.2.2.1 0 10000 && (inB a.2.2.2.1 0 1000000 && (decide (a.2.2.2.2.length ≤ 4) && lvsB a.2.2.2.2))))
theorem lvs_no (l : List (Int × Int)) (k : Nat) (h : k < l.length) (hk : lvAt l k = false) : lvsB l = false := by
  unfold lvsB
  rw [List.all_eq_false]
  exact ⟨k, List.mem_range.2 h, by simp [hk]⟩
theorem lvs_yes (l : List (Int × Int)) (h : ∀ j, j < l.length → lvAt l j = true) : lvsB l = true := by
  unfold lvsB
  rw [List.all_eq_true]
  exact fun j hj => h j (List.mem_range.1 hj)

end Go.Proofs.Ytkpnhgikkanfmaa
