/- The model's AcctsOk. -/
import Derived.Test.YtkpnhgikkanfmaaAcOk
import Derived.Lib.QuietBelow
import Derived.BigQuiet
namespace Go.Proofs.Ytkpnhgikkanfmaa
open Go.RowKit Go.Sort
set_option linter.unusedVariables false

def ac0 : Ac := (ByteArray.empty, 0, 0, 0, [])
/-- What the i-th account must be. -/
def acAt (l : List Ac) (i : Nat) : Bool := acB (l.getD i ac0) && (decide (i = 0) || Op.bytesLess (l.getD (i - 1) ac0).1.toList (l.getD i ac0).1.toList)
def acsB (l : List Ac) : Bool := (List.range l.length).all (acAt l) && (decide (l.length ≤ 12) && decide (wealthA l ≤ 1000000))
theorem acs_no (l : List Ac) (k : Nat) (h : k < l.length) (hk : acAt l k = false) : acsB l = false := by
  unfold acsB
  have : (List.range l.length).all (acAt l) = false := by
    rw [List.all_eq_false]
    exact ⟨k, List.mem_range.2 h, by simp [hk]⟩
  rw [this, Bool.false_and]
theorem acs_yes (l : List Ac) (h : ∀ j, j < l.length → acAt l j = true) : acsB l = (decide (l.length ≤ 12) && decide (wealthA l ≤ 1000000)) := by
  unfold acsB
  have : (List.range l.length).all (acAt l) = true := by
    rw [List.all_eq_true]
    exact fun j hj => h j (List.mem_range.1 hj)
  rw [this, Bool.true_and]
theorem acAt_eq (l : List Ac) (k : Nat) (a : Ac) (h : k < l.length) (ha : l[k] = a) : acAt l k = (acB a && (decide (k = 0) || Op.bytesLess (l.getD (k - 1) ac0).1.toList a.1.toList)) := by
  have : l.getD k ac0 = a := by rw [List.getD_eq_getElem?_getD, List.getElem?_eq_getElem h, ← ha]; rfl
  unfold acAt; rw [this]

end Go.Proofs.Ytkpnhgikkanfmaa
