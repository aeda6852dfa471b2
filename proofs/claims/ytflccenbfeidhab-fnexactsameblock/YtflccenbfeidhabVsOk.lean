/- Those who vote: what is right, on both sides. -/
import Derived.Test.YtflccenbfeidhabVsApp
import Derived.Test.YtflccenbfeidhabNames
import Derived.Test.YtflccenbfeidhabIn
import Derived.Lib.QuietBelow
import Derived.BigQuiet
namespace Go.Proofs.Ytflccenbfeidhab
open Go.RowKit Go.Sort
set_option linter.unusedVariables false

theorem sameV_regrown {P : Program} {f : FuncId} {args : Array Value} {w : World} {d : Nat} {os : Array Obj} {v : Value}
    (h : Calls P f args (grow (redrawn w d) os) fun e w' => e = .returned v ∧ w' = grow (redrawn w d) os) : Calls P f args (grow (redrawn w d) os) fun e w'' => e = .returned v ∧ ∃ p : Regrown, w'' = grow (redrawn w p.d) p.os :=
  h.mono fun _ _ ⟨he, hw⟩ => ⟨he, ⟨⟨d, os⟩, hw⟩⟩
def vl0 : Vl := (ByteArray.empty, 0)
/-- Whether one who votes is right. -/
def valB (p : Vl) : Bool := nmB p.1 && inB p.2 1 1000000
/-- What the i-th one must be. -/
def vlAt (l : List Vl) (i : Nat) : Bool := valB (l.getD i vl0) && (decide (i = 0) || Op.bytesLess (l.getD (i - 1) vl0).1.toList (l.getD i vl0).1.toList)
def setB (l : List Vl) : Bool := (List.range l.length).all (vlAt l) && inB l.length 1 12
theorem set_no (l : List Vl) (k : Nat) (h : k < l.length) (hk : vlAt l k = false) : setB l = false := by
  unfold setB
  have : (List.range l.length).all (vlAt l) = false := by
    rw [List.all_eq_false]
    exact ⟨k, List.mem_range.2 h, by simp [hk]⟩
  rw [this, Bool.false_and]
theorem set_yes (l : List Vl) (h : ∀ j, j < l.length → vlAt l j = true) : setB l = inB l.length 1 12 := by
  unfold setB
  have : (List.range l.length).all (vlAt l) = true := by
    rw [List.all_eq_true]
    exact fun j hj => h j (List.mem_range.1 hj)
  rw [this, Bool.true_and]
theorem vlAt_eq (l : List Vl) (k : Nat) (a : Vl) (h : k < l.length) (ha : l[k] = a) : vlAt l k = ((nmB a.1 && inB a.2 1 1000000) && (decide (k = 0) || Op.bytesLess (l.getD (k - 1) vl0).1.toList a.1.toList)) := by
  have : l.getD k vl0 = a := by rw [List.getD_eq_getElem?_getD, List.getElem?_eq_getElem h, ← ha]; rfl
  unfold vlAt; rw [this]; rfl

end Go.Proofs.Ytflccenbfeidhab
