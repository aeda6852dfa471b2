/- NamesOk: the program's and the model's answer alike, at all lists of texts. -/
import Derived.Test.YtflccenbfeidhabNames
import Derived.Test.YtflccenbfeidhabStrs
namespace Go.Proofs.Ytflccenbfeidhab
open Go.RowKit
set_option linter.unusedVariables false

def okAt (ls : List ByteArray) (i : Nat) : Bool := nmB (ls.getD i ByteArray.empty) && (decide (i = 0) || Op.bytesLess (ls.getD (i - 1) ByteArray.empty).toList (ls.getD i ByteArray.empty).toList)
def nmsB (ls : List ByteArray) : Bool := (List.range ls.length).all (okAt ls) && decide (ls.length ≤ 20)

theorem nms_no (ls : List ByteArray) (k : Nat) (h : k < ls.length) (hk : okAt ls k = false) : nmsB ls = false := by
  unfold nmsB
  rw [Bool.and_eq_false_iff]
  left
  rw [Bool.eq_false_iff]; intro ha
  rw [List.all_eq_true] at ha
  have := ha k (by simpa using h)
  rw [hk] at this; cases this
theorem nms_yes (ls : List ByteArray) (h : ∀ j, j < ls.length → okAt ls j = true) : nmsB ls = decide (ls.length ≤ 20) := by
  unfold nmsB
  have : (List.range ls.length).all (okAt ls) = true := by
    rw [List.all_eq_true]; intro j hj; exact h j (by simpa using hj)
  rw [this]; rfl
theorem okAt_eq (ls : List ByteArray) (k : Nat) (s : ByteArray) (h : k < ls.length) (hs : ls[k] = s) : okAt ls k = (nmB s && (decide (k = 0) || Op.bytesLess (ls.getD (k - 1) ByteArray.empty).toList s.toList)) := by
  have : ls.getD k ByteArray.empty = s := by rw [List.getD_eq_getElem?_getD, List.getElem?_eq_getElem h, ← hs]; rfl
  unfold okAt; rw [this]

end Go.Proofs.Ytflccenbfeidhab
