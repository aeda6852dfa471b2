/- What those who vote weigh, on both sides: WeightOf, TotalOf, LeaderOf. -/
import Derived.Test.YtbjeonnaannofaaZcVsApp
namespace Go.Proofs.Ytbjeonnaannofaa
open Go.RowKit
set_option linter.unusedVariables false

theorem foldV_snoc {α β : Type} (f : β → α → β) (z : β) (l : List α) (k : Nat) (h : k < l.length) : (l.take (k + 1)).foldl f z = f ((l.take k).foldl f z) l[k] := by
  rw [List.take_succ_eq_append_getElem h, List.foldl_append]; rfl
/-- What all of them come to, each by f. -/
def sumV (f : Vl → Int) (l : List Vl) : Int := l.foldl (fun s p => wrap64 (s + f p)) 0
theorem sumV_snoc (f : Vl → Int) (l : List Vl) (k : Nat) (h : k < l.length) : sumV f (l.take (k + 1)) = wrap64 (sumV f (l.take k) + f l[k]) := foldV_snoc _ _ l k h
theorem wrap64_twice (x : Int) : wrap64 (wrap64 x + 0) = wrap64 x := by rw [Int.add_zero]; unfold wrap64; omega
theorem sumV_same (f : Vl → Int) : ∀ (l : List Vl) (s : Int), wrap64 (s + 0) = s → wrap64 (l.foldl (fun s p => wrap64 (s + f p)) s + 0) = l.foldl (fun s p => wrap64 (s + f p)) s
  | [], s, h => h
  | p :: l, s, h => by rw [List.foldl_cons]; exact sumV_same f l _ (wrap64_twice _)
theorem sumV_zero (f : Vl → Int) (l : List Vl) : wrap64 (sumV f l + 0) = sumV f l := sumV_same f l 0 (by unfold wrap64; omega)
/-- Whether a name is among these. -/
def hasN (ns : List ByteArray) (s : ByteArray) : Bool := ns.any (fun t => decide (t = s))
theorem hasN_yes {ns : List ByteArray} {s : ByteArray} (h : s ∈ ns) : hasN ns s = true := List.any_eq_true.2 ⟨s, h, by simp⟩
theorem hasN_no {ns : List ByteArray} {s : ByteArray} (h : s ∉ ns) : hasN ns s = false := by
  cases e : hasN ns s with
  | false => rfl
  | true =>
    obtain ⟨t, ht, e'⟩ := List.any_eq_true.1 e
    have : t = s := by simpa using e'
    exact absurd (this ▸ ht) h
/-- What one weighs among these names. -/
def wtN (ns : List ByteArray) (p : Vl) : Int := if hasN ns p.1 = true then p.2 else 0
def weightV (l : List Vl) (ns : List ByteArray) : Int := sumV (wtN ns) l
def totalV (l : List Vl) : Int := sumV (·.2) l
/-- Who leads in a round. -/
def leadV (l : List Vl) (r : Int) : ByteArray := if l.length = 0 ∨ r < 0 then ByteArray.empty else (l.getD (r.toNat % l.length) (ByteArray.empty, 0)).1
theorem mem_next {ns : List ByteArray} {s : ByteArray} {k : Nat} (h : k < ns.length) (hn : s ∉ ns.take k) (he : ns[k] ≠ s) : s ∉ ns.take (k + 1) := by
  rw [List.take_succ_eq_append_getElem h]
  intro hm
  rcases List.mem_append.1 hm with h' | h'
  · exact hn h'
  · exact he (by simpa using (List.mem_singleton.1 h').symm)

end Go.Proofs.Ytbjeonnaannofaa
