/- The laws' own helpers over texts: how much there is of them, a copy, and whether two are the same. -/
import Derived.Test.YtmjnkcggomnnjaaZcStrs
namespace Go.Proofs.Ytmjnkcggomnnjaa
open Go.RowKit
set_option linter.unusedVariables false

def szR (ls : List ByteArray) (m : Nat) : Int := if ls.length + tot ls ≤ m then (m : Int) - ls.length - tot ls else -1

theorem tot_snoc (ls : List ByteArray) (k : Nat) (h : k < ls.length) : tot (ls.take (k + 1)) = tot (ls.take k) + ls[k].size := by
  rw [List.take_succ_eq_append_getElem h]; simp only [tot, List.map_append, List.map_cons, List.map_nil, List.sum_append, List.sum_cons, List.sum_nil]; omega
theorem tot_two (ls : List ByteArray) (k : Nat) (h : k < ls.length) : tot (ls.take k) + ls[k].size ≤ tot ls := by
  rw [← tot_snoc ls k h]; exact tot_take ls _



end Go.Proofs.Ytmjnkcggomnnjaa
