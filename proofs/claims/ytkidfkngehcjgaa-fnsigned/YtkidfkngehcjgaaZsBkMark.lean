/- The laws' marks on those who vote, and marks found again. Blocks marked. -/
import Derived.Test.YtkidfkngehcjgaaZsVsMem
import Derived.Test.YtkidfkngehcjgaaZsTxRow
import Derived.Deep.RegionWith
import Derived.Test.YtkidfkngehcjgaaZsBkToD
import Derived.Test.YtkidfkngehcjgaaZsTxMarkC
namespace Go.Proofs.Ytkidfkngehcjgaa
open Go.RowKit
set_option linter.unusedVariables false

def mkV (k n : Nat) : List Vl := (List.range n).map (fun i => (mtx (k + 2 * i), ((k + 2 * i + 1 : Nat) : Int)))
theorem mkV_len (k n : Nat) : (mkV k n).length = n := by simp [mkV]
theorem mkV_at (k n j : Nat) (h : j < (mkV k n).length) : (mkV k n)[j] = (mtx (k + 2 * j), ((k + 2 * j + 1 : Nat) : Int)) := by simp [mkV]
theorem gen_setV {α β : Type} (M l : List α) (f : α → β) (j : Nat) (hM : M.length = l.length) (hj : j < M.length) : ((M.take j ++ l.drop j).map f).set j (f M[j]) = (M.take (j + 1) ++ l.drop (j + 1)).map f := by
  have e1 : ((M.take j).map f).length = j := by simp; omega
  rw [List.map_append, List.set_append_right _ _ (by omega), e1, Nat.sub_self, List.drop_eq_getElem_cons (show j < l.length by omega), List.map_cons, List.set_cons_zero, List.take_succ_eq_append_getElem hj, List.map_append, List.map_append, List.append_assoc]
  rfl
end Go.Proofs.Ytkidfkngehcjgaa

namespace Go.Proofs.Ytkidfkngehcjgaa
open Go.RowKit
set_option linter.unusedVariables false

def mkI (k n : Nat) : List Int := (List.range n).map (fun j => ((k + j : Nat) : Int))
theorem mkI_len (k n : Nat) : (mkI k n).length = n := by simp [mkI]
theorem mkI_at (k n j : Nat) (h : j < (mkI k n).length) : (mkI k n)[j] = ((k + j : Nat) : Int) := by simp [mkI]
end Go.Proofs.Ytkidfkngehcjgaa
