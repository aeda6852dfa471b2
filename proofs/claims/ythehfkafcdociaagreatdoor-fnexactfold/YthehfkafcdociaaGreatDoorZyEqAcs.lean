/- Rows of accounts that are the same, plain. -/
import Derived.Test.YthehfkafcdociaaGreatDoorZyKsEq
namespace Go.Proofs.YthehfkafcdociaaGreatDoor
open Go.RowKit
set_option linter.unusedVariables false
theorem sfWd7:(Tryz.prog.info? 44).map (·.size)=some 7:=by kernel_rfl
def bgB (a b:List Int):Bool:=decide (a.take (min a.length b.length)=b.take (min a.length b.length))
def prB (l:List Nd):Bool:=decide (∀ i (h:i < l.length) k (hk:k < i),bgB l[i].dn (l[k]'(by omega)).dn=true)
def eqAcs:List Ac->List Ac->Bool
  | [],[]=>true
  | a :: l,b :: m=>decide (a=b) && eqAcs l m
  | [],_ :: _=>false
  | _ :: _,[]=>false
end Go.Proofs.YthehfkafcdociaaGreatDoor
