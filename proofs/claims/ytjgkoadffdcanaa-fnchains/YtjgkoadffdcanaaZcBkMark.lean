/- Blocks marked. -/
import Derived.Test.YtjgkoadffdcanaaZcBkTo
import Derived.Test.YtjgkoadffdcanaaZcTxMarkC
import Derived.Test.YtjgkoadffdcanaaZcMarkStr
import Derived.Deep.RegionWith
import Derived.Test.YtjgkoadffdcanaaZcVsMark
namespace Go.Proofs.Ytjgkoadffdcanaa
open Go.RowKit
set_option linter.unusedVariables false

def mkI (k n : Nat) : List Int := (List.range n).map (fun j => ((k + j : Nat) : Int))
theorem mkI_len (k n : Nat) : (mkI k n).length = n := by simp [mkI]
theorem mkI_at (k n j : Nat) (h : j < (mkI k n).length) : (mkI k n)[j] = ((k + j : Nat) : Int) := by simp [mkI]
end Go.Proofs.Ytjgkoadffdcanaa
