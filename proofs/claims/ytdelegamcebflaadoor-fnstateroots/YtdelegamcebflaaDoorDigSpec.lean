/- The model's Digest. -/
import Derived.Test.YtdelegamcebflaaDoorBlSpec
import Derived.Test.YtdelegamcebflaaDoorJoin8
import Derived.Test.YtdelegamcebflaaDoorJoin7
import Derived.Test.YtdelegamcebflaaDoorBytes32
namespace Go.Proofs.YtdelegamcebflaaDoor
open Go.RowKit
set_option linter.unusedVariables false

theorem RdB.drew {w : World} {v : Value} {l : List UInt8} (h : RdB w v l) : RdB w.drew v l := h.below ((Below.refl w.heap.size w).drew) (Nat.le_refl _)
theorem u8_at (x d : Nat) : IntKind.u8.wrap ((x : Int) / (d : Int)) = (((UInt8.ofNat (x / d % 256)).toNat : Nat) : Int) := by
  rw [IntKind.wrap_u8', byte_at]
theorem u8_at1 (x : Nat) : IntKind.u8.wrap (x : Int) = (((UInt8.ofNat (x % 256)).toNat : Nat) : Int) := by
  rw [IntKind.wrap_u8', byte_at1]

end Go.Proofs.YtdelegamcebflaaDoor
