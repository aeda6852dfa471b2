/- Arguments of the type of an order read. -/
import Derived.ShutString
import Derived.SliceStrings
import Derived.ChangeOld
import Derived.WideShapes
import Derived.Test.YthidkbhiikdokaaGreatZwTxVal
namespace Go.Proofs.YthidkbhiikdokaaGreat
open Go.RowKit Go.ChangeShapes Go.WideShapes
set_option linter.unusedVariables false
section
variable {H:Type} {enc:TypeId × Value->H} {w:World} {base:Nat} {spare:Nat->Bool} {held:Bool}
end
end Go.Proofs.YthidkbhiikdokaaGreat
namespace Go.Proofs.YthidkbhiikdokaaGreat
open Go.RowKit Go.ChangeShapes Go.WideShapes Go.ChangeAt
set_option linter.unusedVariables false
variable {H:Type} {enc:TypeId × Value->H} {w:World} {base:Nat} {spare:Nat->Bool} {held:Bool}
end Go.Proofs.YthidkbhiikdokaaGreat
