/- Part of a proof: joined, and pruned of what the theorem does not use. -/
import Derived.Test.YtcbaheffmbfofaaGreatDoorZmPlFit
import Derived.Test.YtcbaheffmbfofaaGreatDoorZmLgNextS
import Derived.Deep.CutBlock
namespace Go.Proofs.YtcbaheffmbfofaaGreatDoor
open Go.RowKit
set_option linter.unusedVariables false
set_option linter.unusedSimpArgs false
end Go.Proofs.YtcbaheffmbfofaaGreatDoor
