/- What those who vote weigh, by the landed code: WeightOf, TotalOf, LeaderOf. Quorums, on both sides, where the weights are small. -/
import Derived.Test.YtjgkoadffdcanaaZcVsSum
namespace Go.Proofs.Ytjgkoadffdcanaa
open Go.RowKit
set_option linter.unusedVariables false

end Go.Proofs.Ytjgkoadffdcanaa

namespace Go.Proofs.Ytjgkoadffdcanaa
open Go.RowKit
set_option linter.unusedVariables false

end Go.Proofs.Ytjgkoadffdcanaa
