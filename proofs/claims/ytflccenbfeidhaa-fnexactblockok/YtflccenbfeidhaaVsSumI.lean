/- What those who vote weigh, by the landed code: WeightOf, TotalOf, LeaderOf. -/
import Derived.Test.YtflccenbfeidhaaVsSum
namespace Go.Proofs.Ytflccenbfeidhaa
open Go.RowKit
set_option linter.unusedVariables false

end Go.Proofs.Ytflccenbfeidhaa
