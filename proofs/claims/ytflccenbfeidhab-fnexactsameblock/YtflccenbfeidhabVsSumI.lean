/- What those who vote weigh, by the landed code: WeightOf, TotalOf, LeaderOf. -/
import Derived.Test.YtflccenbfeidhabVsSum
namespace Go.Proofs.Ytflccenbfeidhab
open Go.RowKit
set_option linter.unusedVariables false

end Go.Proofs.Ytflccenbfeidhab
