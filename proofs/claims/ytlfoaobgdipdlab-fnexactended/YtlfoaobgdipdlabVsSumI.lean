/- What those who vote weigh, by the landed code: WeightOf, TotalOf, LeaderOf. -/
import Derived.Test.YtlfoaobgdipdlabVsSum
namespace Go.Proofs.Ytlfoaobgdipdlab
open Go.RowKit
set_option linter.unusedVariables false

end Go.Proofs.Ytlfoaobgdipdlab
