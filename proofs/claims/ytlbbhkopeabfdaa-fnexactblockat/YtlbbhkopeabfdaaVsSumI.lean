/- What those who vote weigh, by the landed code: WeightOf, TotalOf, LeaderOf. -/
import Derived.Test.YtlbbhkopeabfdaaVsSum
namespace Go.Proofs.Ytlbbhkopeabfdaa
open Go.RowKit
set_option linter.unusedVariables false

end Go.Proofs.Ytlbbhkopeabfdaa
