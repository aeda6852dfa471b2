/- What those who vote weigh, by the landed code: WeightOf, TotalOf, LeaderOf. -/
import Derived.Test.YtmpnjeglnljjpaaVsSum
namespace Go.Proofs.Ytmpnjeglnljjpaa
open Go.RowKit
set_option linter.unusedVariables false

end Go.Proofs.Ytmpnjeglnljjpaa
