/- What those who vote weigh, by the landed code: WeightOf, TotalOf, LeaderOf. -/
import Derived.Test.YtbjeonnaannofaaVsSum
namespace Go.Proofs.Ytbjeonnaannofaa
open Go.RowKit
set_option linter.unusedVariables false

end Go.Proofs.Ytbjeonnaannofaa
