/- Quorums, on both sides, where the weights are small. -/
import Derived.Test.YtmbbpmbkbiggmaaZoVsSum
namespace Go.Proofs.Ytmbbpmbkbiggmaa
open Go.RowKit
set_option linter.unusedVariables false
end Go.Proofs.Ytmbbpmbkbiggmaa
