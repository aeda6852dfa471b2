/- Structs loaded whole. -/
import Derived.Test.YtmbbpmbkbiggmaaZoTgs
import Derived.Test.YtmbbpmbkbiggmaaZoQtList
import Derived.Test.YtmbbpmbkbiggmaaZoInr
namespace Go.Proofs.Ytmbbpmbkbiggmaa
open Go.RowKit Go.Sort
set_option linter.unusedVariables false
end Go.Proofs.Ytmbbpmbkbiggmaa
