/- Structs loaded whole. -/
import Derived.Test.YtmbbpmbkbiggmaaZpTgs
import Derived.Test.YtmbbpmbkbiggmaaZpQtList
import Derived.Test.YtmbbpmbkbiggmaaZpInr
namespace Go.Proofs.Ytmbbpmbkbiggmaa
open Go.RowKit Go.Sort
set_option linter.unusedVariables false
end Go.Proofs.Ytmbbpmbkbiggmaa
