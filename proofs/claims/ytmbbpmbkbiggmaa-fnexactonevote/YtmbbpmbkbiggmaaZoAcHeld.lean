/- The laws' marks on accounts are found again. -/
import Derived.Test.YtmbbpmbkbiggmaaZoAcMark
import Derived.Deep.RegionWith
namespace Go.Proofs.Ytmbbpmbkbiggmaa
open Go.RowKit
set_option linter.unusedVariables false
end Go.Proofs.Ytmbbpmbkbiggmaa
