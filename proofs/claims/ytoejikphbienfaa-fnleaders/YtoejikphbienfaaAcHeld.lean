/- The laws' marks on accounts are found again. -/
import Derived.Test.YtoejikphbienfaaAcMarkS
namespace Go.Proofs.Ytoejikphbienfaa
open Go.RowKit
set_option linter.unusedVariables false

end Go.Proofs.Ytoejikphbienfaa
