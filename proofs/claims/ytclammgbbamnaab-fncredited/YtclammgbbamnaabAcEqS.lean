/- Accounts held against each other; their size. -/
import Derived.Test.YtclammgbbamnaabAcRow
namespace Go.Proofs.Ytclammgbbamnaab
open Go.RowKit
set_option linter.unusedVariables false

end Go.Proofs.Ytclammgbbamnaab
