/- What leaves, held against each other; its size. -/
import Derived.Test.YtclammgbbamnaabAcMem
import Derived.Deep.RegionHeldLaw
namespace Go.Proofs.Ytclammgbbamnaab
open Go.RowKit
set_option linter.unusedVariables false


end Go.Proofs.Ytclammgbbamnaab
