/- Structs loaded whole. -/
import Derived.Test.YthidkbhiikdokaaGreatZwNdNew
import Derived.Test.YthidkbhiikdokaaGreatZwInr
namespace Go.Proofs.YthidkbhiikdokaaGreat
open Go.RowKit Go.Sort
set_option linter.unusedVariables false
end Go.Proofs.YthidkbhiikdokaaGreat
namespace Go.Proofs.YthidkbhiikdokaaGreat
open Go.RowKit Go.Sort
set_option linter.unusedVariables false
end Go.Proofs.YthidkbhiikdokaaGreat
