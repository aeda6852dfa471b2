/- A block copied: its two rows of texts lie apart. -/
import Derived.Test.YtjgkoadffdcanaaZcBkTo
namespace Go.Proofs.Ytjgkoadffdcanaa
open Go.RowKit
set_option linter.unusedVariables false

end Go.Proofs.Ytjgkoadffdcanaa
