/- ProofOf of the landed code. -/
import Derived.Test.YtaidhenkijjcfaaGreatZqKsCopyI
import Derived.Test.YtaidhenkijjcfaaGreatZqCaVal
namespace Go.Proofs.YtaidhenkijjcfaaGreat
open Go.RowKit
set_option linter.unusedVariables false
theorem Tryz.infoP5:(Tryz.prog.info? 42).map (·.size)=some 5:=by kernel_rfl
end Go.Proofs.YtaidhenkijjcfaaGreat
