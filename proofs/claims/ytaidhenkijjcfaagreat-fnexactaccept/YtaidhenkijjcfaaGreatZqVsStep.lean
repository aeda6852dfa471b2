/- Appending to rows of those who vote within a region that draws. -/
import Derived.Test.YtaidhenkijjcfaaGreatZqLgSpec
import Derived.Test.YtaidhenkijjcfaaGreatZqAcImpl2
namespace Go.Proofs.YtaidhenkijjcfaaGreat
open Go.RowKit
set_option linter.unusedVariables false
theorem OwnV.drew {base:Nat} {w:World} {v:Value} {l:List Vl} (h:OwnV base w v l):OwnV base w.drew v l:=h.below (Below.refl _ w).drew (Nat.le_refl _)
end Go.Proofs.YtaidhenkijjcfaaGreat
