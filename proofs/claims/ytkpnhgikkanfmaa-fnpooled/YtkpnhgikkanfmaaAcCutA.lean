/- The kit's cut, with its range reckoned. -/
import Derived.Deep.DeepCutAuto
import Derived.Test.YtkpnhgikkanfmaaMem
namespace Go.Proofs.Ytkpnhgikkanfmaa
end Go.Proofs.Ytkpnhgikkanfmaa
