/- The kit's cut, with its range reckoned. -/
import Derived.Deep.DeepCutAuto
import Derived.Test.YtljkmoffpgpeoaaMem
namespace Go.Proofs.Ytljkmoffpgpeoaa
end Go.Proofs.Ytljkmoffpgpeoaa
