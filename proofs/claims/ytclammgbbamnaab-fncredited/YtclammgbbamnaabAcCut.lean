/- Ways that meet again. -/
import Derived.Test.YtclammgbbamnaabAcFact
import Derived.Deep.Cut
namespace Go.Proofs.Ytclammgbbamnaab
theorem old_none {l : List Ac} {s : ByteArray} (h : getA s l = none) : oldA l s = 0 := by unfold oldA; rw [h]
theorem old_some {l : List Ac} {s : ByteArray} {a : Ac} (h : getA s l = some a) : oldA l s = a.2.1 := by unfold oldA; rw [h]
end Go.Proofs.Ytclammgbbamnaab
