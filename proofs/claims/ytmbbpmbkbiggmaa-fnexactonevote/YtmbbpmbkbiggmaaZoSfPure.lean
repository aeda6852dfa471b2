/- What is safe, plain. -/
import Derived.Test.YtmbbpmbkbiggmaaZoWdMem
namespace Go.Proofs.Ytmbbpmbkbiggmaa
open Go.RowKit
set_option linter.unusedVariables false
theorem sfWd7:(Try.prog.info? 42).map (·.size)=some 7:=by kernel_rfl
def bgB (a b:List Int):Bool:=decide (a.take (min a.length b.length)=b.take (min a.length b.length))
def prB (l:List Nd):Bool:=decide (∀ i (h:i < l.length) k (hk:k < i),bgB l[i].dn (l[k]'(by omega)).dn=true)
end Go.Proofs.Ytmbbpmbkbiggmaa
