/- What the row's condition says of the package-level variable that holds a type's handle: its cell. -/
import Derived.Test.YtbbkeebfginlfaaGreatDoorZfLgAs
import Derived.LaidLaws
import Derived.LaidHandle
import Derived.LaidMore
import Derived.OpenVars
import Derived.Stop.Joined
import Derived.Test.YtbbkeebfginlfaaGreatDoorRows
namespace Go.Proofs.YtbbkeebfginlfaaGreatDoor
open Go.ChangeShapes Go.WideShapes Go.RowKit
set_option linter.unusedVariables false

theorem Tryz.et : Tryz.prog.globalNamed "errors.errorType" = some 0 := by kernel_rfl
theorem Tryz.rt : (Tryz.prog.cutTypes.find? (·.1 == "internal/reflectlite.rtype")).map (·.2) = some 154 := by kernel_rfl
theorem Tryz.oneRow : ((List.range 234).filter fun t => Tryz.prog.rowNamed t [101, 114, 114, 111, 114]) = [91] := by kernel_rfl
theorem Tryz.nTypes : Tryz.prog.types.size = 234 := by kernel_rfl

theorem gh_of_handles {W : World} (h : handlesMet Tryz.prog [("errors.errorType", Rows.laid_errors_errorType)] W) : Gh W := by
  obtain ⟨name, u, ty, e1, e2, e3, e4, e5⟩ := h _ (List.mem_singleton.2 rfl)
  have en : name = [101, 114, 114, 111, 114] := (Option.some.inj e1).symm
  subst en
  obtain rfl := Option.some.inj (Tryz.rt.symm.trans e2)
  have hm : ty ∈ (List.range 234).filter fun t => Tryz.prog.rowNamed t [101, 114, 114, 111, 114] := List.mem_filter.2 ⟨List.mem_range.2 (by rw [← Tryz.nTypes]; exact e3), e4⟩
  rw [Tryz.oneRow] at hm
  obtain rfl := List.mem_singleton.1 hm
  have hh : typeHandle Tryz.prog 91 = .pointer (some ⟨1, 91, none⟩) := by kernel_rfl
  rw [hh] at e5
  unfold Gh
  simpa using World.var?_cell Tryz.et e5 0
/-- The variable's cell laid anew. -/
def handPut : Obj → Obj
  | .cells _ t frozen => .cells #[.iface 154 (.agg #[.pointer (some ⟨1, 91, none⟩)])] t frozen
  | o => o
/-- A world that meets the condition: w0, the variable's cell laid. -/
def laidOn (w0 : World) : World := { w0 with heap := w0.heap.modify 0 handPut }
end Go.Proofs.YtbbkeebfginlfaaGreatDoor
