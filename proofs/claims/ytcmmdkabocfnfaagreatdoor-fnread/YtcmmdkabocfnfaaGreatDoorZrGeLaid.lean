/- What the row's condition says of the named error: its cell; a world that meets it. -/
import Derived.Test.YtcmmdkabocfnfaaGreatDoorZrBkGetO
import Derived.LaidLaws
import Derived.LaidMore
import Derived.OpenVars
import Derived.Stop.LaidErr
import Derived.Stop.Joined
import Derived.RowKitTokens
import Derived.Test.YtcmmdkabocfnfaaGreatDoorRows
namespace Go.Proofs.YtcmmdkabocfnfaaGreatDoor
open Go.ChangeShapes Go.WideShapes Go.RowKit
set_option linter.unusedVariables false

theorem Tryz.gEb : Tryz.prog.globalNamed "loop.example/g00194/impl.errNoBlock" = some 0 := by kernel_rfl
theorem Tryz.gEbType : (Tryz.prog.globals[0]?).map (·.type) = some 58 := by kernel_rfl
theorem Tryz.cellsEs : Tryz.prog.cellsOf 195 = 1 := by kernel_rfl
theorem Tryz.cellsStr : Tryz.prog.cellsOf 9 = 1 := by kernel_rfl
theorem Tryz.starEs : "*" ++ "errors.errorString" = "*errors.errorString" := by decide
theorem Tryz.rowEb (u : TypeId) (h : Tryz.prog.typeName? 3 u = some "*errors.errorString") : u = 171 :=
  typeName_ptr_named (nm := "errors.errorString") (by rw [Tryz.starEs]; kernel_rfl) (by kernel_rfl) (by decide) u (by rw [Tryz.starEs]; exact h)
/-- "these bytes are no block" -/
abbrev noBlockS : ByteArray := { data := #[116, 104, 101, 115, 101, 32, 98, 121, 116, 101, 115, 32, 97, 114, 101, 32, 110, 111, 32, 98, 108, 111, 99, 107] }
/-- The variable's cell laid anew: the error that lies in block 'lo'. -/
def sentPut (lo : Nat) : Obj → Obj
  | .cells _ t frozen => .cells #[.iface 171 (.pointer (some ⟨lo, 0, none⟩))] t frozen
  | o => o
/-- A world that meets the condition: w0, the variable's cell laid. -/
def sentOn (w0 : World) (lo : Nat) : World := { w0 with heap := w0.heap.modify 0 (sentPut lo) }
theorem var_belowE {W W' : World} {B : Nat} {cs : Array Value} (h : W.var? Tryz.prog "loop.example/g00194/impl.errNoBlock" = some cs) (hb : Below B W W') (hG : 0 < B) : W'.var? Tryz.prog "loop.example/g00194/impl.errNoBlock" = some cs := by
  unfold World.var? at h ⊢
  rw [Tryz.gEb] at h ⊢
  simp only [Option.bind_some] at h ⊢
  rw [hb.block _ hG]
  exact h
end Go.Proofs.YtcmmdkabocfnfaaGreatDoor
