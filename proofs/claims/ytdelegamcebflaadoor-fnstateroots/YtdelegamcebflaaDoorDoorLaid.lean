/- What the row's condition says of the two package-level variables: their cells. -/
import Derived.Test.YtdelegamcebflaaDoorShaBlock
import Derived.LaidMore
import Derived.OpenVars
import Derived.Lib.LaidU8
import Derived.ProofKit
import Derived.OpenShut
import Derived.Stop.Joined
namespace Go.Proofs.YtdelegamcebflaaDoor
open Go.ChangeShapes Go.WideShapes Go.ChangeAt Go.RowKit
set_option linter.unusedVariables false

theorem Tryd.gStart : Tryd.prog.globalNamed "loop.example/g00194/impl.shaStart" = some 0 := by kernel_rfl
theorem Tryd.gConsts : Tryd.prog.globalNamed "loop.example/g00194/impl.shaConstants" = some 1 := by kernel_rfl
theorem Tryd.tStart : (Tryd.prog.globals[0]?).map (·.type) = some 75 := by kernel_rfl
theorem Tryd.tConsts : (Tryd.prog.globals[1]?).map (·.type) = some 89 := by kernel_rfl
theorem Tryd.cellsU32 : Tryd.prog.cellsOf 74 = 1 := by kernel_rfl

def litU (n : Nat) : DataW Unit := .lit (.int .u32 (n : Int))
theorem laid_start : (Rows.laid_loop_example_g00194_impl_shaStart : DataW Unit) = .agg (hC.list.map litU) := rfl
theorem laid_consts : (Rows.laid_loop_example_g00194_impl_shaConstants : DataW Unit) = .agg (kC.map litU) := rfl

theorem arr_cell {W : World} {fuel n : Nat} {t : TypeId} {cs : List Value} {L : List Nat} {p : List MemPlace} {sp : Nat → Bool} (ht : Tryd.prog.underlying t = some (.array n 74))
    (hd : DataW.trod (fun _ => ()) Tryd.prog W 0 sp false fuel t cs = some (.agg (L.map litU), p)) (j : Nat) (hj : j < n) (hjL : j < L.length) : cs[j]? = some (.int .u32 (L[j] : Int)) := by
  obtain ⟨f', d, q, e1, e2⟩ := Lib.array_elem ht hd j hj
  rw [Tryd.cellsU32, Nat.mul_one] at e2
  obtain ⟨k, c1, c2, _⟩ := DataW.trod_int Tryd.underlying74 e2
  have hdk : d = .lit (.int .u32 k) := by simpa using congrArg Prod.fst c2
  have hk : k = (L[j] : Int) := by
    rw [hdk] at e1
    simp [hjL, litU] at e1
    exact e1.symm
  have hg : ((cs.drop j).take 1)[0]? = some (.int .u32 k) := by rw [c1]; rfl
  rw [List.getElem?_take_of_lt (by omega), List.getElem?_drop, Nat.add_zero] at hg
  rw [hg, hk]

theorem block_lt {W : World} {g : Nat} {v : Value} (h : W.cell? ⟨g, 0, none⟩ = some v) : g < W.heap.size := by
  rcases Nat.lt_or_ge g W.heap.size with h1 | h1
  · exact h1
  · simp [World.cell?, Array.getElem?_eq_none h1] at h

theorem gl_of_reads {W : World} (h0 : Lib.VarReads Tryd.prog W "loop.example/g00194/impl.shaStart" Rows.laid_loop_example_g00194_impl_shaStart) (h1 : Lib.VarReads Tryd.prog W "loop.example/g00194/impl.shaConstants" Rows.laid_loop_example_g00194_impl_shaConstants) : Gl W := by
  obtain ⟨g0, t0, cs0, f0, p0, hg0, ht0, hv0, hd0⟩ := h0
  obtain ⟨g1, t1, cs1, f1, p1, hg1, ht1, hv1, hd1⟩ := h1
  obtain rfl := Option.some.inj (Tryd.gStart.symm.trans hg0)
  obtain rfl := Option.some.inj (Tryd.gConsts.symm.trans hg1)
  obtain rfl := Option.some.inj (Tryd.tStart.symm.trans ht0)
  obtain rfl := Option.some.inj (Tryd.tConsts.symm.trans ht1)
  rw [laid_start] at hd0
  rw [laid_consts] at hd1
  have a0 : W.rangeAt 0 0 (hC.list.map uv) := by
    intro j v hv
    have hj : j < hC.list.length := by have := (List.getElem?_eq_some_iff.1 hv).1; simpa using this
    rw [Nat.zero_add, World.var?_cell Tryd.gStart hv0 j]
    have := arr_cell Tryd.underlying75 hd0 j hj hj
    rw [Array.getElem?_toList] at this
    rw [this]
    simp [hj, uv] at hv
    rw [← hv]
  have a1 : W.rangeAt 1 0 (kC.map uv) := by
    intro j v hv
    have hj : j < kC.length := by have := (List.getElem?_eq_some_iff.1 hv).1; simpa using this
    rw [Nat.zero_add, World.var?_cell Tryd.gConsts hv1 j]
    have := arr_cell Tryd.underlying89 hd1 j hj hj
    rw [Array.getElem?_toList] at this
    rw [this]
    simp [hj, uv] at hv
    rw [← hv]
  exact ⟨a0, a1, block_lt (a0 0 (uv hC.a) rfl), block_lt (a1 0 (uv 1116352408) rfl)⟩
end Go.Proofs.YtdelegamcebflaaDoor
