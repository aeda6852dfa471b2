/- errors.Is, held against the program's named error: what it answers of none, and of a flaw of a block that wraps that error. -/
import Derived.Test.YtcmmdkabocfnfaaGreatDoorZrTxBlk
import Derived.LaidEql
import Derived.Stop.Asserts
import Derived.RowKitTokens
namespace Go.Proofs.YtcmmdkabocfnfaaGreatDoor
open Go.RowKit Go.Extern.Stop Go.Stop Go.Extern
set_option linter.unusedVariables false

/-- A flaw that tells why, and wraps the error at b. -/
def flawV (why : ByteArray) (b : Addr) : Value := .iface 106 (.agg #[.string why, .iface 171 (.pointer (some b))])
def sentV (b : Addr) : Value := .iface 171 (.pointer (some b))
theorem Tryz.isTypeOf (v : Value) (w : World) : (Extern.ReflectliteType.typeOf #[.iface 171 v]).run Tryz.prog w = .ok (.iface 146 (.agg #[.pointer (some ⟨1, 171, none⟩)])) w := by kernel_rfl
theorem Tryz.isComparable (w : World) : ((Extern.ReflectliteType.method fun t => do Rtype.noPackHeld "Comparable" t; (fun a => Value.bool a.comparable) <$> typeInfo t) #[.agg #[.pointer (some ⟨1, 171, none⟩)]]).run Tryz.prog w = .ok (.bool true) w := by kernel_rfl
theorem Tryz.isComparableP (w : World) : ((Extern.ReflectliteType.method fun t => do Rtype.noPackHeld "Comparable" t; pure (.bool (← typeInfo t).comparable)) #[.agg #[.pointer (some ⟨1, 171, none⟩)]]).run Tryz.prog w = .ok (.bool true) w := by kernel_rfl
theorem Tryz.isMethodComparable (v : Value) (w : World) : (Go.method 307 146 v "Comparable").run Tryz.prog w = .ok (175, v) w := by kernel_rfl
theorem Tryz.isComp : (Tryz.prog.info? 171).map (·.comparable) = some true := by kernel_rfl
theorem Tryz.isSize : (Tryz.prog.info? 195).map (·.size) = some 1 := by kernel_rfl
theorem Tryz.noIsF (v : Value) (xT : TypeId) (w : World) : (Instr.typeAssert (.iface 106 v) xT 148 true).run Tryz.prog w = .ok (.tuple #[.nilIface, .bool false]) w := run_typeAssert_lacksB Tryz.underlying148 (by kernel_rfl) (by kernel_rfl) v xT w
theorem Tryz.hasUnwrapF (v : Value) (xT : TypeId) (w : World) : (Instr.typeAssert (.iface 106 v) xT 151 true).run Tryz.prog w = .ok (.tuple #[.iface 106 v, .bool true]) w := run_typeAssert_hasB Tryz.underlying151 (by kernel_rfl) v xT w
theorem Tryz.methodUnwrapF (a b : Value) (w : World) : (Go.method 307 106 (.agg #[a, b]) "Unwrap").run Tryz.prog w = .ok (171, .agg #[a, b]) w := by kernel_rfl
/-- errors.Is of none. -/
theorem is_none (b : Addr) (w : World) :
    Calls Tryz.prog 29 #[.nilIface, sentV b] w fun e w' => e = .returned (.bool false) ∧ w' = w := by
  have hn := run_eql_iface_nil_left (P := Tryz.prog) w 171 (.pointer (some b)) Tryz.underlying58
  unfold sentV
  go_enter Tryz.func29, Tryz.ntmps29
  go_wp2
  go_ret
  exact ⟨rfl, rfl⟩
theorem unwrapF_any (why : ByteArray) (b : Addr) (w : World) :
    Calls Tryz.prog 171 #[.agg #[.string why, .iface 171 (.pointer (some b))]] w fun e w' => e = .returned (.iface 171 (.pointer (some b))) ∧ Below w.heap.size w w' := by
  go_enter Tryz.func171, Tryz.ntmps171
  go_wp2
  go_ret
  exact ⟨rfl, (Below.refl _ w).alloc (Nat.le_refl _) _⟩
set_option maxRecDepth 20000 in
set_option maxHeartbeats 2000000 in
/-- errors.Is of a flaw that wraps the error itself. -/
theorem is_flaw (why : ByteArray) (b : Addr) (w : World) :
    Calls Tryz.prog 29 #[flawV why b, sentV b] w fun e w' => e = .returned (.bool true) ∧ Below w.heap.size w w' := by
  obtain ⟨i, hi, hcmp⟩ := Option.map_eq_some_iff.1 Tryz.isComp
  obtain ⟨j, hj, hjs⟩ := Option.map_eq_some_iff.1 Tryz.isSize
  have h8 := @run_callFunc_extern Tryz.prog 82 _ Extern.ReflectliteType.typeOf Tryz.func82 (by kernel_rfl) (by kernel_rfl) (by kernel_rfl) (by kernel_rfl)
  have h32 := @run_callFunc_extern Tryz.prog 175 _ (Extern.ReflectliteType.method fun t => do Rtype.noPackHeld "Comparable" t; pure (.bool (← typeInfo t).comparable)) Tryz.func175 (by kernel_rfl) (by kernel_rfl) (by kernel_rfl) (by kernel_rfl)
  have tT := Tryz.isTypeOf
  have cT := Tryz.isComparable
  have cP := Tryz.isComparableP
  have mR := Tryz.isMethodComparable
  have nW := Tryz.noIsF
  have uW := Tryz.hasUnwrapF
  have mU := Tryz.methodUnwrapF
  have heq := fun w => run_eql_iface_ptr_same (P := Tryz.prog) w b Tryz.underlying58 Tryz.underlying171 hi hcmp hj
  have hty := run_eql_iface_types (P := Tryz.prog) 106 171 (.agg #[.string why, .iface 171 (.pointer (some b))]) (.pointer (some b)) Tryz.underlying58 (by decide) w
  have HU := hide (unwrapF_any why b w)
  unfold flawV sentV
  go_enter Tryz.func29, Tryz.ntmps29
  go_wp2
  refine wp_loop_rounds 2 ?_
  rw [rounds_succ]
  go_wp2_with (go_at_call 171; refine HU.out.mono ?_; rintro e w2 ⟨rfl, hb2⟩)
  rw [rounds_succ]
  go_wp2
  go_ret
  exact ⟨rfl, hb2⟩
end Go.Proofs.YtcmmdkabocfnfaaGreatDoor
