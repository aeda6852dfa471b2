/- errors.As at the program's own error (a struct that holds one number): what it answers of none, and of such a one; which memory it writes. The landed code's orders as they are within: a type for each kind; what an account has of that which an order takes. -/
import Derived.Test.YtocaednkhcjkcaaGreatDoorZlAcEq
import Derived.LaidEql
import Derived.Stop.Asserts
import Derived.RowKitTokens
import Derived.Test.YtocaednkhcjkcaaGreatDoorZlLgWith
namespace Go.Proofs.YtocaednkhcjkcaaGreatDoor
open Go.RowKit Go.Extern.Stop Go.Stop Go.Extern
set_option linter.unusedVariables false

/-- An error that tells the code c. -/
def lkV (c : Int) : Value := .iface 78 (.agg #[.int .i64 c])
/-- What the variable of the type's handle holds. -/
def Gh (w : World) : Prop := w.cell? ⟨0, 0, none⟩ = some (.iface 185 (.agg #[.pointer (some ⟨1, 74, none⟩)]))
/-- A Value of a variable: its type's handle, where it lies, its flag. -/
def vaC (t : Nat) (a : Addr) (f : Int) : List Value := [.pointer (some ⟨1, t, none⟩), .pointer (some a), .int .u64 f]

theorem as_nil (t : Value) (w : World) :
    Calls Tryz.prog 39 #[.nilIface, t] w fun e w' => e = .returned (.bool false) ∧ w' = w := by
  go_enter Tryz.func39, Tryz.ntmps39
  go_wp2
  go_ret
  exact ⟨rfl, rfl⟩

theorem Tryz.valueOfP (t : Addr) (w : World) : (ReflectliteValue.unpack (.iface 80 (.pointer (some t)))).run Tryz.prog w
    = .ok (.agg #[.pointer (some ⟨1, 80, none⟩), .pointer (some ⟨w.heap.size, 0, none⟩), .int .u64 150]) (w.alloc (.cells #[.pointer (some t)] 80)) := by kernel_rfl
theorem Tryz.typeP (a : Addr) (w : World) : (ReflectliteValue.methodAny (ReflectliteValue.valueError "reflectlite.Value.Type" 0) (fun t _ _ _ => ReflectliteType.toType t) #[.agg #[.pointer (some ⟨1, 80, none⟩), .pointer (some a), .int .u64 150]]).run Tryz.prog w
    = .ok (.iface 185 (.agg #[.pointer (some ⟨1, 80, none⟩)])) w := by kernel_rfl
theorem Tryz.methodKind (h : Value) (w : World) : (Go.method 401 185 (.agg #[h]) "Kind").run Tryz.prog w = .ok (206, h) w := by kernel_rfl
theorem Tryz.kindP (w : World) : ((ReflectliteType.abiMethod fun t => (fun a : Nat => Value.int IntKind.u8 (a : Int)) <$> Rtype.kind t) #[.pointer (some ⟨1, 80, none⟩)]).run Tryz.prog w = .ok (.int .u8 22) w := by kernel_rfl
theorem Tryz.kindL (w : World) : ((ReflectliteType.abiMethod fun t => (fun a : Nat => Value.int IntKind.u8 (a : Int)) <$> Rtype.kind t) #[.pointer (some ⟨1, 78, none⟩)]).run Tryz.prog w = .ok (.int .u8 25) w := by kernel_rfl
/-- A method of a Value that has its parts goes on with them. -/
theorem rl_method (z : Sem Value) (f : TypeId → Addr → Nat → Nat → Sem Value) (v : Value) : ∃ k, ReflectliteValue.method z f #[v] = (ReflectliteValue.parts v >>= k) ∧ ∀ t a fl, k (some (t, a, fl)) = f t a fl (fl % 32) := ⟨_, rfl, fun _ _ _ => rfl⟩
theorem Tryz.partsP (a : Addr) (w : World) : (ReflectliteValue.parts (.agg #[.pointer (some ⟨1, 80, none⟩), .pointer (some a), .int .u64 150])).run Tryz.prog w = .ok (some (80, a, 150)) w := by kernel_rfl
/-- IsNil of a pointer that is not nil. -/
theorem Tryz.isNilP (a p : Addr) (W : World) (ha : W.cell? a = some (.pointer (some p))) :
    (ReflectliteValue.method (ReflectliteValue.valueError "reflectlite.Value.IsNil" 0) ReflectliteValue.isNil #[.agg #[.pointer (some ⟨1, 80, none⟩), .pointer (some a), .int .u64 150]]).run Tryz.prog W = .ok (.bool false) W := by
  obtain ⟨k, e1, e2⟩ := rl_method (ReflectliteValue.valueError "reflectlite.Value.IsNil" 0) _ (.agg #[.pointer (some ⟨1, 80, none⟩), .pointer (some a), .int .u64 150])
  rw [e1]
  simp only [Sem.run_bind, Tryz.partsP, Result.andThen, e2]
  simp [ReflectliteValue.isNil, loadVar, isAgg, underlying, Tryz.underlying80, ha, Result.andThen]
theorem Tryz.methodElem (h : Value) (w : World) : (Go.method 401 185 (.agg #[h]) "Elem").run Tryz.prog w = .ok (219, .agg #[h]) w := by kernel_rfl
theorem Tryz.methodImplements (h : Value) (w : World) : (Go.method 401 185 (.agg #[h]) "Implements").run Tryz.prog w = .ok (220, .agg #[h]) w := by kernel_rfl
theorem Tryz.methodAssignableTo (h : Value) (w : World) : (Go.method 401 185 (.agg #[h]) "AssignableTo").run Tryz.prog w = .ok (217, .agg #[h]) w := by kernel_rfl
theorem Tryz.elemP (w : World) : (ReflectliteType.method ReflectliteType.elem #[.agg #[.pointer (some ⟨1, 80, none⟩)]]).run Tryz.prog w = .ok (.iface 185 (.agg #[.pointer (some ⟨1, 78, none⟩)])) w := by kernel_rfl
theorem Tryz.implementsL (w : World) : (ReflectliteType.relation "Implements" ReflectliteType.implements_ #[.agg #[.pointer (some ⟨1, 78, none⟩)], .iface 185 (.agg #[.pointer (some ⟨1, 74, none⟩)])]).run Tryz.prog w = .ok (.bool true) w := by kernel_rfl
theorem Tryz.typeOfL (v : Value) (w : World) : (ReflectliteType.typeOf #[.iface 78 v]).run Tryz.prog w = .ok (.iface 185 (.agg #[.pointer (some ⟨1, 78, none⟩)])) w := by kernel_rfl
theorem Tryz.assignableL (w : World) : (ReflectliteType.relation "AssignableTo" ReflectliteType.assignableTo #[.agg #[.pointer (some ⟨1, 78, none⟩)], .iface 185 (.agg #[.pointer (some ⟨1, 78, none⟩)])]).run Tryz.prog w = .ok (.bool true) w := by kernel_rfl
theorem Tryz.valueOfL (c : Int) (w : World) : (ReflectliteValue.unpack (.iface 78 (.agg #[.int .i64 c]))).run Tryz.prog w
    = .ok (.agg #[.pointer (some ⟨1, 78, none⟩), .pointer (some ⟨w.heap.size, 0, none⟩), .int .u64 153]) (w.alloc (.cells #[.int .i64 c] 78)) := by kernel_rfl
theorem Tryz.elemOfP (w : World) : (Rtype.elem? 80).run Tryz.prog w = .ok (some 78) w := by kernel_rfl
theorem Tryz.mkL (p : Addr) (w : World) : (ReflectliteValue.mk 78 p ReflectliteValue.flagAddr).run Tryz.prog w = .ok (.agg #[.pointer (some ⟨1, 78, none⟩), .pointer (some p), .int .u64 409]) w := by kernel_rfl
/-- Elem of a pointer that is not nil: the Value of what it points to, addressable. -/
theorem Tryz.elemVP (a p : Addr) (W : World) (ha : W.cell? a = some (.pointer (some p))) :
    (ReflectliteValue.method (ReflectliteValue.valueError "reflectlite.Value.Elem" 0) ReflectliteValue.elem #[.agg #[.pointer (some ⟨1, 80, none⟩), .pointer (some a), .int .u64 150]]).run Tryz.prog W
      = .ok (.agg #[.pointer (some ⟨1, 78, none⟩), .pointer (some p), .int .u64 409]) W := by
  obtain ⟨k, e1, e2⟩ := rl_method (ReflectliteValue.valueError "reflectlite.Value.Elem" 0) _ (.agg #[.pointer (some ⟨1, 80, none⟩), .pointer (some a), .int .u64 150])
  rw [e1]
  simp only [Sem.run_bind, Tryz.partsP, Result.andThen, e2]
  simp [ReflectliteValue.elem, loadVar, isAgg, underlying, Tryz.underlying80, ha, Result.andThen, Tryz.elemOfP, Tryz.mkL]
theorem Tryz.partsLa (a : Addr) (w : World) : (ReflectliteValue.parts (.agg #[.pointer (some ⟨1, 78, none⟩), .pointer (some a), .int .u64 409])).run Tryz.prog w = .ok (some (78, a, 409)) w := by kernel_rfl
theorem Tryz.partsL (a : Addr) (w : World) : (ReflectliteValue.parts (.agg #[.pointer (some ⟨1, 78, none⟩), .pointer (some a), .int .u64 153])).run Tryz.prog w = .ok (some (78, a, 153)) w := by kernel_rfl
theorem Tryz.directL (w : World) : (Rtype.directlyAssignable 78 78).run Tryz.prog w = .ok true w := by kernel_rfl
theorem Tryz.sizeL (w : World) : (sizeOf 78).run Tryz.prog w = .ok 1 w := by kernel_rfl
end Go.Proofs.YtocaednkhcjkcaaGreatDoor

namespace Go.Proofs.YtocaednkhcjkcaaGreatDoor
open Go.RowKit
set_option linter.unusedVariables false

/-- An order as it is within. -/
def orV (t : Tx5) : Value :=
  if t.1 = 1 then .iface 177 (.agg #[.string t.2.2.1, .int .i64 t.2.2.2.1])
  else if t.1 = 2 then .iface 179 (.agg #[.int .i64 t.2.2.2.1])
  else .iface 180 (.agg #[.int .i64 t.2.2.2.1])
set_option maxRecDepth 20000 in
theorem orderOf_any (t : Tx5) (w : World) :
    Calls Tryz.prog 73 #[txV t] w fun en w' => en = .returned (orV t) ∧ Below w.heap.size w w' := by
  obtain ⟨kd, fm, to, am, nc⟩ := t
  have HB := hide ((Below.refl _ w).alloc (Nat.le_refl _) (.cells #[.int .i64 kd, .string fm, .string to, .int .i64 am, .int .i64 nc] 28))
  simp only [txV]
  by_cases h1 : kd = 1
  · subst h1
    have HV : Hid (orV (1, fm, to, am, nc) = .iface 177 (.agg #[.string to, .int .i64 am])) := hide rfl
    rw [HV.out]
    go_enter Tryz.func73, Tryz.ntmps73
    go_wp2
    go_ret
    exact ⟨rfl, HB.out⟩
  · have hq : (kd == 1) = false := by rw [beq_eq_false_iff_ne]; exact h1
    by_cases h2 : kd = 2
    · subst h2
      have HV : Hid (orV (2, fm, to, am, nc) = .iface 179 (.agg #[.int .i64 am])) := hide rfl
      rw [HV.out]
      go_enter Tryz.func73, Tryz.ntmps73
      go_wp2
      go_ret
      exact ⟨rfl, HB.out⟩
    · have hq2 : (kd == 2) = false := by rw [beq_eq_false_iff_ne]; exact h2
      have HV : Hid (orV (kd, fm, to, am, nc) = .iface 180 (.agg #[.int .i64 am])) := hide (by unfold orV; rw [if_neg h1, if_neg h2])
      rw [HV.out]
      clear h1 h2
      go_enter Tryz.func73, Tryz.ntmps73
      go_wp2
      go_ret
      exact ⟨rfl, HB.out⟩
theorem Tryz.purseP (a b : Value) (w : World) : (Go.method 401 177 (.agg #[a, b]) "loop.example/g00194/impl.purse").run Tryz.prog w = .ok (213, .agg #[a, b]) w := by kernel_rfl
theorem Tryz.purseB (a : Value) (w : World) : (Go.method 401 179 (.agg #[a]) "loop.example/g00194/impl.purse").run Tryz.prog w = .ok (214, .agg #[a]) w := by kernel_rfl
theorem Tryz.purseU (a : Value) (w : World) : (Go.method 401 180 (.agg #[a]) "loop.example/g00194/impl.purse").run Tryz.prog w = .ok (215, .agg #[a]) w := by kernel_rfl
theorem Tryz.aheadP (a b : Value) (w : World) : (nilAhead 401 177 (.agg #[a, b]) "loop.example/g00194/impl.purse").run Tryz.prog w = .ok (some false) w := by kernel_rfl
theorem Tryz.aheadB (a : Value) (w : World) : (nilAhead 401 179 (.agg #[a]) "loop.example/g00194/impl.purse").run Tryz.prog w = .ok (some false) w := by kernel_rfl
theorem Tryz.aheadU (a : Value) (w : World) : (nilAhead 401 180 (.agg #[a]) "loop.example/g00194/impl.purse").run Tryz.prog w = .ok (some false) w := by kernel_rfl
set_option maxRecDepth 20000 in
theorem purseP_any (to : ByteArray) (am : Int) (a : Ac) (lv : Value) (w : World) (hlv : ∃ av n cv, lv = .slice av n cv) :
    Calls Tryz.prog 213 #[.agg #[.string to, .int .i64 am], acV a lv] w fun en w' => en = .returned (.int .i64 a.2.1) ∧ Below w.heap.size w w' := by
  obtain ⟨nm, fr, no, st, ls⟩ := a
  obtain ⟨av, n, cv, rfl⟩ := hlv
  have HB := hide (((Below.refl _ w).alloc (Nat.le_refl _) (.cells #[.string to, .int .i64 am] 177)).alloc (by simp) (.cells #[.string nm, .int .i64 fr, .int .i64 no, .int .i64 st, .slice av n cv] 36))
  simp only [acV]
  go_enter Tryz.func213, Tryz.ntmps213
  go_wp2
  go_ret
  exact ⟨rfl, HB.out⟩
set_option maxRecDepth 20000 in
theorem purseB_any (am : Int) (a : Ac) (lv : Value) (w : World) (hlv : ∃ av n cv, lv = .slice av n cv) :
    Calls Tryz.prog 214 #[.agg #[.int .i64 am], acV a lv] w fun en w' => en = .returned (.int .i64 a.2.1) ∧ Below w.heap.size w w' := by
  obtain ⟨nm, fr, no, st, ls⟩ := a
  obtain ⟨av, n, cv, rfl⟩ := hlv
  have HB := hide (((Below.refl _ w).alloc (Nat.le_refl _) (.cells #[.int .i64 am] 179)).alloc (by simp) (.cells #[.string nm, .int .i64 fr, .int .i64 no, .int .i64 st, .slice av n cv] 36))
  simp only [acV]
  go_enter Tryz.func214, Tryz.ntmps214
  go_wp2
  go_ret
  exact ⟨rfl, HB.out⟩
set_option maxRecDepth 20000 in
theorem purseU_any (am : Int) (a : Ac) (lv : Value) (w : World) (hlv : ∃ av n cv, lv = .slice av n cv) :
    Calls Tryz.prog 215 #[.agg #[.int .i64 am], acV a lv] w fun en w' => en = .returned (.int .i64 a.2.2.2.1) ∧ Below w.heap.size w w' := by
  obtain ⟨nm, fr, no, st, ls⟩ := a
  obtain ⟨av, n, cv, rfl⟩ := hlv
  have HB := hide (((Below.refl _ w).alloc (Nat.le_refl _) (.cells #[.int .i64 am] 180)).alloc (by simp) (.cells #[.string nm, .int .i64 fr, .int .i64 no, .int .i64 st, .slice av n cv] 36))
  simp only [acV]
  go_enter Tryz.func215, Tryz.ntmps215
  go_wp2
  go_ret
  exact ⟨rfl, HB.out⟩
theorem Tryz.isPay (v : Value) (xT : TypeId) (w : World) : (Instr.typeAssert (.iface 177 v) xT 177 true).run Tryz.prog w = .ok (.tuple #[v, .bool true]) w := by kernel_rfl
theorem Tryz.isBond (v : Value) (xT : TypeId) (w : World) : (Instr.typeAssert (.iface 179 v) xT 179 true).run Tryz.prog w = .ok (.tuple #[v, .bool true]) w := by kernel_rfl
theorem Tryz.isUnbond (v : Value) (xT : TypeId) (w : World) : (Instr.typeAssert (.iface 180 v) xT 180 true).run Tryz.prog w = .ok (.tuple #[v, .bool true]) w := by kernel_rfl
theorem Tryz.bondNoPay (v : Value) (xT : TypeId) (w : World) : (Instr.typeAssert (.iface 179 v) xT 177 true).run Tryz.prog w = .ok (.tuple #[.agg #[.string { data := #[] }, .int .i64 0], .bool false]) w := by kernel_rfl
theorem Tryz.unbondNoPay (v : Value) (xT : TypeId) (w : World) : (Instr.typeAssert (.iface 180 v) xT 177 true).run Tryz.prog w = .ok (.tuple #[.agg #[.string { data := #[] }, .int .i64 0], .bool false]) w := by kernel_rfl
theorem Tryz.unbondNoBond (v : Value) (xT : TypeId) (w : World) : (Instr.typeAssert (.iface 180 v) xT 179 true).run Tryz.prog w = .ok (.tuple #[.agg #[.int .i64 0], .bool false]) w := by kernel_rfl
end Go.Proofs.YtocaednkhcjkcaaGreatDoor
