/- The landed code's orders as they are within: a type for each kind; what an account has of that which an order takes. -/
import Derived.Test.YtbbkeebfginlfaaGreatDoorZgLgWith
import Derived.Test.YtbbkeebfginlfaaGreatDoorZgLgAs
namespace Go.Proofs.YtbbkeebfginlfaaGreatDoor
open Go.RowKit
set_option linter.unusedVariables false

/-- An order as it is within. -/
def orV (t : Tx5) : Value :=
  if t.1 = 1 then .iface 146 (.agg #[.string t.2.2.1, .int .i64 t.2.2.2.1])
  else if t.1 = 2 then .iface 148 (.agg #[.int .i64 t.2.2.2.1])
  else .iface 149 (.agg #[.int .i64 t.2.2.2.1])
set_option maxRecDepth 20000 in
theorem orderOf_any (t : Tx5) (w : World) :
    Calls Tryz.prog 77 #[txV t] w fun en w' => en = .returned (orV t) ∧ Below w.heap.size w w' := by
  obtain ⟨kd, fm, to, am, nc⟩ := t
  have HB := hide ((Below.refl _ w).alloc (Nat.le_refl _) (.cells #[.int .i64 kd, .string fm, .string to, .int .i64 am, .int .i64 nc] 48))
  simp only [txV]
  by_cases h1 : kd = 1
  · subst h1
    have HV : Hid (orV (1, fm, to, am, nc) = .iface 146 (.agg #[.string to, .int .i64 am])) := hide rfl
    rw [HV.out]
    go_enter Tryz.func77, Tryz.ntmps77
    go_wp2
    go_ret
    exact ⟨rfl, HB.out⟩
  · have hq : (kd == 1) = false := by rw [beq_eq_false_iff_ne]; exact h1
    by_cases h2 : kd = 2
    · subst h2
      have HV : Hid (orV (2, fm, to, am, nc) = .iface 148 (.agg #[.int .i64 am])) := hide rfl
      rw [HV.out]
      go_enter Tryz.func77, Tryz.ntmps77
      go_wp2
      go_ret
      exact ⟨rfl, HB.out⟩
    · have hq2 : (kd == 2) = false := by rw [beq_eq_false_iff_ne]; exact h2
      have HV : Hid (orV (kd, fm, to, am, nc) = .iface 149 (.agg #[.int .i64 am])) := hide (by unfold orV; rw [if_neg h1, if_neg h2])
      rw [HV.out]
      clear h1 h2
      go_enter Tryz.func77, Tryz.ntmps77
      go_wp2
      go_ret
      exact ⟨rfl, HB.out⟩
theorem Tryz.purseP (a b : Value) (w : World) : (Go.method 334 146 (.agg #[a, b]) "loop.example/g00194/impl.purse").run Tryz.prog w = .ok (156, .agg #[a, b]) w := by kernel_rfl
theorem Tryz.purseB (a : Value) (w : World) : (Go.method 334 148 (.agg #[a]) "loop.example/g00194/impl.purse").run Tryz.prog w = .ok (157, .agg #[a]) w := by kernel_rfl
theorem Tryz.purseU (a : Value) (w : World) : (Go.method 334 149 (.agg #[a]) "loop.example/g00194/impl.purse").run Tryz.prog w = .ok (158, .agg #[a]) w := by kernel_rfl
theorem Tryz.aheadP (a b : Value) (w : World) : (nilAhead 334 146 (.agg #[a, b]) "loop.example/g00194/impl.purse").run Tryz.prog w = .ok (some false) w := by kernel_rfl
theorem Tryz.aheadB (a : Value) (w : World) : (nilAhead 334 148 (.agg #[a]) "loop.example/g00194/impl.purse").run Tryz.prog w = .ok (some false) w := by kernel_rfl
theorem Tryz.aheadU (a : Value) (w : World) : (nilAhead 334 149 (.agg #[a]) "loop.example/g00194/impl.purse").run Tryz.prog w = .ok (some false) w := by kernel_rfl
set_option maxRecDepth 20000 in
theorem purseP_any (to : ByteArray) (am : Int) (a : Ac) (lv : Value) (w : World) (hlv : ∃ av n cv, lv = .slice av n cv) :
    Calls Tryz.prog 156 #[.agg #[.string to, .int .i64 am], acV a lv] w fun en w' => en = .returned (.int .i64 a.2.1) ∧ Below w.heap.size w w' := by
  obtain ⟨nm, fr, no, st, ls⟩ := a
  obtain ⟨av, n, cv, rfl⟩ := hlv
  have HB := hide (((Below.refl _ w).alloc (Nat.le_refl _) (.cells #[.string to, .int .i64 am] 146)).alloc (by simp) (.cells #[.string nm, .int .i64 fr, .int .i64 no, .int .i64 st, .slice av n cv] 51))
  simp only [acV]
  go_enter Tryz.func156, Tryz.ntmps156
  go_wp2
  go_ret
  exact ⟨rfl, HB.out⟩
set_option maxRecDepth 20000 in
theorem purseB_any (am : Int) (a : Ac) (lv : Value) (w : World) (hlv : ∃ av n cv, lv = .slice av n cv) :
    Calls Tryz.prog 157 #[.agg #[.int .i64 am], acV a lv] w fun en w' => en = .returned (.int .i64 a.2.1) ∧ Below w.heap.size w w' := by
  obtain ⟨nm, fr, no, st, ls⟩ := a
  obtain ⟨av, n, cv, rfl⟩ := hlv
  have HB := hide (((Below.refl _ w).alloc (Nat.le_refl _) (.cells #[.int .i64 am] 148)).alloc (by simp) (.cells #[.string nm, .int .i64 fr, .int .i64 no, .int .i64 st, .slice av n cv] 51))
  simp only [acV]
  go_enter Tryz.func157, Tryz.ntmps157
  go_wp2
  go_ret
  exact ⟨rfl, HB.out⟩
set_option maxRecDepth 20000 in
theorem purseU_any (am : Int) (a : Ac) (lv : Value) (w : World) (hlv : ∃ av n cv, lv = .slice av n cv) :
    Calls Tryz.prog 158 #[.agg #[.int .i64 am], acV a lv] w fun en w' => en = .returned (.int .i64 a.2.2.2.1) ∧ Below w.heap.size w w' := by
  obtain ⟨nm, fr, no, st, ls⟩ := a
  obtain ⟨av, n, cv, rfl⟩ := hlv
  have HB := hide (((Below.refl _ w).alloc (Nat.le_refl _) (.cells #[.int .i64 am] 149)).alloc (by simp) (.cells #[.string nm, .int .i64 fr, .int .i64 no, .int .i64 st, .slice av n cv] 51))
  simp only [acV]
  go_enter Tryz.func158, Tryz.ntmps158
  go_wp2
  go_ret
  exact ⟨rfl, HB.out⟩
theorem Tryz.isPay (v : Value) (xT : TypeId) (w : World) : (Instr.typeAssert (.iface 146 v) xT 146 true).run Tryz.prog w = .ok (.tuple #[v, .bool true]) w := by kernel_rfl
theorem Tryz.isBond (v : Value) (xT : TypeId) (w : World) : (Instr.typeAssert (.iface 148 v) xT 148 true).run Tryz.prog w = .ok (.tuple #[v, .bool true]) w := by kernel_rfl
theorem Tryz.isUnbond (v : Value) (xT : TypeId) (w : World) : (Instr.typeAssert (.iface 149 v) xT 149 true).run Tryz.prog w = .ok (.tuple #[v, .bool true]) w := by kernel_rfl
theorem Tryz.bondNoPay (v : Value) (xT : TypeId) (w : World) : (Instr.typeAssert (.iface 148 v) xT 146 true).run Tryz.prog w = .ok (.tuple #[.agg #[.string { data := #[] }, .int .i64 0], .bool false]) w := by kernel_rfl
theorem Tryz.unbondNoPay (v : Value) (xT : TypeId) (w : World) : (Instr.typeAssert (.iface 149 v) xT 146 true).run Tryz.prog w = .ok (.tuple #[.agg #[.string { data := #[] }, .int .i64 0], .bool false]) w := by kernel_rfl
theorem Tryz.unbondNoBond (v : Value) (xT : TypeId) (w : World) : (Instr.typeAssert (.iface 149 v) xT 148 true).run Tryz.prog w = .ok (.tuple #[.agg #[.int .i64 0], .bool false]) w := by kernel_rfl
end Go.Proofs.YtbbkeebfginlfaaGreatDoor
