/- The landed code's orders as they are within. -/
import Derived.LaidEql
import Derived.Stop.Asserts
import Derived.RowKitTokens
import Derived.Test.YthehfkafcdociaaGreatDoorZyLgWith
set_option maxRecDepth 20000
namespace Go.Proofs.YthehfkafcdociaaGreatDoor
open Go.RowKit Go.Extern.Stop Go.Stop Go.Extern
set_option linter.unusedVariables false
def lkV (c:Int):Value:=.iface 218 (.agg #[.int .i64 c])
def Gh (w:World):Prop:=w.cell? ⟨0,0,none⟩=some (.iface 256 (.agg #[.pointer (some ⟨1,214,none⟩)]))
def vaC (t:Nat) (a:Addr) (f:Int):List Value:=[.pointer (some ⟨1,t,none⟩),.pointer (some a),.int .u64 f]
theorem as_nil (t:Value) (w:World) :
    Calls Tryz.prog 131 #[.nilIface,t] w fun e w'=>e=.returned (.bool false)/\w'=w:=by
  go_enter Tryz.func131,Tryz.ntmps131
  go_wp2
  go_ret
  exact ⟨rfl,rfl⟩
theorem Tryz.valueOfP (t:Addr) (w:World):(ReflectliteValue.unpack (.iface 220 (.pointer (some t)))).run Tryz.prog w
    = .ok (.agg #[.pointer (some ⟨1,220,none⟩),.pointer (some ⟨w.heap.size,0,none⟩),.int .u64 150]) (w.alloc (.cells #[.pointer (some t)] 220)):=by kernel_rfl
theorem Tryz.typeP (a : Addr) (w : World) : (ReflectliteValue.methodAny (ReflectliteValue.valueError "reflectlite.Value.Type" 0) (fun t _ _ _ => ReflectliteType.toType t) #[.agg #[.pointer (some ⟨1, 220, none⟩), .pointer (some a), .int .u64 150]]).run Tryz.prog w
    = .ok (.iface 256 (.agg #[.pointer (some ⟨1,220,none⟩)])) w:=by kernel_rfl
theorem Tryz.methodKind (h : Value) (w : World) : (Go.method 437 256 (.agg #[h]) "Kind").run Tryz.prog w = .ok (202, h) w := by kernel_rfl
theorem Tryz.kindP (w:World):((ReflectliteType.abiMethod fun t=>(fun a:Nat=>Value.int IntKind.u8 (a:Int)) <$> Rtype.kind t) #[.pointer (some ⟨1,220,none⟩)]).run Tryz.prog w=.ok (.int .u8 22) w:=by kernel_rfl
theorem Tryz.kindL (w:World):((ReflectliteType.abiMethod fun t=>(fun a:Nat=>Value.int IntKind.u8 (a:Int)) <$> Rtype.kind t) #[.pointer (some ⟨1,218,none⟩)]).run Tryz.prog w=.ok (.int .u8 25) w:=by kernel_rfl
theorem rl_method (z:Sem Value) (f:TypeId->Addr->Nat->Nat->Sem Value) (v:Value):∃ k,ReflectliteValue.method z f #[v]=(ReflectliteValue.parts v >>= k)/\∀ t a fl,k (some (t,a,fl))=f t a fl (fl % 32):=⟨_,rfl,fun _ _ _=>rfl⟩
theorem Tryz.partsP (a:Addr) (w:World):(ReflectliteValue.parts (.agg #[.pointer (some ⟨1,220,none⟩),.pointer (some a),.int .u64 150])).run Tryz.prog w=.ok (some (220,a,150)) w:=by kernel_rfl
theorem Tryz.isNilP (a p:Addr) (W:World) (ha:W.cell? a=some (.pointer (some p))) :
    (ReflectliteValue.method (ReflectliteValue.valueError "reflectlite.Value.IsNil" 0) ReflectliteValue.isNil #[.agg #[.pointer (some ⟨1, 220, none⟩), .pointer (some a), .int .u64 150]]).run Tryz.prog W = .ok (.bool false) W := by
  obtain ⟨k, e1, e2⟩ := rl_method (ReflectliteValue.valueError "reflectlite.Value.IsNil" 0) _ (.agg #[.pointer (some ⟨1, 220, none⟩), .pointer (some a), .int .u64 150])
  rw [e1]
  simp only [Sem.run_bind,Tryz.partsP,Result.andThen,e2]
  simp [ReflectliteValue.isNil,loadVar,isAgg,underlying,Tryz.underlying220,ha,Result.andThen]
theorem Tryz.methodElem (h : Value) (w : World) : (Go.method 437 256 (.agg #[h]) "Elem").run Tryz.prog w = .ok (216, .agg #[h]) w := by kernel_rfl
theorem Tryz.methodImplements (h : Value) (w : World) : (Go.method 437 256 (.agg #[h]) "Implements").run Tryz.prog w = .ok (217, .agg #[h]) w := by kernel_rfl
theorem Tryz.methodAssignableTo (h : Value) (w : World) : (Go.method 437 256 (.agg #[h]) "AssignableTo").run Tryz.prog w = .ok (214, .agg #[h]) w := by kernel_rfl
theorem Tryz.elemP (w:World):(ReflectliteType.method ReflectliteType.elem #[.agg #[.pointer (some ⟨1,220,none⟩)]]).run Tryz.prog w=.ok (.iface 256 (.agg #[.pointer (some ⟨1,218,none⟩)])) w:=by kernel_rfl
theorem Tryz.implementsL (w : World) : (ReflectliteType.relation "Implements" ReflectliteType.implements_ #[.agg #[.pointer (some ⟨1, 218, none⟩)], .iface 256 (.agg #[.pointer (some ⟨1, 214, none⟩)])]).run Tryz.prog w = .ok (.bool true) w := by kernel_rfl
theorem Tryz.typeOfL (v:Value) (w:World):(ReflectliteType.typeOf #[.iface 218 v]).run Tryz.prog w=.ok (.iface 256 (.agg #[.pointer (some ⟨1,218,none⟩)])) w:=by kernel_rfl
theorem Tryz.assignableL (w : World) : (ReflectliteType.relation "AssignableTo" ReflectliteType.assignableTo #[.agg #[.pointer (some ⟨1, 218, none⟩)], .iface 256 (.agg #[.pointer (some ⟨1, 218, none⟩)])]).run Tryz.prog w = .ok (.bool true) w := by kernel_rfl
theorem Tryz.valueOfL (c:Int) (w:World):(ReflectliteValue.unpack (.iface 218 (.agg #[.int .i64 c]))).run Tryz.prog w
    = .ok (.agg #[.pointer (some ⟨1,218,none⟩),.pointer (some ⟨w.heap.size,0,none⟩),.int .u64 153]) (w.alloc (.cells #[.int .i64 c] 218)):=by kernel_rfl
theorem Tryz.elemOfP (w:World):(Rtype.elem? 220).run Tryz.prog w=.ok (some 218) w:=by kernel_rfl
theorem Tryz.mkL (p:Addr) (w:World):(ReflectliteValue.mk 218 p ReflectliteValue.flagAddr).run Tryz.prog w=.ok (.agg #[.pointer (some ⟨1,218,none⟩),.pointer (some p),.int .u64 409]) w:=by kernel_rfl
theorem Tryz.elemVP (a p:Addr) (W:World) (ha:W.cell? a=some (.pointer (some p))) :
    (ReflectliteValue.method (ReflectliteValue.valueError "reflectlite.Value.Elem" 0) ReflectliteValue.elem #[.agg #[.pointer (some ⟨1, 220, none⟩), .pointer (some a), .int .u64 150]]).run Tryz.prog W
      = .ok (.agg #[.pointer (some ⟨1,218,none⟩),.pointer (some p),.int .u64 409]) W:=by
  obtain ⟨k, e1, e2⟩ := rl_method (ReflectliteValue.valueError "reflectlite.Value.Elem" 0) _ (.agg #[.pointer (some ⟨1, 220, none⟩), .pointer (some a), .int .u64 150])
  rw [e1]
  simp only [Sem.run_bind,Tryz.partsP,Result.andThen,e2]
  simp [ReflectliteValue.elem,loadVar,isAgg,underlying,Tryz.underlying220,ha,Result.andThen,Tryz.elemOfP,Tryz.mkL]
theorem Tryz.partsLa (a:Addr) (w:World):(ReflectliteValue.parts (.agg #[.pointer (some ⟨1,218,none⟩),.pointer (some a),.int .u64 409])).run Tryz.prog w=.ok (some (218,a,409)) w:=by kernel_rfl
theorem Tryz.partsL (a:Addr) (w:World):(ReflectliteValue.parts (.agg #[.pointer (some ⟨1,218,none⟩),.pointer (some a),.int .u64 153])).run Tryz.prog w=.ok (some (218,a,153)) w:=by kernel_rfl
theorem Tryz.directL (w:World):(Rtype.directlyAssignable 218 218).run Tryz.prog w=.ok true w:=by kernel_rfl
end Go.Proofs.YthehfkafcdociaaGreatDoor
namespace Go.Proofs.YthehfkafcdociaaGreatDoor
open Go.RowKit
set_option linter.unusedVariables false
def orV (t:Tx5):Value :=
  if t.1=1 then .iface 248 (.agg #[.string t.2.2.1,.int .i64 t.2.2.2.1])
  else if t.1=2 then .iface 250 (.agg #[.int .i64 t.2.2.2.1])
  else .iface 251 (.agg #[.int .i64 t.2.2.2.1])
theorem orderOf_any (t:Tx5) (w:World) :
    Calls Tryz.prog 142 #[txV t] w fun en w'=>en=.returned (orV t)/\Below w.heap.size w w':=by
  obtain ⟨kd,fm,tO,am,nc⟩:=t
  have HB:=hide ((Below.refl _ w).alloc (Nat.le_refl _) (.cells #[.int .i64 kd,.string fm,.string tO,.int .i64 am,.int .i64 nc] 117))
  simp only [txV]
  by_cases h1:kd=1
  · subst h1
    have HV:Hid (orV (1,fm,tO,am,nc)=.iface 248 (.agg #[.string tO,.int .i64 am])):=hide rfl
    rw [HV.out]
    go_enter Tryz.func142,Tryz.ntmps142
    go_wp2
    go_ret
    exact ⟨rfl,HB.out⟩
  · have hq:(kd == 1)=false:=by rw [beq_eq_false_iff_ne];exact h1
    by_cases h2:kd=2
    · subst h2
      have HV:Hid (orV (2,fm,tO,am,nc)=.iface 250 (.agg #[.int .i64 am])):=hide rfl
      rw [HV.out]
      go_enter Tryz.func142,Tryz.ntmps142
      go_wp2
      go_ret
      exact ⟨rfl,HB.out⟩
    · have hq2:(kd == 2)=false:=by rw [beq_eq_false_iff_ne];exact h2
      have HV:Hid (orV (kd,fm,tO,am,nc)=.iface 251 (.agg #[.int .i64 am])):=hide (by unfold orV;rw [if_neg h1,if_neg h2])
      rw [HV.out]
      clear h1 h2
      go_enter Tryz.func142,Tryz.ntmps142
      go_wp2
      go_ret
      exact ⟨rfl,HB.out⟩
theorem Tryz.purseP (a b : Value) (w : World) : (Go.method 437 248 (.agg #[a, b]) "loop.example/g00194/impl.purse").run Tryz.prog w = .ok (210, .agg #[a, b]) w := by kernel_rfl
theorem Tryz.purseB (a : Value) (w : World) : (Go.method 437 250 (.agg #[a]) "loop.example/g00194/impl.purse").run Tryz.prog w = .ok (211, .agg #[a]) w := by kernel_rfl
theorem Tryz.purseU (a : Value) (w : World) : (Go.method 437 251 (.agg #[a]) "loop.example/g00194/impl.purse").run Tryz.prog w = .ok (212, .agg #[a]) w := by kernel_rfl
theorem Tryz.aheadP (a b : Value) (w : World) : (nilAhead 437 248 (.agg #[a, b]) "loop.example/g00194/impl.purse").run Tryz.prog w = .ok (some false) w := by kernel_rfl
theorem Tryz.aheadB (a : Value) (w : World) : (nilAhead 437 250 (.agg #[a]) "loop.example/g00194/impl.purse").run Tryz.prog w = .ok (some false) w := by kernel_rfl
theorem Tryz.aheadU (a : Value) (w : World) : (nilAhead 437 251 (.agg #[a]) "loop.example/g00194/impl.purse").run Tryz.prog w = .ok (some false) w := by kernel_rfl
theorem purseP_any (tO:ByteArray) (am:Int) (a:Ac) (lv:Value) (w:World) (hlv:∃ av n cv,lv=.slice av n cv) :
    Calls Tryz.prog 210 #[.agg #[.string tO,.int .i64 am],acV a lv] w fun en w'=>en=.returned (.int .i64 a.2.1)/\Below w.heap.size w w':=by
  obtain ⟨nm,fr,no,st,ls⟩:=a
  obtain ⟨av,n,cv,rfl⟩:=hlv
  have HB:=hide (((Below.refl _ w).alloc (Nat.le_refl _) (.cells #[.string tO,.int .i64 am] 248)).alloc (by simp) (.cells #[.string nm,.int .i64 fr,.int .i64 no,.int .i64 st,.slice av n cv] 122))
  simp only [acV]
  go_enter Tryz.func210,Tryz.ntmps210
  go_wp2
  go_ret
  exact ⟨rfl,HB.out⟩
theorem purseB_any (am:Int) (a:Ac) (lv:Value) (w:World) (hlv:∃ av n cv,lv=.slice av n cv) :
    Calls Tryz.prog 211 #[.agg #[.int .i64 am],acV a lv] w fun en w'=>en=.returned (.int .i64 a.2.1)/\Below w.heap.size w w':=by
  obtain ⟨nm,fr,no,st,ls⟩:=a
  obtain ⟨av,n,cv,rfl⟩:=hlv
  have HB:=hide (((Below.refl _ w).alloc (Nat.le_refl _) (.cells #[.int .i64 am] 250)).alloc (by simp) (.cells #[.string nm,.int .i64 fr,.int .i64 no,.int .i64 st,.slice av n cv] 122))
  simp only [acV]
  go_enter Tryz.func211,Tryz.ntmps211
  go_wp2
  go_ret
  exact ⟨rfl,HB.out⟩
theorem purseU_any (am:Int) (a:Ac) (lv:Value) (w:World) (hlv:∃ av n cv,lv=.slice av n cv) :
    Calls Tryz.prog 212 #[.agg #[.int .i64 am],acV a lv] w fun en w'=>en=.returned (.int .i64 a.2.2.2.1)/\Below w.heap.size w w':=by
  obtain ⟨nm,fr,no,st,ls⟩:=a
  obtain ⟨av,n,cv,rfl⟩:=hlv
  have HB:=hide (((Below.refl _ w).alloc (Nat.le_refl _) (.cells #[.int .i64 am] 251)).alloc (by simp) (.cells #[.string nm,.int .i64 fr,.int .i64 no,.int .i64 st,.slice av n cv] 122))
  simp only [acV]
  go_enter Tryz.func212,Tryz.ntmps212
  go_wp2
  go_ret
  exact ⟨rfl,HB.out⟩
theorem Tryz.isPay (v:Value) (xT:TypeId) (w:World):(Instr.typeAssert (.iface 248 v) xT 248 true).run Tryz.prog w=.ok (.tuple #[v,.bool true]) w:=by kernel_rfl
theorem Tryz.isBond (v:Value) (xT:TypeId) (w:World):(Instr.typeAssert (.iface 250 v) xT 250 true).run Tryz.prog w=.ok (.tuple #[v,.bool true]) w:=by kernel_rfl
theorem Tryz.isUnbond (v:Value) (xT:TypeId) (w:World):(Instr.typeAssert (.iface 251 v) xT 251 true).run Tryz.prog w=.ok (.tuple #[v,.bool true]) w:=by kernel_rfl
theorem Tryz.bondNoPay (v:Value) (xT:TypeId) (w:World):(Instr.typeAssert (.iface 250 v) xT 248 true).run Tryz.prog w=.ok (.tuple #[.agg #[.string { data:=#[] },.int .i64 0],.bool false]) w:=by kernel_rfl
theorem Tryz.unbondNoPay (v:Value) (xT:TypeId) (w:World):(Instr.typeAssert (.iface 251 v) xT 248 true).run Tryz.prog w=.ok (.tuple #[.agg #[.string { data:=#[] },.int .i64 0],.bool false]) w:=by kernel_rfl
theorem Tryz.unbondNoBond (v:Value) (xT:TypeId) (w:World):(Instr.typeAssert (.iface 251 v) xT 250 true).run Tryz.prog w=.ok (.tuple #[.agg #[.int .i64 0],.bool false]) w:=by kernel_rfl
end Go.Proofs.YthehfkafcdociaaGreatDoor
