/- errors.Is, held against the program's named error: what it answers of none, and of a flaw of a block that wraps that error. What is read is no longer than the bytes; bytes.Equal. -/
import Derived.Test.YtcmmdkabocfnfaaGreatDoorZbDrawTx5
import Derived.LaidEql
import Derived.Stop.Asserts
import Derived.RowKitTokens
import Derived.Test.YtcmmdkabocfnfaaGreatDoorZbTxGetI
import Derived.Test.YtcmmdkabocfnfaaGreatDoorZbDraw
import Derived.Laws.IdiomStrings
namespace Go.Proofs.YtcmmdkabocfnfaaGreatDoor
open Go.RowKit Go.Extern.Stop Go.Stop Go.Extern
set_option linter.unusedVariables false

/-- A flaw that tells why, and wraps the error at b. -/
def flawV (why : ByteArray) (b : Addr) : Value := .iface 106 (.agg #[.string why, .iface 171 (.pointer (some b))])
def sentV (b : Addr) : Value := .iface 171 (.pointer (some b))
theorem Tryz.isTypeOf (v : Value) (w : World) : (Extern.ReflectliteType.typeOf #[.iface 171 v]).run Tryz.prog w = .ok (.iface 146 (.agg #[.pointer (some ⟨1, 171, none⟩)])) w := by kernel_rfl
theorem Tryz.isComparable (w : World) : ((Extern.ReflectliteType.method fun t => do Rtype.noPackHeld "Comparable" t; (fun a => Value.bool a.comparable) <$> typeInfo t) #[.agg #[.pointer (some ⟨1, 171, none⟩)]]).run Tryz.prog w = .ok (.bool true) w := by kernel_rfl
theorem Tryz.isComparableP (w : World) : ((Extern.ReflectliteType.method fun t => do Rtype.noPackHeld "Comparable" t; pure (.bool (← typeInfo t).comparable)) #[.agg #[.pointer (some ⟨1, 171, none⟩)]]).run Tryz.prog w = .ok (.bool true) w := by kernel_rfl
theorem Tryz.isMethodComparable (v : Value) (w : World) : (Go.method 307 146 v "Comparable").run Tryz.prog w = .ok (175, v) w := by kernel_rfl
theorem Tryz.isComp : (Tryz.prog.info? 171).map (·.comparable) = some true := by kernel_rfl
theorem Tryz.isSize : (Tryz.prog.info? 195).map (·.size) = some 1 := by kernel_rfl
theorem Tryz.noIsF (v : Value) (xT : TypeId) (w : World) : (Instr.typeAssert (.iface 106 v) xT 148 true).run Tryz.prog w = .ok (.tuple #[.nilIface, .bool false]) w := run_typeAssert_lacksB Tryz.underlying148 (by kernel_rfl) (by kernel_rfl) v xT w
theorem Tryz.hasUnwrapF (v : Value) (xT : TypeId) (w : World) : (Instr.typeAssert (.iface 106 v) xT 151 true).run Tryz.prog w = .ok (.tuple #[.iface 106 v, .bool true]) w := run_typeAssert_hasB Tryz.underlying151 (by kernel_rfl) v xT w
theorem Tryz.methodUnwrapF (a b : Value) (w : World) : (Go.method 307 106 (.agg #[a, b]) "Unwrap").run Tryz.prog w = .ok (171, .agg #[a, b]) w := by kernel_rfl
/-- errors.Is of none. -/
theorem is_none (b : Addr) (w : World) :
    Calls Tryz.prog 29 #[.nilIface, sentV b] w fun e w' => e = .returned (.bool false) ∧ w' = w := by
  have hn := run_eql_iface_nil_left (P := Tryz.prog) w 171 (.pointer (some b)) Tryz.underlying58
  unfold sentV
  go_enter Tryz.func29, Tryz.ntmps29
  go_wp2
  go_ret
  exact ⟨rfl, rfl⟩
theorem unwrapF_any (why : ByteArray) (b : Addr) (w : World) :
    Calls Tryz.prog 171 #[.agg #[.string why, .iface 171 (.pointer (some b))]] w fun e w' => e = .returned (.iface 171 (.pointer (some b))) ∧ Below w.heap.size w w' := by
  go_enter Tryz.func171, Tryz.ntmps171
  go_wp2
  go_ret
  exact ⟨rfl, (Below.refl _ w).alloc (Nat.le_refl _) _⟩
set_option maxRecDepth 20000 in
set_option maxHeartbeats 2000000 in
/-- errors.Is of a flaw that wraps the error itself. -/
theorem is_flaw (why : ByteArray) (b : Addr) (w : World) :
    Calls Tryz.prog 29 #[flawV why b, sentV b] w fun e w' => e = .returned (.bool true) ∧ Below w.heap.size w w' := by
  obtain ⟨i, hi, hcmp⟩ := Option.map_eq_some_iff.1 Tryz.isComp
  obtain ⟨j, hj, hjs⟩ := Option.map_eq_some_iff.1 Tryz.isSize
  have h8 := @run_callFunc_extern Tryz.prog 82 _ Extern.ReflectliteType.typeOf Tryz.func82 (by kernel_rfl) (by kernel_rfl) (by kernel_rfl) (by kernel_rfl)
  have h32 := @run_callFunc_extern Tryz.prog 175 _ (Extern.ReflectliteType.method fun t => do Rtype.noPackHeld "Comparable" t; pure (.bool (← typeInfo t).comparable)) Tryz.func175 (by kernel_rfl) (by kernel_rfl) (by kernel_rfl) (by kernel_rfl)
  have tT := Tryz.isTypeOf
  have cT := Tryz.isComparable
  have cP := Tryz.isComparableP
  have mR := Tryz.isMethodComparable
  have nW := Tryz.noIsF
  have uW := Tryz.hasUnwrapF
  have mU := Tryz.methodUnwrapF
  have heq := fun w => run_eql_iface_ptr_same (P := Tryz.prog) w b Tryz.underlying58 Tryz.underlying171 hi hcmp hj
  have hty := run_eql_iface_types (P := Tryz.prog) 106 171 (.agg #[.string why, .iface 171 (.pointer (some b))]) (.pointer (some b)) Tryz.underlying58 (by decide) w
  have HU := hide (unwrapF_any why b w)
  unfold flawV sentV
  go_enter Tryz.func29, Tryz.ntmps29
  go_wp2
  refine wp_loop_rounds 2 ?_
  rw [rounds_succ]
  go_wp2_with (go_at_call 171; refine HU.out.mono ?_; rintro e w2 ⟨rfl, hb2⟩)
  rw [rounds_succ]
  go_wp2
  go_ret
  exact ⟨rfl, hb2⟩
end Go.Proofs.YtcmmdkabocfnfaaGreatDoor

namespace Go.Proofs.YtcmmdkabocfnfaaGreatDoor
open Go.RowKit
set_option linter.unusedVariables false

theorem getT_sz (l : List UInt8) (p : Int) : (getT l p).1.length ≤ l.length := by
  unfold getT
  split
  · simp only [List.length_take, List.length_drop]; omega
  · simp
theorem mkB_size (l : List UInt8) : (⟨l.toArray⟩ : ByteArray).size = l.length := by simp [ByteArray.size]
theorem rT_sz (l : List UInt8) (s : St) : (rT l s).size ≤ l.length := by
  cases s with
  | none => show (⟨#[]⟩ : ByteArray).size ≤ _; simp [ByteArray.size]
  | some p => show (⟨(getT l p).1.toArray⟩ : ByteArray).size ≤ _; rw [mkB_size]; exact getT_sz l p
theorem getL_sz (l : List UInt8) : ∀ (n : Nat) (q : Int) (acc a : List ByteArray) (x : Int), (∀ y ∈ acc, y.size ≤ l.length) → getL n l q acc = some (a, x) → ∀ y ∈ a, y.size ≤ l.length := by
  intro n
  induction n with
  | zero => intro q acc a x h e; simp only [getL, Option.some.injEq, Prod.mk.injEq] at e; rw [← e.1]; exact h
  | succ n ih =>
    intro q acc a x h e
    unfold getL at e
    split at e
    · refine ih _ _ _ _ ?_ e
      intro y hy
      rcases List.mem_append.1 hy with hy | hy
      · exact h y hy
      · rw [List.mem_singleton.1 hy, mkB_size]; exact getT_sz l q
    · cases e
theorem rS_sz (l : List UInt8) (s : St) : ∀ y ∈ rS l s, y.size ≤ l.length := by
  cases s with
  | none => intro y hy; cases hy
  | some p =>
    show ∀ y ∈ (getNs l p).1, y.size ≤ l.length
    unfold getNs
    split
    · split
      · intro y hy; cases hy
      · rename_i a q hq
        exact getL_sz l _ _ _ _ _ (fun y hy => by cases hy) hq
    · intro y hy; cases hy
theorem rS_len (l : List UInt8) (s : St) : (rS l s).length ≤ 100 := by
  cases s with
  | none => simp [rS]
  | some p => exact getNs_len l p
theorem rX_sz (l : List UInt8) (s : St) : (rX l s).2.1.size ≤ l.length ∧ (rX l s).2.2.1.size ≤ l.length := by
  cases s with
  | none => exact ⟨Nat.zero_le _, Nat.zero_le _⟩
  | some p =>
    show (getX l p).1.2.1.size ≤ _ ∧ (getX l p).1.2.2.1.size ≤ _
    unfold getX
    split
    · split
      · simp only [mkB_size]
        exact ⟨getT_sz _ _, getT_sz _ _⟩
      · exact ⟨Nat.zero_le _, Nat.zero_le _⟩
    · exact ⟨Nat.zero_le _, Nat.zero_le _⟩
theorem rL_all {α : Type} (r : St → α) (n : St → St) (P : α → Prop) (h : ∀ s, P (r s)) (s : St) : ∀ k, ∀ x ∈ rL r n k s, P x
  | 0, x, hx => by cases hx
  | k + 1, x, hx => by
    rcases List.mem_append.1 hx with hx | hx
    · exact rL_all r n P h s k x hx
    · rw [List.mem_singleton.1 hx]; exact h _
theorem rN_bd (l : List UInt8) (s : St) : -1000000000 ≤ rN l s ∧ rN l s ≤ 1000000000 := by
  cases s with
  | none => simp [rN]
  | some p => exact ⟨(getN_bd l p).1, (getN_bd l p).2.1⟩
theorem cI_few (l : List UInt8) (m : Int) (s : St) (hm : 0 ≤ m) : (cI l m s).toNat ≤ m.toNat := by
  unfold cI inB
  split
  · rename_i h
    simp only [decide_eq_true_eq] at h
    omega
  · simp
theorem few_bI (l : List UInt8) (hl : l.length ≤ 4000000) : FewK (bI l) := by
  have hm : 4000000 ≤ maxLen := by unfold maxLen; omega
  refine ⟨?_, ?_, ?_, ?_, ?_, ?_, ?_, ?_, ?_, ?_, ?_⟩
  · have := rS_len l (y6 l); show (rS l (y6 l)).length ≤ _; omega
  · have := rS_len l (y8 l); show (rS l (y8 l)).length ≤ _; omega
  · have := rS_len l (y8 l); show (rL (rN l) (sN l) (rS l (y8 l)).length (y9 l)).length ≤ _; rw [rL_len]; omega
  · have := cI_few l 4 (y10 l) (by omega); show (rL (rX l) (sX l) (cI l 4 (y10 l)).toNat (i11 l)).length ≤ _; rw [rL_len]; omega
  · have := cI_few l 12 (i13 l) (by omega); show (rL (rV l) (sV l) (cI l 12 (i13 l)).toNat (i14 l)).length ≤ _; rw [rL_len]; omega
  · intro s hs; have := rS_sz l (y6 l) s hs; omega
  · intro s hs; have := rS_sz l (y8 l) s hs; omega
  · intro t ht; have := rL_all (rX l) (sX l) (fun t : Tx5 => t.2.1.size ≤ l.length ∧ t.2.2.1.size ≤ l.length) (rX_sz l) _ _ t ht; omega
  · intro p hp; have := rL_all (rV l) (sV l) (fun p : Vl => p.1.size ≤ l.length) (fun s => rT_sz l s) _ _ p hp; omega
  · have := rT_sz l (y3 l); show (rT l (y3 l)).size ≤ _; omega
  · have := rT_sz l (i15 l); show (rT l (i15 l)).size ≤ _; omega
theorem few_bS (l : List UInt8) (hl : l.length ≤ 4000000) : FewK (bS l) := by
  have hm : 4000000 ≤ maxLen := by unfold maxLen; omega
  refine ⟨?_, ?_, ?_, ?_, ?_, ?_, ?_, ?_, ?_, ?_, ?_⟩
  · have := rS_len l (y6 l); show (rS l (y6 l)).length ≤ _; omega
  · have := rS_len l (y8 l); show (rS l (y8 l)).length ≤ _; omega
  · have := rS_len l (y8 l); show (rL (rN l) (sN l) (rS l (y8 l)).length (y9 l)).length ≤ _; rw [rL_len]; omega
  · show (rL (rX l) (sX l) (few (rN l (y10 l)) 5) (j11 l)).length ≤ _; rw [rL_len]; unfold few; omega
  · show (rL (rV l) (sV l) (few (rN l (j13 l)) 13) (j14 l)).length ≤ _; rw [rL_len]; unfold few; omega
  · intro s hs; have := rS_sz l (y6 l) s hs; omega
  · intro s hs; have := rS_sz l (y8 l) s hs; omega
  · intro t ht; have := rL_all (rX l) (sX l) (fun t : Tx5 => t.2.1.size ≤ l.length ∧ t.2.2.1.size ≤ l.length) (rX_sz l) _ _ t ht; omega
  · intro p hp; have := rL_all (rV l) (sV l) (fun p : Vl => p.1.size ≤ l.length) (fun s => rT_sz l s) _ _ p hp; omega
  · have := rT_sz l (y3 l); show (rT l (y3 l)).size ≤ _; omega
  · have := rT_sz l (j15 l); show (rT l (j15 l)).size ≤ _; omega
theorem Tryz.strNil9 (w : World) : (convert 22 9 (.slice none 0 0)).run Tryz.prog w = .ok (.string ⟨#[]⟩) w := by kernel_rfl
theorem str_any (w : World) (v : Value) (l : List UInt8) (h : RdB w v l) : (convert 22 9 v).run Tryz.prog w = .ok (.string ⟨l.toArray⟩) w := by
  rcases h with ⟨a, cap, rfl, rfl, hn⟩ | ⟨b, off, cap, hne, rfl, h1, h2, h3, h4⟩
  · cases a with
    | none =>
      have hc := hn rfl
      subst hc
      exact Tryz.strNil9 w
    | some ad =>
      have := run_convert_bytes_back (P := Tryz.prog) w 22 9 5 ad cap [] Tryz.underlying22 Tryz.underlying5 Tryz.underlying9 (by intro j hj; simp at hj)
      simpa using this
  · exact run_convert_bytes_back (P := Tryz.prog) w 22 9 5 ⟨b, off, none⟩ cap l Tryz.underlying22 Tryz.underlying5 Tryz.underlying9 (by
      intro j hj
      have ea : (⟨b, off, none⟩ : Addr).add j = ⟨b, off + j, none⟩ := by
        by_cases hz : j = 0
        · subst hz; simp [Addr.add]
        · simp [Addr.add, hz]
      rw [ea, h4 j hj])
set_option maxRecDepth 20000 in
theorem equalB_any (v1 v2 : Value) (l1 l2 : List UInt8) (w : World) (h1 : RdB w v1 l1) (h2 : RdB w v2 l2) :
    Calls Tryz.prog 81 #[v1, v2] w fun e w' => e = .returned (.bool (decide (l1 = l2))) ∧ w' = w := by
  have c1 := str_any w v1 l1 h1
  have c2 := str_any w v2 l2 h2
  by_cases he : l1 = l2
  · subst he
    have Hf : Hid (decide (l1 = l1) = true) := hide (decide_eq_true rfl)
    generalize decide (l1 = l1) = X at Hf ⊢
    go_enter Tryz.func81, Tryz.ntmps81
    go_wp2
    go_ret
    exact ⟨ret_bool Hf.out.symm, rfl⟩
  · have Hf : Hid (decide (l1 = l2) = false) := hide (decide_eq_false he)
    have hq := bytes_ne (a := ⟨l1.toArray⟩) (b := ⟨l2.toArray⟩) (fun e => he (by
      have := congrArg (fun s : ByteArray => s.data.toList) e
      simpa using this))
    generalize decide (l1 = l2) = X at Hf ⊢
    generalize (⟨l1.toArray⟩ : ByteArray) = s1 at c1 hq
    generalize (⟨l2.toArray⟩ : ByteArray) = s2 at c2 hq
    clear he
    go_enter Tryz.func81, Tryz.ntmps81
    go_wp2
    go_ret
    exact ⟨ret_bool Hf.out.symm, rfl⟩
end Go.Proofs.YtcmmdkabocfnfaaGreatDoor
