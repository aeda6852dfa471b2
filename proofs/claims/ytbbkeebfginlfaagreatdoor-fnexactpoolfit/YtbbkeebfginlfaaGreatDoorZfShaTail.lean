/- Orders one behind the other: what ApplyAll answers (plain). A region whose operations only read, but for a tail that is carried out in its order. -/
import Derived.Test.YtbbkeebfginlfaaGreatDoorZfLgApF
import Derived.Test.YtbbkeebfginlfaaGreatDoorZfLgApplyI
import Derived.Test.YtbbkeebfginlfaaGreatDoorZfAcMem
import Derived.StillTailTactics
namespace Go.Proofs.YtbbkeebfginlfaaGreatDoor
open Go.RowKit
set_option linter.unusedVariables false

/-- One order more: the accounts behind it, and how many were good. -/
def alS (e : Int) (s : List Ac × Nat) (t : Tx5) : List Ac × Nat := ((apA e s.1 t).1, if (apA e s.1 t).2 = 0 then s.2 + 1 else s.2)
def alA (e : Int) (l : List Ac) (ts : List Tx5) : List Ac × Nat := ts.foldl (alS e) (l, 0)
theorem alA_nil (e : Int) (l : List Ac) : alA e l [] = (l, 0) := rfl
theorem alA_snoc (e : Int) (l : List Ac) (ts : List Tx5) (k : Nat) (h : k < ts.length) : alA e l (ts.take (k + 1)) = alS e (alA e l (ts.take k)) ts[k] := by
  rw [List.take_succ_eq_append_getElem h]
  unfold alA
  rw [List.foldl_append]
  rfl
theorem alS_len (e : Int) : ∀ (ts : List Tx5) (s : List Ac × Nat), (ts.foldl (alS e) s).2 ≤ s.2 + ts.length
  | [], s => Nat.le_refl _
  | t :: ts, s => by
    rw [List.foldl_cons]
    have h := alS_len e ts (alS e s t)
    have h1 : (alS e s t).2 ≤ s.2 + 1 := by unfold alS; simp only; split <;> omega
    rw [List.length_cons]
    omega
theorem alA_len (e : Int) (l : List Ac) (ts : List Tx5) : (alA e l ts).2 ≤ ts.length := by
  have := alS_len e ts (l, 0)
  simpa [alA] using this
theorem alS_is (e : Int) : ∀ (ts : List Tx5) (s : List Ac × Nat), (ts.foldl (alS e) s).1 = s.1 ∨ acsB (ts.foldl (alS e) s).1 = true
  | [], s => .inl rfl
  | t :: ts, s => by
    rw [List.foldl_cons]
    rcases alS_is e ts (alS e s t) with h | h
    · rcases apA_is e s.1 t with h1 | h1
      · exact .inl (h.trans h1)
      · exact .inr (by rw [h]; exact h1)
    · exact .inr h
/-- The accounts behind any orders are few, as the ones ahead of them. -/
theorem alA_few {e : Int} {l : List Ac} (ts : List Tx5) (hl : l.length ≤ 3999999) (hall : ∀ a ∈ l, a.1.size ≤ maxLen ∧ a.2.2.2.2.length ≤ 3999999) :
    (alA e l ts).1.length ≤ 3999999 ∧ ∀ a ∈ (alA e l ts).1, a.1.size ≤ maxLen ∧ a.2.2.2.2.length ≤ 3999999 := by
  rcases alS_is e ts (l, 0) with h | h
  · have h' : (alA e l ts).1 = l := h
    rw [h']
    exact ⟨hl, hall⟩
  · have h' : acsB (alA e l ts).1 = true := h
    refine ⟨by have := (acs_parts h').1; omega, fun a ha => ?_⟩
    have hp := ac_parts (acs_all h' a ha)
    have hn := hp.1
    unfold nmB inB at hn
    simp only [Bool.and_eq_true, decide_eq_true_eq] at hn
    exact ⟨by unfold maxLen; omega, by omega⟩
/-- An order that is not good leaves all as it was. -/
theorem alS_bad {e : Int} {s : List Ac × Nat} {t : Tx5} (h : (apA e s.1 t).2 ≠ 0) : alS e s t = s := by
  unfold alS
  rw [apA_same h, if_neg h]
theorem alS_good {e : Int} {s : List Ac × Nat} {t : Tx5} (h : (apA e s.1 t).2 = 0) : alS e s t = ((apA e s.1 t).1, s.2 + 1) := by
  unfold alS
  rw [if_pos h]
end Go.Proofs.YtbbkeebfginlfaaGreatDoor

namespace Go.Proofs.YtbbkeebfginlfaaGreatDoor
open Go.RowKit

theorem region_tail {P : Program} {id : Nat} {Q : Exit → Act → World → Prop} {a : Act} {w : World} {l : List Oper} (n : Nat) (hm : P.follows .mixedOrders = true) (hB : Region.lexTailB .any l.toArray n = true)
    (h : wpStill P l.toArray w.drew (fun a' => wpList P l.toArray Q (l.drop n) a' w.drew) (l.take n) a) : (Code.region id l.toArray true).wp P Q a w := wp_region_still_tail n hm hB h
end Go.Proofs.YtbbkeebfginlfaaGreatDoor
