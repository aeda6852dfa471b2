/- Who leads, on both sides. -/
import Derived.Test.YtoejikphbienfaaVsSum
namespace Go.Proofs.Ytoejikphbienfaa
open Go.RowKit
set_option linter.unusedVariables false

theorem leadV_none (r : Int) : leadV [] r = ByteArray.empty := by unfold leadV; simp
theorem leadV_neg (l : List Vl) (r : Int) (h : r < 0) : leadV l r = ByteArray.empty := by unfold leadV; rw [if_pos (.inr h)]
theorem leadV_at (l : List Vl) (n : Nat) (h : n % l.length < l.length) : leadV l (n : Int) = l[n % l.length].1 := by
  unfold leadV
  rw [if_neg (by omega), List.getD_eq_getElem?_getD, Int.toNat_natCast, List.getElem?_eq_getElem h]
  rfl

set_option maxRecDepth 20000 in
set_option maxHeartbeats 1000000 in
theorem implLeaderOf_any (v : Value) (l : List Vl) (r : Int) (w : World) (hr : RdV w v l) (hl : l.length ≤ 4000000) (hr2 : r ≤ 9223372036854775807) :
    Calls Try.prog 21 #[v, .int .i64 r] w fun e w' => e = .returned (.string (leadV l r)) ∧ Below w.heap.size w w' := by
  rcases hr with ⟨a, cap, rfl, rfl, -⟩ | ⟨b, off, cap, h0, rfl, h1, h2, h3, h4⟩
  · have H := hide (leadV_none r)
    generalize leadV [] r = X at H ⊢
    go_enter Try.func21, Try.ntmps21
    go_wp2
    go_ret
    exact ⟨by rw [H.out]; rfl, Below.refl _ _⟩
  · have hpos : 0 < l.length := List.length_pos_iff.2 h0
    by_cases hn : r < 0
    · have H := hide (leadV_neg l r hn)
      generalize leadV l r = X at H ⊢
      clear h4
      have hli : ¬ ((l.length : Int) = 0) := by omega
      have hlb : ((l.length : Int) == 0) = false := by rw [beq_eq_false_iff_ne]; exact hli
      go_enter Try.func21, Try.ntmps21
      go_wp2
      go_ret
      exact ⟨by rw [H.out]; rfl, Below.refl _ _⟩
    · obtain ⟨n, rfl⟩ : ∃ n : Nat, r = (n : Int) := ⟨r.toNat, by omega⟩
      have hm : n % l.length < l.length := Nat.mod_lt _ hpos
      have H := hide (leadV_at l n hm)
      have c0 := (h4 (n % l.length) hm).1
      have hli : ¬ ((l.length : Int) = 0) := by omega
      have hlb : ((l.length : Int) == 0) = false := by rw [beq_eq_false_iff_ne]; exact hli
      have ht : Int.tmod (n : Int) (l.length : Int) = ((n % l.length : Nat) : Int) := by rw [Int.tmod_eq_emod_of_nonneg (by omega)]; rfl
      have hn2 : n ≤ 9223372036854775807 := by omega
      generalize leadV l (n : Int) = X at H ⊢
      generalize l[n % l.length].1 = s at c0 H
      generalize n % l.length = m at c0 ht hm
      have hmi : (m : Int) < (l.length : Int) := by omega
      clear h4 hn
      go_enter Try.func21, Try.ntmps21
      go_wp2
      go_ret
      exact ⟨by rw [H.out]; rfl, Below.refl _ _⟩
end Go.Proofs.Ytoejikphbienfaa
