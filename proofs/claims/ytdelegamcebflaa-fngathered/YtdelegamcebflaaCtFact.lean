/- What is weighed among drawn ones who vote is not great (plain). -/
import Derived.Test.YtdelegamcebflaaCtSpec
import Derived.Test.YtdelegamcebflaaDrawCt
namespace Go.Proofs.Ytdelegamcebflaa
open Go.RowKit
set_option linter.unusedVariables false

theorem sum_bd (f : Vl → Int) : ∀ (l : List Vl) (s : Int), (∀ p ∈ l, 0 ≤ f p ∧ f p ≤ 1000001) → 0 ≤ s → s + 1000001 * l.length ≤ 1000000000 → 0 ≤ l.foldl (fun s p => wrap64 (s + f p)) s ∧ l.foldl (fun s p => wrap64 (s + f p)) s ≤ s + 1000001 * l.length
  | [], s, _, h0, _ => by simp; omega
  | p :: l, s, h, h0, h1 => by
    have h2 := h p (List.mem_cons_self)
    rw [List.length_cons] at h1 ⊢
    have hw : wrap64 (s + f p) = s + f p := by unfold wrap64; omega
    rw [List.foldl_cons, hw]
    have h3 := sum_bd f l (s + f p) (fun q hq => h q (List.mem_cons_of_mem _ hq)) (by omega) (by omega)
    omega
theorem SmallV.mod {l : List Vl} (h : SmallV l) : ModV l := by
  have hl := h.1
  have h1 : ∀ f : Vl → Int, (∀ p ∈ l, 0 ≤ f p ∧ f p ≤ 1000001) → 0 ≤ sumV f l ∧ sumV f l ≤ 1000000000 := fun f hf => by
    have := sum_bd f l 0 hf (by omega) (by omega)
    unfold sumV
    omega
  refine ⟨h1 _ (fun p hp => (h.2 p hp).2), fun ns => h1 _ (fun p hp => ?_)⟩
  have := (h.2 p hp).2
  unfold wtN
  split <;> omega
end Go.Proofs.Ytdelegamcebflaa
