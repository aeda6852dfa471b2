/- The laws' marks on lists of accounts: written, and found again. -/
import Derived.Test.YtknmjahipekgpaaDoorAcMark
import Derived.Deep.RegionWith
namespace Go.Proofs.YtknmjahipekgpaaDoor
open Go.RowKit
set_option linter.unusedVariables false

theorem flat_put4 {α : Type} (L : List (List α)) (i : Nat) (a b c d a0 b0 c0 d0 e : α) (hi : i < L.length) (h : ∀ x ∈ L, x.length = 5) (hx : L[i] = [a0, b0, c0, d0, e]) : (((L.flatten.set (i * 5) a).set (i * 5 + 1) b).set (i * 5 + 2) c).set (i * 5 + 3) d = (L.set i [a, b, c, d, e]).flatten := by
  have h5 := flat_put5 L i a b c d e hi h
  rw [← h5]
  have hself : ∀ (X : List α) (m : Nat) (u : α), X[m]? = some u → X.set m u = X := fun X m u hu => by
    obtain ⟨h1, rfl⟩ := List.getElem?_eq_some_iff.1 hu
    simp
  symm
  apply hself
  rw [List.getElem?_set_ne (by omega), List.getElem?_set_ne (by omega), List.getElem?_set_ne (by omega), List.getElem?_set_ne (by omega), flat_get 5 L i 4 hi h (by omega), hx]
  rfl
theorem Lvs.mark {base : Nat} {w w' : World} {g : Nat} {P : List (Ac × Value)} (h : Lvs base w g P) {j : Nat} (hj : j < P.length) (q : Ac × Value) (hq : q.2 = P[j].2) (ho : OwnL base w' P[j].2 q.1.2.2.2.2) (hg : w.grownBy w' P[j].2.ownBlock) : Lvs base w' g (P.set j q) := by
  have hat : ∀ i (hi : i < (P.set j q).length), (P.set j q)[i].2 = (P[i]'(by simpa using hi)).2 := fun i hi => by
    rw [List.getElem_set]
    split
    · rename_i e; subst e; exact hq
    · rfl
  refine ⟨fun i hi => ?_, fun i hi => ?_, fun i i' hi hi' hne => ?_⟩
  · by_cases e : i = j
    · subst e
      have e2 : (P.set i q)[i] = q := by simp
      rw [e2, hq]; exact ho
    · have e2 : (P.set j q)[i] = P[i]'(by simpa using hi) := by rw [List.getElem_set_ne (by omega)]
      rw [e2]
      refine (h.own i (by simpa using hi)).kept hg ?_
      cases hb : (P[i]'(by simpa using hi)).2.ownBlock with
      | none => exact .inl rfl
      | some k => exact .inr (fun e' => h.apart i j (by simpa using hi) hj e k hb e'.symm)
  · rw [hat i hi]; exact h.far i (by simpa using hi)
  · rw [hat i hi, hat i' hi']; exact h.apart i i' (by simpa using hi) (by simpa using hi') hne
theorem Btw.set {lo hi : Nat} {w w' : World} (h : Btw lo hi w w') {g : Nat} (h1 : lo ≤ g) (h2 : g < hi) (j : Nat) (u : Value) : Btw lo hi w (w'.setCell ⟨g, j, none⟩ u) :=
  h.trans (Btw.of_grown (grown_set w' g j u) (fun k e => by cases e; exact ⟨h1, h2⟩))

end Go.Proofs.YtknmjahipekgpaaDoor
