/- Chains of a tree (plain facts). -/
import Derived.Test.YtbjeonnaannofaaZaKsApp
namespace Go.Proofs.Ytbjeonnaannofaa
open Go.RowKit
set_option linter.unusedVariables false

theorem at_id {l : List Bk} (ht : treeP l) {i : Nat} (hi : i < l.length) : atI l l[i].id = (i : Int) := atI_asc (tree_asc ht) hi
/-- A chain ends with its block. -/
theorem ch_last {l : List Bk} (ht : treeP l) {i : Nat} (hi : i < l.length) : chA l l[i].id = chA l l[i].qb ++ [i] := chA_step ht hi (at_id ht hi)
/-- Each comes behind the one ahead of it. -/
theorem ch_pred {l : List Bk} (ht : treeP l) : ∀ (i : Nat) (hi : i < l.length) (k x : Nat), (chA l l[i].id)[k]? = some x → qbAt l x = (if k = 0 then -1 else (((chA l l[i].id)[k - 1]?).map (idAt l)).getD 0) := by
  intro i
  induction i using Nat.strongRecOn with
  | ind i ih =>
    intro hi k x hx
    rw [ch_last ht hi] at hx ⊢
    rcases par ht hi with ⟨e, q⟩ | ⟨j, hj, e, q⟩
    · rw [chA_none (by omega)] at hx ⊢
      simp only [List.nil_append] at hx ⊢
      have hk : k = 0 := by have := (List.getElem?_eq_some_iff.1 hx).1; simpa using this
      subst hk
      simp only [List.getElem?_cons_zero, Option.some.injEq] at hx
      subst hx
      rw [if_pos rfl, qbAt_eq hi, q]
    · have hjl : j < l.length := by omega
      rw [← q] at hx ⊢
      have ihj := ih j hj hjl
      have hlast := ch_last ht hjl
      generalize chA l l[j].id = C at hx ihj hlast ⊢
      by_cases hk : k < C.length
      · rw [List.getElem?_append_left hk] at hx
        rw [ihj k x hx]
        by_cases h0 : k = 0
        · rw [if_pos h0, if_pos h0]
        · rw [if_neg h0, if_neg h0, List.getElem?_append_left (by omega)]
      · have hkl : k = C.length := by
          have := (List.getElem?_eq_some_iff.1 hx).1
          simp only [List.length_append, List.length_cons, List.length_nil] at this
          omega
        subst hkl
        have hCp : 0 < C.length := by rw [hlast]; simp
        rw [List.getElem?_append_right (Nat.le_refl _), Nat.sub_self, List.getElem?_cons_zero] at hx
        simp only [Option.some.injEq] at hx
        subst hx
        rw [if_neg (by omega), List.getElem?_append_left (by omega)]
        have h9 : C[C.length - 1]? = some j := by rw [hlast]; simp
        rw [h9, qbAt_eq hi, ← q]
        simp [idAt_eq hjl]
theorem id_low {l : List Bk} (ht : treeP l) {x : Nat} (hx : x < l.length) : 0 ≤ idAt l x := by rw [idAt_eq hx]; exact low_id (ht.2 x hx).1
theorem ex_mem {l : List Bk} (htb : treeB l = true) (ht : treeP l) {b : Int} {x : Nat} (hx : x ∈ chA l b) : exB l (idAt l x) b = true := by
  have hxl := chA_lt ht b x hx
  have h0 := id_low ht hxl
  unfold exB
  rw [htb, Bool.true_and, if_neg (by omega), List.any_eq_true]
  exact ⟨idAt l x, List.mem_map.2 ⟨x, hx, rfl⟩, by simp⟩
theorem ex_root {l : List Bk} (htb : treeB l = true) (ht : treeP l) {i : Nat} (hi : i < l.length) : exB l (-1) l[i].id = true := by
  unfold exB
  rw [htb, Bool.true_and, if_pos rfl, at_id ht hi, decide_eq_true (show (0 : Int) ≤ (i : Int) by omega), Bool.or_true]
theorem co_tree {l : List Bk} (htb : treeB l = true) (id : Int) : coA l id = (chA l id).map (idAt l) := by rw [coA, if_pos htb]
theorem co_root {l : List Bk} (htb : treeB l = true) (ht : treeP l) : coA l (-1) = [] := by rw [co_tree htb, chA_none (by rw [at_low ht (by omega)]; omega)]; rfl
end Go.Proofs.Ytbjeonnaannofaa
