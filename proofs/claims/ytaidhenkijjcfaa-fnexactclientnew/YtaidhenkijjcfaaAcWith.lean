/- The model's Credit: accounts with one for a name, and what is given to it. -/
import Derived.Test.YtaidhenkijjcfaaAcPut
import Derived.Test.YtaidhenkijjcfaaAcCopy
namespace Go.Proofs.Ytaidhenkijjcfaa
open Go.RowKit
set_option linter.unusedVariables false

theorem atF_get (s : ByteArray) : ∀ (l : List Ac) (n : Nat) (a : Ac), getA s l = some a → ∃ (k : Nat) (h : k < l.length), atF s l n = ((n + k : Nat) : Int) ∧ l[k] = a ∧ a.1 = s ∧ ∀ j (hj : j < k), (l[j]'(by omega)).1 ≠ s
  | [], n, a, h => by simp [getA] at h
  | x :: t, n, a, h => by
    unfold getA at h
    split at h
    · rename_i he
      simp at h
      subst h
      exact ⟨0, by simp, by unfold atF; rw [if_pos he]; simp, rfl, he, fun j hj => by omega⟩
    · rename_i he
      obtain ⟨k, hk, h1, h2, h3, h4⟩ := atF_get s t (n + 1) a h
      refine ⟨k + 1, by simp; omega, by unfold atF; rw [if_neg he, h1]; omega, by simpa using h2, h3, fun j hj => ?_⟩
      cases j with
      | zero => exact he
      | succ j => simpa using h4 j (by omega)
theorem at_get {s : ByteArray} {l : List Ac} {a : Ac} (h : getA s l = some a) : ∃ (k : Nat) (h : k < l.length), atA l s = (k : Int) ∧ l[k] = a ∧ a.1 = s ∧ ∀ j (hj : j < k), (l[j]'(by omega)).1 ≠ s := by
  obtain ⟨k, hk, h1, r⟩ := atF_get s l 0 a h
  exact ⟨k, hk, by unfold atA; rw [h1]; omega, r⟩
theorem at_not {s : ByteArray} {l : List Ac} (h : getA s l = none) : atA l s = -1 := atF_none s l 0 (fun j hj => getA_none h _ (List.getElem_mem _))
theorem getA_has {s : ByteArray} : ∀ {l : List Ac}, (∃ x ∈ l, x.1 = s) → ∃ a, getA s l = some a
  | [], h => by simp at h
  | x :: t, h => by
    unfold getA
    split
    · exact ⟨_, rfl⟩
    · rename_i he
      obtain ⟨y, hy, e⟩ := h
      rcases List.mem_cons.1 hy with rfl | hy
      · exact absurd e he
      · exact getA_has ⟨y, hy, e⟩
theorem with_has (l : List Ac) (s : ByteArray) : ∃ a, getA s (withA l s) = some a := by
  unfold withA
  split
  · exact getA_has ⟨newAc s, by simp, rfl⟩
  · rename_i h
    cases hg : getA s l with
    | none => exact absurd hg h
    | some a => exact ⟨a, rfl⟩
theorem upA_set (s : ByteArray) (n : Int) : ∀ (l : List Ac) (k : Nat) (h : k < l.length), l[k].1 = s → (∀ j (hj : j < k), (l[j]'(by omega)).1 ≠ s) → upA s n l = l.set k (l[k].1, wrap64 (l[k].2.1 + n), l[k].2.2)
  | [], k, h, _, _ => by simp at h
  | x :: t, 0, h, he, _ => by
    unfold upA
    rw [if_pos (by simpa using he)]
    rfl
  | x :: t, k + 1, h, he, hn => by
    unfold upA
    rw [if_neg (by simpa using hn 0 (by omega)), upA_set s n t k (by simpa using h) (by simpa using he) (fun j hj => by simpa using hn (j + 1) (by omega))]
    rfl
theorem upA_mem (s : ByteArray) (n : Int) : ∀ (l : List Ac) (P : Ac → Prop), (∀ x ∈ l, P x) → (∀ x : Ac, P x → P (x.1, wrap64 (x.2.1 + n), x.2.2)) → ∀ y ∈ upA s n l, P y
  | [], P, _, _, y, hy => by simp [upA] at hy
  | x :: t, P, h, hs, y, hy => by
    unfold upA at hy
    split at hy
    · rcases List.mem_cons.1 hy with rfl | hy
      · exact hs x (h x List.mem_cons_self)
      · exact h y (List.mem_cons_of_mem _ hy)
    · rcases List.mem_cons.1 hy with rfl | hy
      · exact h y List.mem_cons_self
      · exact upA_mem s n t P (fun z hz => h z (List.mem_cons_of_mem _ hz)) hs y hy
theorem upA_len (s : ByteArray) (n : Int) : ∀ l : List Ac, (upA s n l).length = l.length
  | [] => rfl
  | x :: t => by
    unfold upA
    split
    · rfl
    · simp [upA_len s n t]
theorem withA_mem {l : List Ac} {s : ByteArray} {y : Ac} (h : y ∈ withA l s) : y = newAc s ∨ y ∈ l := by
  unfold withA at h
  split at h
  · rcases List.mem_append.1 h with h | h
    · exact .inr (List.mem_of_mem_take h)
    · rcases List.mem_cons.1 h with h | h
      · exact .inl h
      · exact .inr (List.mem_of_mem_drop h)
  · exact .inr h
theorem withA_len (l : List Ac) (s : ByteArray) : (withA l s).length ≤ l.length + 1 := by
  unfold withA
  split
  · simp; omega
  · omega

/-! The lists of what leaves, as a heap of them. -/
def tlZ (q : Ac × Value) : Value × List (Int × Int) := (q.2, q.1.2.2.2.2)
structure LvQ (base : Nat) (w : World) (g : Nat) (T : List (Value × List (Int × Int))) : Prop where
  own : ∀ t ∈ T, OwnL base w t.1 t.2
  far : ∀ t ∈ T, ∀ k, t.1.ownBlock = some k → k ≠ g
  apart : T.Pairwise (fun a b => ∀ k, a.1.ownBlock = some k → b.1.ownBlock ≠ some k)
theorem Lvs.heap {base : Nat} {w : World} {g : Nat} {Z : List (Ac × Value)} (h : Lvs base w g Z) : LvQ base w g (Z.map tlZ) := by
  refine ⟨fun t ht => ?_, fun t ht => ?_, ?_⟩
  · obtain ⟨q, hq, rfl⟩ := List.mem_map.1 ht
    obtain ⟨i, hi, rfl⟩ := List.mem_iff_getElem.1 hq
    exact h.own i hi
  · obtain ⟨q, hq, rfl⟩ := List.mem_map.1 ht
    obtain ⟨i, hi, rfl⟩ := List.mem_iff_getElem.1 hq
    exact h.far i hi
  · rw [List.pairwise_map]
    exact List.pairwise_iff_getElem.2 fun i j hi hj hij => h.apart i j hi hj (by omega)
theorem LvQ.lvs {base : Nat} {w : World} {g : Nat} {Z : List (Ac × Value)} (h : LvQ base w g (Z.map tlZ)) : Lvs base w g Z := by
  have hp := List.pairwise_iff_getElem.1 (List.pairwise_map.1 h.apart)
  refine ⟨fun i hi => h.own _ (List.mem_map_of_mem (List.getElem_mem hi)), fun i hi => h.far _ (List.mem_map_of_mem (List.getElem_mem hi)), fun i j hi hj hij k hk => ?_⟩
  by_cases hlt : i < j
  · exact hp i j hi hj hlt k hk
  · exact fun e => hp j i hj hi (by omega) k e hk
theorem LvQ.perm {base : Nat} {w : World} {g : Nat} {T T' : List (Value × List (Int × Int))} (h : LvQ base w g T) (hp : T.Perm T') : LvQ base w g T' :=
  ⟨fun t ht => h.own t (hp.mem_iff.2 ht), fun t ht => h.far t (hp.mem_iff.2 ht), (hp.pairwise_iff (fun {a b} hab k hk e => hab k e hk)).1 h.apart⟩
theorem LvQ.cons_nil {base : Nat} {w : World} {g : Nat} {T : List (Value × List (Int × Int))} (h : LvQ base w g T) : LvQ base w g ((.slice none 0 0, []) :: T) := by
  refine ⟨fun t ht => ?_, fun t ht => ?_, List.pairwise_cons.2 ⟨fun t _ k hk => by simp [Value.ownBlock] at hk, h.apart⟩⟩
  · rcases List.mem_cons.1 ht with rfl | ht
    · exact own_noneL _ _
    · exact h.own t ht
  · rcases List.mem_cons.1 ht with rfl | ht
    · intro k hk; simp [Value.ownBlock] at hk
    · exact h.far t ht
theorem Lvs.mid {base : Nat} {w : World} {g : Nat} {Z : List (Ac × Value)} (h : Lvs base w g Z) (q : Ac × Value) (hq : tlZ q = (.slice none 0 0, [])) (k : Nat) : Lvs base w g (Z.take k ++ q :: Z.drop k) := by
  refine LvQ.lvs ?_
  have e : (Z.take k ++ q :: Z.drop k).map tlZ = (Z.take k).map tlZ ++ (.slice none 0 0, []) :: (Z.drop k).map tlZ := by rw [List.map_append, List.map_cons, hq]
  rw [e]
  refine (LvQ.cons_nil h.heap).perm ?_
  refine (List.Perm.trans ?_ List.perm_middle.symm)
  rw [← List.map_append, List.take_append_drop]
theorem Lvs.same {base : Nat} {w : World} {g : Nat} {Z Z' : List (Ac × Value)} (h : Lvs base w g Z) (e : Z'.map tlZ = Z.map tlZ) : Lvs base w g Z' := LvQ.lvs (by rw [e]; exact h.heap)

/-- The rows with a hole at k. -/
def midC (Z : List (Ac × Value)) (k : Nat) (x : List Value) : List (List Value) := (Z.take k).map acC ++ x :: (Z.drop k).map acC
theorem midC_len (Z : List (Ac × Value)) (k : Nat) (x : List Value) (h : k ≤ Z.length) : (midC Z k x).length = Z.length + 1 := by simp [midC]; omega
theorem midC_sz (Z : List (Ac × Value)) (k : Nat) (x : List Value) (hx : x.length = 5) : ∀ y ∈ midC Z k x, y.length = 5 := by
  intro y hy
  rcases List.mem_append.1 hy with h | h
  · exact acM_sz _ y h
  · rcases List.mem_cons.1 h with rfl | h
    · exact hx
    · exact acM_sz _ y h
theorem midC_set (Z : List (Ac × Value)) (k : Nat) (x y : List Value) (h : k ≤ Z.length) : (midC Z k x).set k y = midC Z k y := by
  unfold midC
  have e : ((Z.take k).map acC).length = k := by simp; omega
  rw [List.set_append_right _ _ (by omega), e, Nat.sub_self]
  rfl
theorem midC_at (Z : List (Ac × Value)) (k : Nat) (x : List Value) (h : k ≤ Z.length) : (midC Z k x)[k]'(by rw [midC_len _ _ _ h]; omega) = x := by
  unfold midC
  rw [List.getElem_append_right (by simp; omega)]
  simp [show k - min k Z.length = 0 from by omega]
theorem midC_prev (Z : List (Ac × Value)) (k : Nat) (x : List Value) (h : k + 1 ≤ Z.length) : (midC Z (k + 1) x)[k]'(by rw [midC_len _ _ _ h]; omega) = acC (Z[k]'(by omega)) := by
  unfold midC
  rw [List.getElem_append_left (by simp; omega)]
  simp
theorem midC_down (Z : List (Ac × Value)) (k : Nat) (h : k < Z.length) : midC Z (k + 1) (acC Z[k]) = midC Z k (acC Z[k]) := by
  unfold midC
  rw [List.take_succ_eq_append_getElem h, List.drop_eq_getElem_cons h, List.map_append, List.map_cons, List.append_assoc]
  rfl
theorem midC_end (Z : List (Ac × Value)) (q : Ac × Value) : midC Z Z.length (acC q) = (Z ++ [q]).map acC := by simp [midC]
theorem midC_put (Z : List (Ac × Value)) (k : Nat) (q : Ac × Value) : midC Z k (acC q) = (Z.take k ++ q :: Z.drop k).map acC := by simp [midC]

theorem RowA.shapeN {base : Nat} {w : World} {v : Value} {Z : List (Ac × Value)} (h : RowA base w v Z) (hn : v ≠ .slice none 0 0) (n : Nat) (hZ : Z.length = n) : ∃ g cap, v = .slice (some ⟨g, 0, none⟩) n cap := by
  obtain ⟨g, cap, e⟩ := h.shape hn
  exact ⟨g, cap, by rw [e, hZ]⟩
theorem plA_here {l : List Ac} {s : ByteArray} {k : Nat} (hk : k ≤ l.length) (h : k = 0 ∨ ∃ h : k - 1 < l.length, ¬ Lt s l[k - 1].1) : plA l s k = k := by
  cases k with
  | zero => rfl
  | succ j =>
    rcases h with h | ⟨h1, h2⟩
    · omega
    · unfold plA
      have : l.getD j ac0 = l[j] := by rw [List.getD_eq_getElem?_getD, List.getElem?_eq_getElem (show j < l.length by omega)]; rfl
      rw [this]
      exact if_neg h2
theorem plA_next {l : List Ac} {s : ByteArray} {k : Nat} (hk : k - 1 < l.length) (h0 : 0 < k) (h : Lt s l[k - 1].1) : plA l s k = plA l s (k - 1) := by
  cases k with
  | zero => omega
  | succ j =>
    show plA l s (j + 1) = plA l s j
    have : l.getD j ac0 = l[j]'(by omega) := by rw [List.getD_eq_getElem?_getD, List.getElem?_eq_getElem (show j < l.length by omega)]; rfl
    rw [plA, this]
    exact if_pos h
end Go.Proofs.Ytaidhenkijjcfaa
