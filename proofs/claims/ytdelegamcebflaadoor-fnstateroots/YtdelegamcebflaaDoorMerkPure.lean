/- Trees of digests, over plain lists: leaves, nodes, roots, paths. -/
import Derived.Test.YtdelegamcebflaaDoorJoin8
import Derived.Test.YtdelegamcebflaaDoorBytes32
namespace Go.Proofs.YtdelegamcebflaaDoor
open Go.RowKit
set_option linter.unusedVariables false

def dig (l : List UInt8) : List UInt8 := bytesS (shaFold (padB l) (padQ l.length))
theorem dig_len (l : List UInt8) : (dig l).length = 32 := bytesS_len _
def leafB (s : ByteArray) : ByteArray := ⟨(dig (0 :: s.data.toList)).toArray⟩
def nodeB (a b : ByteArray) : ByteArray := ⟨(dig (1 :: a.data.toList ++ b.data.toList)).toArray⟩
def noneB : ByteArray := ⟨(dig []).toArray⟩
theorem leafB_size (s : ByteArray) : (leafB s).size = 32 := by show (dig _).toArray.size = 32; simp [dig_len]
theorem nodeB_size (a b : ByteArray) : (nodeB a b).size = 32 := by show (dig _).toArray.size = 32; simp [dig_len]
theorem noneB_size : noneB.size = 32 := by show (dig _).toArray.size = 32; simp [dig_len]

/-- The greatest power of 2 that is less than n (of 2 or more). -/
def half (n : Nat) : Nat := 2 ^ (n - 1).log2
theorem half_is (n e : Nat) (h1 : 2 ^ e < n) (h2 : n ≤ 2 * 2 ^ e) : half n = 2 ^ e := by
  unfold half
  congr 1
  have hp : 0 < 2 ^ e := Nat.two_pow_pos e
  rw [Nat.log2_eq_iff (by omega)]
  exact ⟨by omega, by rw [Nat.pow_succ]; omega⟩
theorem half_lt (n : Nat) (h : 2 ≤ n) : 0 < half n ∧ half n < n ∧ n ≤ 2 * half n := by
  have h1 := Nat.log2_self_le (n := n - 1) (by omega)
  have h2 := Nat.lt_log2_self (n := n - 1)
  unfold half
  rw [Nat.pow_succ] at h2
  exact ⟨Nat.two_pow_pos _, by omega, by omega⟩

def leafOf : List ByteArray → ByteArray
  | [] => noneB
  | s :: _ => leafB s
def rootF : Nat → List ByteArray → ByteArray
  | 0, _ => noneB
  | f + 1, l => if l.length < 2 then leafOf l else nodeB (rootF f (l.take (half l.length))) (rootF f (l.drop (half l.length)))
theorem rootF_fuel : ∀ (f g : Nat) (l : List ByteArray), l.length ≤ f → l.length ≤ g → rootF f l = rootF g l
  | 0, g, l, hf, hg => by
    have h0 : l = [] := List.length_eq_zero_iff.1 (by omega)
    subst h0
    cases g with
    | zero => rfl
    | succ g => simp [rootF, leafOf]
  | f + 1, g, l, hf, hg => by
    by_cases h : l.length < 2
    · cases g with
      | zero =>
        have h0 : l = [] := List.length_eq_zero_iff.1 (by omega)
        subst h0
        simp [rootF, leafOf]
      | succ g => rw [rootF, rootF, if_pos h, if_pos h]
    · have hh := half_lt l.length (by omega)
      obtain ⟨k, rfl⟩ : ∃ k, g = k + 1 := ⟨g - 1, by omega⟩
      rw [rootF, rootF, if_neg h, if_neg h, rootF_fuel f k (l.take (half l.length)) (by simp; omega) (by simp; omega), rootF_fuel f k (l.drop (half l.length)) (by simp; omega) (by simp; omega)]
def rootB (l : List ByteArray) : ByteArray := rootF l.length l
theorem rootB_nil : rootB [] = noneB := rfl
theorem rootB_one (s : ByteArray) : rootB [s] = leafB s := rfl
theorem rootB_more (l : List ByteArray) (h : 2 ≤ l.length) : rootB l = nodeB (rootB (l.take (half l.length))) (rootB (l.drop (half l.length))) := by
  have hh := half_lt l.length h
  unfold rootB
  rw [rootF_fuel (l.take (half l.length)).length (l.length - 1) _ (Nat.le_refl _) (by simp; omega), rootF_fuel (l.drop (half l.length)).length (l.length - 1) _ (Nat.le_refl _) (by simp; omega)]
  obtain ⟨k, hk⟩ : ∃ k, l.length = k + 1 := ⟨l.length - 1, by omega⟩
  rw [show l.length - 1 = k from by omega]
  conv => lhs; rw [hk]
  rw [rootF, if_neg (by omega)]
theorem rootB_size (l : List ByteArray) : (rootB l).size = 32 := by
  by_cases h : l.length < 2
  · match l, h with
    | [], _ => rw [rootB_nil]; exact noneB_size
    | [s], _ => rw [rootB_one]; exact leafB_size s
  · rw [rootB_more l (by omega)]; exact nodeB_size _ _

def pathF : Nat → List ByteArray → Nat → List ByteArray
  | 0, _, _ => []
  | f + 1, l, i => if l.length < 2 then [] else if i < half l.length then pathF f (l.take (half l.length)) i ++ [rootB (l.drop (half l.length))] else pathF f (l.drop (half l.length)) (i - half l.length) ++ [rootB (l.take (half l.length))]
theorem pathF_fuel : ∀ (f g : Nat) (l : List ByteArray) (i : Nat), l.length ≤ f → l.length ≤ g → pathF f l i = pathF g l i
  | 0, g, l, i, hf, hg => by
    cases g with
    | zero => rfl
    | succ g => rw [pathF, pathF, if_pos (by omega)]
  | f + 1, g, l, i, hf, hg => by
    by_cases h : l.length < 2
    · cases g with
      | zero => rw [pathF, pathF, if_pos h]
      | succ g => rw [pathF, pathF, if_pos h, if_pos h]
    · have hh := half_lt l.length (by omega)
      obtain ⟨k, rfl⟩ : ∃ k, g = k + 1 := ⟨g - 1, by omega⟩
      rw [pathF, pathF, if_neg h, if_neg h, pathF_fuel f k (l.take (half l.length)) i (by simp; omega) (by simp; omega), pathF_fuel f k (l.drop (half l.length)) (i - half l.length) (by simp; omega) (by simp; omega)]
def pathB (l : List ByteArray) (i : Nat) : List ByteArray := pathF l.length l i
theorem pathB_few (l : List ByteArray) (i : Nat) (h : l.length < 2) : pathB l i = [] := by
  unfold pathB
  rw [pathF_fuel l.length (l.length + 1) l i (Nat.le_refl _) (by omega), pathF, if_pos h]
theorem pathB_left (l : List ByteArray) (i : Nat) (h : 2 ≤ l.length) (hi : i < half l.length) : pathB l i = pathB (l.take (half l.length)) i ++ [rootB (l.drop (half l.length))] := by
  have hh := half_lt l.length h
  unfold pathB
  rw [pathF_fuel l.length (l.length + 1) l i (Nat.le_refl _) (by omega), pathF, if_neg (by omega), if_pos hi, pathF_fuel l.length (l.take (half l.length)).length (l.take (half l.length)) i (by simp; omega) (Nat.le_refl _)]
theorem pathB_right (l : List ByteArray) (i : Nat) (h : 2 ≤ l.length) (hi : ¬ i < half l.length) : pathB l i = pathB (l.drop (half l.length)) (i - half l.length) ++ [rootB (l.take (half l.length))] := by
  have hh := half_lt l.length h
  unfold pathB
  rw [pathF_fuel l.length (l.length + 1) l i (Nat.le_refl _) (by omega), pathF, if_neg (by omega), if_neg hi, pathF_fuel l.length (l.drop (half l.length)).length (l.drop (half l.length)) (i - half l.length) (by simp) (Nat.le_refl _)]
theorem pathB_len : ∀ (n : Nat) (l : List ByteArray) (i : Nat), l.length ≤ n → (pathB l i).length ≤ n
  | 0, l, i, h => by rw [pathB_few l i (by omega)]; simp
  | n + 1, l, i, h => by
    by_cases h2 : l.length < 2
    · rw [pathB_few l i h2]; simp
    · have hh := half_lt l.length (by omega)
      by_cases hi : i < half l.length
      · rw [pathB_left l i (by omega) hi]
        have := pathB_len n (l.take (half l.length)) i (by simp; omega)
        simp; omega
      · rw [pathB_right l i (by omega) hi]
        have := pathB_len n (l.drop (half l.length)) (i - half l.length) (by simp; omega)
        simp; omega

def upF : Nat → ByteArray → Nat → Nat → List ByteArray → ByteArray × Bool
  | 0, leaf, _, _, path => (leaf, path.isEmpty)
  | f + 1, leaf, i, n, path => if n < 2 then (leaf, path.isEmpty) else (match path.getLast? with
    | none => (ByteArray.empty, false)
    | some x => if i < half n then (nodeB (upF f leaf i (half n) path.dropLast).1 x, (upF f leaf i (half n) path.dropLast).2) else (nodeB x (upF f leaf (i - half n) (n - half n) path.dropLast).1, (upF f leaf (i - half n) (n - half n) path.dropLast).2))
theorem upF_fuel : ∀ (f g : Nat) (leaf : ByteArray) (i n : Nat) (path : List ByteArray), n ≤ f → n ≤ g → upF f leaf i n path = upF g leaf i n path
  | 0, g, leaf, i, n, path, hf, hg => by
    cases g with
    | zero => rfl
    | succ g => rw [upF, upF, if_pos (by omega)]
  | f + 1, g, leaf, i, n, path, hf, hg => by
    by_cases h : n < 2
    · cases g with
      | zero => rw [upF, upF, if_pos h]
      | succ g => rw [upF, upF, if_pos h, if_pos h]
    · have hh := half_lt n (by omega)
      obtain ⟨k, rfl⟩ : ∃ k, g = k + 1 := ⟨g - 1, by omega⟩
      rw [upF, upF, if_neg h, if_neg h, upF_fuel f k leaf i (half n) path.dropLast (by omega) (by omega), upF_fuel f k leaf (i - half n) (n - half n) path.dropLast (by omega) (by omega)]
/-- The root over a path; whether the path has as many as it must. -/
def upB (leaf : ByteArray) (i n : Nat) (path : List ByteArray) : ByteArray × Bool := upF n leaf i n path
theorem upB_few (leaf : ByteArray) (i n : Nat) (path : List ByteArray) (h : n < 2) : upB leaf i n path = (leaf, path.isEmpty) := by
  unfold upB
  rw [upF_fuel n (n + 1) leaf i n path (Nat.le_refl _) (by omega), upF, if_pos h]
theorem upB_none (leaf : ByteArray) (i n : Nat) (h : 2 ≤ n) : upB leaf i n [] = (ByteArray.empty, false) := by
  unfold upB
  rw [upF_fuel n (n + 1) leaf i n [] (Nat.le_refl _) (by omega), upF, if_neg (by omega)]
  rfl
theorem upB_left (leaf : ByteArray) (i n : Nat) (p : List ByteArray) (x : ByteArray) (h : 2 ≤ n) (hi : i < half n) : upB leaf i n (p ++ [x]) = (nodeB (upB leaf i (half n) p).1 x, (upB leaf i (half n) p).2) := by
  have hh := half_lt n h
  unfold upB
  rw [upF_fuel n (n + 1) leaf i n (p ++ [x]) (Nat.le_refl _) (by omega), upF, if_neg (by omega), upF_fuel n (half n) leaf i (half n) (p ++ [x]).dropLast (by omega) (Nat.le_refl _)]
  simp [hi]
theorem upB_right (leaf : ByteArray) (i n : Nat) (p : List ByteArray) (x : ByteArray) (h : 2 ≤ n) (hi : ¬ i < half n) : upB leaf i n (p ++ [x]) = (nodeB x (upB leaf (i - half n) (n - half n) p).1, (upB leaf (i - half n) (n - half n) p).2) := by
  have hh := half_lt n h
  unfold upB
  rw [upF_fuel n (n + 1) leaf i n (p ++ [x]) (Nat.le_refl _) (by omega), upF, if_neg (by omega), upF_fuel n (n - half n) leaf (i - half n) (n - half n) (p ++ [x]).dropLast (by omega) (Nat.le_refl _)]
  simp [hi]
/-- Each text's path is right. -/
theorem up_path : ∀ (n : Nat) (l : List ByteArray) (i m : Nat) (s : ByteArray) (hm : l.length = m) (hl : l.length ≤ n) (hs : l[i]? = some s), upB (leafB s) i m (pathB l i) = (rootB l, true)
  | 0, l, i, m, s, hm, hl, hs => by
    have := (List.getElem?_eq_some_iff.1 hs).1
    omega
  | n + 1, l, i, m, s, hm, hl, hs => by
    have hi := (List.getElem?_eq_some_iff.1 hs).1
    subst hm
    by_cases h2 : l.length < 2
    · match l, h2, hi, hs with
      | [x], _, hi, hs =>
        have h0 : i = 0 := by simpa using hi
        subst h0
        have hx : x = s := by simpa using hs
        subst hx
        rw [upB_few _ _ _ _ (by simp), pathB_few _ _ (by simp), rootB_one]
        rfl
    · have hh := half_lt l.length (by omega)
      rw [rootB_more l (by omega)]
      by_cases hlt : i < half l.length
      · rw [pathB_left l i (by omega) hlt, upB_left _ _ _ _ _ (by omega) hlt]
        rw [up_path n (l.take (half l.length)) i (half l.length) s (by simp; omega) (by simp; omega) (by rw [List.getElem?_take_of_lt hlt]; exact hs)]
      · rw [pathB_right l i (by omega) hlt, upB_right _ _ _ _ _ (by omega) hlt]
        rw [up_path n (l.drop (half l.length)) (i - half l.length) (l.length - half l.length) s (by simp) (by simp; omega) (by rw [List.getElem?_drop, show half l.length + (i - half l.length) = i from by omega]; exact hs)]
/-- With one part more a path is not right. -/
theorem up_more : ∀ (n : Nat) (leaf : ByteArray) (i m : Nat) (p : List ByteArray) (x : ByteArray), m ≤ n → (upB leaf i m p).2 = true → ∀ q : List ByteArray, q.length = p.length + 1 → (upB leaf i m q).2 = false
  | 0, leaf, i, m, p, x, hm, h, q, hq => by
    rw [upB_few _ _ _ _ (by omega)]
    cases q with
    | nil => simp at hq
    | cons _ _ => rfl
  | n + 1, leaf, i, m, p, x, hm, h, q, hq => by
    by_cases h2 : m < 2
    · rw [upB_few _ _ _ _ h2]
      cases q with
      | nil => simp at hq
      | cons _ _ => rfl
    · have hh := half_lt m (by omega)
      rcases List.eq_nil_or_concat p with rfl | ⟨p', y, rfl⟩
      · rw [upB_none _ _ _ (by omega)] at h; cases h
      · rcases List.eq_nil_or_concat q with rfl | ⟨q', z, rfl⟩
        · simp at hq
        · rw [List.concat_eq_append] at *
          have hq' : q'.length = p'.length + 1 := by simp at hq; omega
          by_cases hlt : i < half m
          · rw [upB_left _ _ _ _ _ (by omega) hlt] at h ⊢
            exact up_more n leaf i (half m) p' x (by omega) h q' hq'
          · rw [upB_right _ _ _ _ _ (by omega) hlt] at h ⊢
            exact up_more n leaf (i - half m) (m - half m) p' x (by omega) h q' hq'
/-- What PathOf answers. -/
def pathOfB (l : List ByteArray) (i : Int) : List ByteArray := if l.length ≤ 64 ∧ 0 ≤ i ∧ i < l.length then pathB l i.toNat else []
/-- Whether s is told to be the i-th of n. -/
def checkB (s : ByteArray) (i n : Int) (path : List ByteArray) (root : ByteArray) : Bool :=
  decide (1 ≤ n ∧ n ≤ 64 ∧ 0 ≤ i ∧ i ≤ n - 1) && ((upB (leafB s) i.toNat n.toNat path).2 && decide ((upB (leafB s) i.toNat n.toNat path).1 = root))
theorem checkB_no (s : ByteArray) (i n : Int) (path : List ByteArray) (root : ByteArray) (h : ¬ (1 ≤ n ∧ n ≤ 64 ∧ 0 ≤ i ∧ i ≤ n - 1)) : checkB s i n path root = false := by
  unfold checkB; rw [decide_eq_false h, Bool.false_and]
theorem checkB_in (s : ByteArray) (i n : Nat) (path : List ByteArray) (root : ByteArray) (h : 1 ≤ n ∧ n ≤ 64 ∧ i + 1 ≤ n) : checkB s (i : Int) (n : Int) path root = ((upB (leafB s) i n path).2 && decide ((upB (leafB s) i n path).1 = root)) := by
  unfold checkB
  rw [decide_eq_true (by omega), Bool.true_and]
  rfl
end Go.Proofs.YtdelegamcebflaaDoor
