/- The steps from a text to the root, over plain lists: which parts they name, and that a path is what they make. -/
import Derived.Test.YtdelegamcebflaaDoorMerkPure
namespace Go.Proofs.YtdelegamcebflaaDoor
open Go.RowKit
set_option linter.unusedVariables false

/-- A step: the other part reaches from .1 up to .2.1; whether it lies ahead. -/
abbrev Side (n : Nat) := { x : Nat × Nat × Bool // x.1 < x.2.1 ∧ x.2.1 ≤ n }
def sidesF (n : Nat) : Nat → (i a m : Nat) → a + m ≤ n → List (Side n)
  | 0, _, _, _, _ => []
  | f + 1, i, a, m, h =>
    if h2 : m < 2 then []
    else if i < a + half m then sidesF n f i a (half m) (by have := half_lt m (by omega); omega) ++ [⟨(a + half m, a + m, false), by have := half_lt m (by omega); exact ⟨by show a + half m < a + m; omega, h⟩⟩]
    else sidesF n f i (a + half m) (m - half m) (by have := half_lt m (by omega); omega) ++ [⟨(a, a + half m, true), by have := half_lt m (by omega); exact ⟨by show a < a + half m; omega, by show a + half m ≤ n; omega⟩⟩]
theorem sidesF_fuel (n : Nat) : ∀ (f g i a m : Nat) (h : a + m ≤ n), m ≤ f → m ≤ g → sidesF n f i a m h = sidesF n g i a m h
  | 0, g, i, a, m, h, hf, hg => by
    cases g with
    | zero => rfl
    | succ g => rw [sidesF, sidesF, dif_pos (by omega)]
  | f + 1, g, i, a, m, h, hf, hg => by
    by_cases h2 : m < 2
    · cases g with
      | zero => rw [sidesF, sidesF, dif_pos h2]
      | succ g => rw [sidesF, sidesF, dif_pos h2, dif_pos h2]
    · have hh := half_lt m (by omega)
      obtain ⟨k, rfl⟩ : ∃ k, g = k + 1 := ⟨g - 1, by omega⟩
      rw [sidesF, sidesF, dif_neg h2, dif_neg h2, sidesF_fuel n f k i a (half m) (by omega) (by omega) (by omega), sidesF_fuel n f k i (a + half m) (m - half m) (by omega) (by omega) (by omega)]
def sidesS (n i a m : Nat) (h : a + m ≤ n) : List (Side n) := sidesF n m i a m h
theorem sidesS_few (n i a m : Nat) (h : a + m ≤ n) (h2 : m < 2) : sidesS n i a m h = [] := by
  unfold sidesS
  rw [sidesF_fuel n m (m + 1) i a m h (Nat.le_refl _) (by omega), sidesF, dif_pos h2]
theorem sidesS_left (n i a m : Nat) (h : a + m ≤ n) (h2 : 2 ≤ m) (hi : i < a + half m) : sidesS n i a m h = sidesS n i a (half m) (by have := half_lt m h2; omega) ++ [⟨(a + half m, a + m, false), by have := half_lt m h2; exact ⟨by show a + half m < a + m; omega, h⟩⟩] := by
  have hh := half_lt m h2
  unfold sidesS
  rw [sidesF_fuel n m (m + 1) i a m h (Nat.le_refl _) (by omega), sidesF, dif_neg (by omega), if_pos hi, sidesF_fuel n m (half m) i a (half m) (by omega) (by omega) (Nat.le_refl _)]
theorem sidesS_right (n i a m : Nat) (h : a + m ≤ n) (h2 : 2 ≤ m) (hi : ¬ i < a + half m) : sidesS n i a m h = sidesS n i (a + half m) (m - half m) (by have := half_lt m h2; omega) ++ [⟨(a, a + half m, true), by have := half_lt m h2; exact ⟨by show a < a + half m; omega, by show a + half m ≤ n; omega⟩⟩] := by
  have hh := half_lt m h2
  unfold sidesS
  rw [sidesF_fuel n m (m + 1) i a m h (Nat.le_refl _) (by omega), sidesF, dif_neg (by omega), if_neg hi, sidesF_fuel n m (m - half m) i (a + half m) (m - half m) (by omega) (by omega) (Nat.le_refl _)]

theorem sidesS_len : ∀ (f n i a m : Nat) (h : a + m ≤ n), m ≤ f → (sidesS n i a m h).length ≤ m
  | 0, n, i, a, m, h, hf => by rw [sidesS_few n i a m h (by omega)]; simp
  | f + 1, n, i, a, m, h, hf => by
    by_cases h2 : m < 2
    · rw [sidesS_few n i a m h h2]; simp
    · have hh := half_lt m (by omega)
      by_cases hi : i < a + half m
      · rw [sidesS_left n i a m h (by omega) hi]
        have := sidesS_len f n i a (half m) (by omega) (by omega)
        simp; omega
      · rw [sidesS_right n i a m h (by omega) hi]
        have := sidesS_len f n i (a + half m) (m - half m) (by omega) (by omega)
        simp; omega

/-- The part that a step names. -/
def partOf {n : Nat} (l : List ByteArray) (x : Side n) : List ByteArray := (l.drop x.1.1).take (x.1.2.1 - x.1.1)

theorem path_sides : ∀ (f : Nat) (l : List ByteArray) (i a m : Nat) (h : a + m ≤ l.length), m ≤ f → a ≤ i → i < a + m →
    pathB ((l.drop a).take m) (i - a) = (sidesS l.length i a m h).map (fun x => rootB (partOf l x))
  | 0, l, i, a, m, h, hf, hi0, hi1 => by omega
  | f + 1, l, i, a, m, h, hf, hi0, hi1 => by
    have hlen : ((l.drop a).take m).length = m := by simp; omega
    by_cases h2 : m < 2
    · rw [sidesS_few _ _ _ _ _ h2, pathB_few _ _ (by omega)]; rfl
    · have hh := half_lt m (by omega)
      have e1 : ((l.drop a).take m).take (half m) = (l.drop a).take (half m) := by rw [List.take_take]; congr 1; omega
      have e2 : ((l.drop a).take m).drop (half m) = (l.drop (a + half m)).take (m - half m) := by rw [List.drop_take, List.drop_drop]
      by_cases hi : i < a + half m
      · rw [sidesS_left _ _ _ _ _ (by omega) hi, pathB_left _ _ (by omega) (by rw [hlen]; omega), hlen, e1, e2, List.map_append, ← path_sides f l i a (half m) (by omega) (by omega) hi0 hi]
        simp [partOf, show a + m - (a + half m) = m - half m from by omega]
      · rw [sidesS_right _ _ _ _ _ (by omega) hi, pathB_right _ _ (by omega) (by rw [hlen]; omega), hlen, e1, e2, List.map_append, ← path_sides f l i (a + half m) (m - half m) (by omega) (by omega) (by omega) (by omega)]
        simp [partOf, show i - a - half m = i - (a + half m) from by omega]

theorem path_all (l : List ByteArray) (i : Nat) (h : i < l.length) : pathB l i = (sidesS l.length i 0 l.length (by omega)).map (fun x => rootB (partOf l x)) := by
  have := path_sides l.length l i 0 l.length (by omega) (Nat.le_refl _) (Nat.zero_le _) (by omega)
  simpa using this

/-- One step up. -/
def stepB {n : Nat} (sum : ByteArray) (x : Side n) (p : ByteArray) : ByteArray := if x.1.2.2 then nodeB p sum else nodeB sum p
theorem stepB_size {n : Nat} (sum : ByteArray) (x : Side n) (p : ByteArray) : (stepB sum x p).size = 32 := by unfold stepB; split <;> exact nodeB_size _ _
/-- What the first steps make of a leaf, with the parts of a path. -/
def foldB {n : Nat} (leaf : ByteArray) (xs : List (Side n)) (path : List ByteArray) : ByteArray := (xs.zip path).foldl (fun s q => stepB s q.1 q.2) leaf
theorem foldB_nil {n : Nat} (leaf : ByteArray) (path : List ByteArray) : foldB leaf ([] : List (Side n)) path = leaf := rfl
theorem foldB_snoc {n : Nat} (leaf : ByteArray) (pre : List (Side n)) (x : Side n) (path : List ByteArray) (h : pre.length < path.length) : foldB leaf (pre ++ [x]) (path.take (pre.length + 1)) = stepB (foldB leaf pre (path.take pre.length)) x path[pre.length] := by
  unfold foldB
  rw [List.take_succ_eq_append_getElem h, List.zip_append (by simp; omega)]
  simp
theorem foldB_size {n : Nat} (leaf : ByteArray) (hl : leaf.size = 32) (pre : List (Side n)) (path : List ByteArray) : (foldB leaf pre path).size = 32 := by
  unfold foldB
  generalize pre.zip path = z
  induction z generalizing leaf with
  | nil => exact hl
  | cons q t ih => exact ih _ (stepB_size _ _ _)

theorem up_sides : ∀ (f n : Nat) (leaf : ByteArray) (i a m : Nat) (h : a + m ≤ n) (path : List ByteArray), m ≤ f → a ≤ i →
    (path.length = (sidesS n i a m h).length → upB leaf (i - a) m path = (foldB leaf (sidesS n i a m h) path, true)) ∧ (path.length ≠ (sidesS n i a m h).length → (upB leaf (i - a) m path).2 = false)
  | 0, n, leaf, i, a, m, h, path, hf, hi0 => by
    rw [sidesS_few _ _ _ _ _ (by omega), upB_few _ _ _ _ (by omega)]
    cases path with
    | nil => exact ⟨fun _ => rfl, fun h => absurd rfl h⟩
    | cons _ _ => exact ⟨fun h => by simp at h, fun _ => rfl⟩
  | f + 1, n, leaf, i, a, m, h, path, hf, hi0 => by
    by_cases h2 : m < 2
    · rw [sidesS_few _ _ _ _ _ h2, upB_few _ _ _ _ h2]
      cases path with
      | nil => exact ⟨fun _ => rfl, fun h => absurd rfl h⟩
      | cons _ _ => exact ⟨fun h => by simp at h, fun _ => rfl⟩
    · have hh := half_lt m (by omega)
      rcases List.eq_nil_or_concat path with rfl | ⟨p, y, rfl⟩
      · rw [upB_none _ _ _ (by omega)]
        refine ⟨fun hl => ?_, fun _ => rfl⟩
        by_cases hi : i < a + half m
        · rw [sidesS_left _ _ _ _ _ (by omega) hi] at hl; simp at hl
        · rw [sidesS_right _ _ _ _ _ (by omega) hi] at hl; simp at hl
      · rw [List.concat_eq_append]
        by_cases hi : i < a + half m
        · have ih := up_sides f n leaf i a (half m) (by omega) p (by omega) hi0
          rw [sidesS_left _ _ _ _ _ (by omega) hi, upB_left _ _ _ _ _ (by omega) (by omega)]
          refine ⟨fun hl => ?_, fun hl => ih.2 (by simpa using hl)⟩
          have hl' : p.length = (sidesS n i a (half m) (by omega)).length := by simpa using hl
          rw [ih.1 hl']
          simp [foldB, List.zip_append hl'.symm, stepB]
        · have ih := up_sides f n leaf i (a + half m) (m - half m) (by omega) p (by omega) (by omega)
          rw [sidesS_right _ _ _ _ _ (by omega) hi, upB_right _ _ _ _ _ (by omega) (by omega), show i - a - half m = i - (a + half m) from by omega]
          refine ⟨fun hl => ?_, fun hl => ih.2 (by simpa using hl)⟩
          have hl' : p.length = (sidesS n i (a + half m) (m - half m) (by omega)).length := by simpa using hl
          rw [ih.1 hl']
          simp [foldB, List.zip_append hl'.symm, stepB]

theorem up_all (n : Nat) (leaf : ByteArray) (i : Nat) (path : List ByteArray) :
    (path.length = (sidesS n i 0 n (by omega)).length → upB leaf i n path = (foldB leaf (sidesS n i 0 n (by omega)) path, true)) ∧ (path.length ≠ (sidesS n i 0 n (by omega)).length → (upB leaf i n path).2 = false) :=
  up_sides n n leaf i 0 n (by omega) path (Nat.le_refl _) (Nat.zero_le _)

/-- Where less than all steps have a part, the path has not as many as it must. -/
theorem up_short (n : Nat) (leaf : ByteArray) (i : Nat) (path : List ByteArray) (pre : List (Side n)) (hp : pre <+: sidesS n i 0 n (by omega)) (h : path.length < pre.length) : (upB leaf i n path).2 = false :=
  (up_all n leaf i path).2 (by have := hp.length_le; omega)
end Go.Proofs.YtdelegamcebflaaDoor
