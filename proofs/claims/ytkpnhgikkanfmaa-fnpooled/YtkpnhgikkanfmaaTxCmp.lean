/- cmp.Compare of texts and of numbers, cmp.Or of numbers; by them, which order is less. -/
import Derived.Test.YtkpnhgikkanfmaaTxTwo
namespace Go.Proofs.Ytkpnhgikkanfmaa
open Go.RowKit
set_option linter.unusedVariables false

def cmpI (x y : Int) : Int := if x < y then -1 else if y < x then 1 else 0
def cmpS (x y : ByteArray) : Int := if Op.bytesLess x.toList y.toList = true then -1 else if x = y then 0 else 1
/-- The first that is not 0. -/
def orL : List Int → Int
  | [] => 0
  | x :: t => if x = 0 then orL t else x

theorem cmpI_lt (x y : Int) : decide (cmpI x y < 0) = decide (x < y) := by
  unfold cmpI
  by_cases h : x < y
  · simp [h]
  · rw [if_neg h]; split <;> simp [h]
theorem cmpI_eq (x y : Int) : cmpI x y = 0 ↔ x = y := by
  unfold cmpI
  by_cases h : x < y
  · rw [if_pos h]; omega
  · rw [if_neg h]
    by_cases h' : y < x
    · rw [if_pos h']; omega
    · rw [if_neg h']; omega
theorem less_ir5 (s : ByteArray) : Op.bytesLess s.toList s.toList = false := by
  cases h : Op.bytesLess s.toList s.toList
  · rfl
  · rw [less_as5 s s h] at h; cases h
theorem cmpS_lt (x y : ByteArray) : decide (cmpS x y < 0) = Op.bytesLess x.toList y.toList := by
  unfold cmpS
  cases h : Op.bytesLess x.toList y.toList
  · simp only [Bool.false_eq_true, if_false]; split <;> simp
  · simp
theorem cmpS_eq (x y : ByteArray) : cmpS x y = 0 ↔ x = y := by
  constructor
  · intro h
    by_cases e : x = y
    · exact e
    · unfold cmpS at h
      rw [if_neg e] at h
      cases h1 : Op.bytesLess x.toList y.toList
      · rw [h1] at h; simp at h
      · rw [h1] at h; simp at h
  · intro e
    subst e
    unfold cmpS
    rw [less_ir5, if_pos rfl]; rfl
theorem orL_z {x : Int} {t : List Int} (h : x = 0) : orL (x :: t) = orL t := if_pos h
theorem orL_n {x : Int} {t : List Int} (h : x ≠ 0) : orL (x :: t) = x := if_neg h
theorem lessT_or (k1 k2 m1 m2 n1 n2 : Int) (f1 f2 t1 t2 : ByteArray) : lessT (k1, f1, t1, m1, n1) (k2, f2, t2, m2, n2) = decide (orL [cmpS f1 f2, cmpI n1 n2, cmpI k1 k2, cmpS t1 t2, cmpI m1 m2] < 0) := by
  simp only [lessT]
  by_cases h1 : f1 = f2
  · rw [if_neg (by simp [h1]), orL_z ((cmpS_eq _ _).2 h1)]
    by_cases h2 : n1 = n2
    · rw [if_neg (by simp [h2]), orL_z ((cmpI_eq _ _).2 h2)]
      by_cases h3 : k1 = k2
      · rw [if_neg (by simp [h3]), orL_z ((cmpI_eq _ _).2 h3)]
        by_cases h4 : t1 = t2
        · rw [if_neg (by simp [h4]), orL_z ((cmpS_eq _ _).2 h4)]
          by_cases h5 : m1 = m2
          · rw [orL_z ((cmpI_eq _ _).2 h5)]; simp [h5, orL]
          · rw [orL_n (fun h => h5 ((cmpI_eq _ _).1 h)), cmpI_lt]
        · rw [if_pos h4, orL_n (fun h => h4 ((cmpS_eq _ _).1 h)), cmpS_lt]
      · rw [if_pos h3, orL_n (fun h => h3 ((cmpI_eq _ _).1 h)), cmpI_lt]
    · rw [if_pos h2, orL_n (fun h => h2 ((cmpI_eq _ _).1 h)), cmpI_lt]
  · rw [if_pos h1, orL_n (fun h => h1 ((cmpS_eq _ _).1 h)), cmpS_lt]

theorem nanS_any (x : ByteArray) (w : World) : Calls Try.prog 129 #[.string x] w fun e w' => e = .returned (.bool false) ∧ w' = w := by
  go_enter Try.func129, Try.ntmps129
  go_wp2
  go_ret
  exact ⟨by simp, rfl⟩
theorem nanI_any (x : Int) (w : World) : Calls Try.prog 130 #[.int .i64 x] w fun e w' => e = .returned (.bool false) ∧ w' = w := by
  go_enter Try.func130, Try.ntmps130
  go_wp2
  go_ret
  exact ⟨by simp, rfl⟩
set_option maxRecDepth 20000 in
theorem cmpS_any (x y : ByteArray) (w : World) : Calls Try.prog 99 #[.string x, .string y] w fun e w' => e = .returned (.int .i64 (cmpS x y)) ∧ w' = w := by
  have Hd : Hid (cmpS x y = if Op.bytesLess x.toList y.toList = true then -1 else if x = y then 0 else 1) := hide rfl
  generalize cmpS x y = X at Hd
  cases h1 : Op.bytesLess x.toList y.toList
  · rw [h1] at Hd
    simp only [Bool.false_eq_true, if_false] at Hd
    by_cases h2 : x = y
    · rw [if_pos h2] at Hd
      subst h2
      go_enter Try.func99, Try.ntmps99
      go_wp2_with (go_at_call 129; refine (nanS_any _ _).mono ?_; rintro e w ⟨rfl, rfl⟩)
      go_ret
      exact ⟨ret_int Hd.out.symm, rfl⟩
    · rw [if_neg h2] at Hd
      have hq := bytes_ne h2
      clear h2
      go_enter Try.func99, Try.ntmps99
      go_wp2_with (go_at_call 129; refine (nanS_any _ _).mono ?_; rintro e w ⟨rfl, rfl⟩)
      go_ret
      exact ⟨ret_int Hd.out.symm, rfl⟩
  · rw [h1] at Hd
    simp only [if_true] at Hd
    go_enter Try.func99, Try.ntmps99
    go_wp2_with (go_at_call 129; refine (nanS_any _ _).mono ?_; rintro e w ⟨rfl, rfl⟩)
    go_ret
    exact ⟨ret_int Hd.out.symm, rfl⟩
set_option maxRecDepth 20000 in
theorem cmpI_any (x y : Int) (w : World) : Calls Try.prog 100 #[.int .i64 x, .int .i64 y] w fun e w' => e = .returned (.int .i64 (cmpI x y)) ∧ w' = w := by
  have Hd : Hid (cmpI x y = if x < y then -1 else if y < x then 1 else 0) := hide rfl
  generalize cmpI x y = X at Hd
  by_cases h1 : x < y
  · rw [if_pos h1] at Hd
    go_enter Try.func100, Try.ntmps100
    go_wp2_with (go_at_call 130; refine (nanI_any _ _).mono ?_; rintro e w ⟨rfl, rfl⟩)
    go_ret
    exact ⟨ret_int Hd.out.symm, rfl⟩
  · rw [if_neg h1] at Hd
    by_cases h2 : y < x
    · rw [if_pos h2] at Hd
      go_enter Try.func100, Try.ntmps100
      go_wp2_with (go_at_call 130; refine (nanI_any _ _).mono ?_; rintro e w ⟨rfl, rfl⟩)
      go_ret
      exact ⟨ret_int Hd.out.symm, rfl⟩
    · rw [if_neg h2] at Hd
      go_enter Try.func100, Try.ntmps100
      go_wp2_with (go_at_call 130; refine (nanI_any _ _).mono ?_; rintro e w ⟨rfl, rfl⟩)
      go_ret
      exact ⟨ret_int Hd.out.symm, rfl⟩
set_option maxRecDepth 20000 in
theorem orI_any (ns : List Int) (g off cap : Nat) (w : World) (hc : ∀ i (h : i < ns.length), w.cell? ⟨g, off + i, none⟩ = some (.int .i64 ns[i])) (hn : ns.length ≤ 1000) :
    Calls Try.prog 98 #[.slice (some ⟨g, off, none⟩) ns.length cap] w fun e w' => e = .returned (.int .i64 (orL ns)) ∧ w' = w := by
  have Hc := hide hc
  clear hc
  go_enter Try.func98, Try.ntmps98
  go_wp2
  go_loopw [8] (fun iv wr => ∃ k : Nat, k ≤ ns.length ∧ iv = .int .i64 (k : Int) ∧ orL ns = orL (ns.drop k) ∧ wr = w) (fun iv _ => ns.length - (intOf iv).toNat)
  case atStart => exact ⟨0, by omega, rfl, rfl, rfl⟩
  case round =>
    obtain ⟨k, hk, rfl, ho, rfl⟩ := hrel
    by_cases hlt : k < ns.length
    · have hcr := Hc.out k hlt
      have he : orL (ns.drop k) = if ns[k] = 0 then orL (ns.drop (k + 1)) else ns[k] := by
        rw [List.drop_eq_getElem_cons hlt]; rfl
      rw [he] at ho
      have Ho := hide ho
      clear ho he
      generalize ns[k] = x at hcr Ho
      by_cases hx : x = 0
      · rw [if_pos hx] at Ho
        subst hx
        go_wp2
        go_roundw
        case rel => exact ⟨k + 1, by omega, by go_num, Ho.out, by first | rfl | trivial⟩
        case measure => simp [intOf]; omega
      · rw [if_neg hx] at Ho
        have hq : (x != 0) = true := by rw [bne_iff_ne]; exact hx
        clear hx
        go_wp2
        go_ret
        exact ⟨ret_int Ho.out.symm, rfl⟩
    · have Hz : Hid (orL ns = 0) := hide (by rw [ho, List.drop_eq_nil_of_le (by omega)]; rfl)
      clear ho
      go_wp2
      go_ret
      exact ⟨ret_int Hz.out.symm, rfl⟩
end Go.Proofs.Ytkpnhgikkanfmaa
