/- What is a name: the two functions NameOk (the program's and the model's) answer alike at every text. Orders by value: made, held against another, their size; what is right, which is less (plain). -/
import Derived.Test.YtbbkeebfginlfaaGreatDoorZgIn
namespace Go.Proofs.YtbbkeebfginlfaaGreatDoor
open Go.RowKit
set_option linter.unusedVariables false

def nbB (x : Int) : Bool := inB x 97 122 || inB x 48 57
def nmB (s : ByteArray) : Bool := s.data.toList.all (fun c => nbB (c.toNat : Int)) && inB s.size 1 8

theorem take_snoc (s : ByteArray) (k : Nat) (h : k < s.size) : s.data.toList.take (k + 1) = s.data.toList.take k ++ [s[k]] := by
  rw [List.take_succ_eq_append_getElem (by simpa using h)]; rfl

theorem all_snoc (s : ByteArray) (k : Nat) (h : k < s.size) (p : UInt8 → Bool) (h1 : (s.data.toList.take k).all p = true) (h2 : p s[k] = true) : (s.data.toList.take (k + 1)).all p = true := by
  rw [take_snoc s k h, List.all_append, h1]; simp [h2]

theorem all_not (s : ByteArray) (k : Nat) (h : k < s.size) (p : UInt8 → Bool) (h2 : p s[k] = false) : s.data.toList.all p = false := by
  rw [Bool.eq_false_iff]; intro ha
  rw [List.all_eq_true] at ha
  have := ha s[k] (by simp [ByteArray.getElem_eq_getElem_data])
  rw [h2] at this; cases this

theorem all_whole (s : ByteArray) (p : UInt8 → Bool) (h : (s.data.toList.take s.size).all p = true) : s.data.toList.all p = true := by
  rwa [List.take_of_length_le (by simp)] at h

theorem isNameByte_any (x : Int) (w : World) :
    Calls Tryz.prog 104 #[.int .u8 x] w fun e w' => e = .returned (.bool (nbB x)) ∧ w' = w := by
  rcases (show (97 ≤ x ∧ x ≤ 122) ∨ (122 < x) ∨ (57 < x ∧ x < 97) ∨ (48 ≤ x ∧ x ≤ 57) ∨ x < 48 from by omega) with h | h | h | h | h
  all_goals
    have e : Hid (nbB x = decide ((97 ≤ x ∧ x ≤ 122) ∨ (48 ≤ x ∧ x ≤ 57))) := hide (by simp only [nbB, inB, Bool.or_eq_decide]; simp)
    go_enter Tryz.func104, Tryz.ntmps104
    go_wp2
    go_ret
    exact ⟨ret_bool (by rw [e.out, Bool.eq_iff_iff]; simp only [Bool.or_eq_true, decide_eq_true_eq, Bool.false_eq_true, true_iff, false_iff]; omega), rfl⟩

set_option maxHeartbeats 400000 in
theorem specNameOk_any (s : ByteArray) (w : World) (hs : s.size ≤ maxLen) :
    Calls Tryz.prog 63 #[.string s] w fun e w' => e = .returned (.bool (nmB s)) ∧ w' = w := by
  unfold maxLen at hs
  go_enter Tryz.func63, Tryz.ntmps63
  go_wp2
  go_loop [3] (fun i => ∃ k : Nat, k ≤ s.size ∧ i = .int .i64 k ∧ (s.data.toList.take k).all (fun c => nbB (c.toNat : Int)) = true) (fun i => s.size - (intOf i).toNat)
  case atStart => exact ⟨0, Nat.zero_le _, rfl, rfl⟩
  case round =>
    obtain ⟨k, hk, rfl, hall⟩ := hrel
    by_cases hlt : k < s.size
    · have Hall := hide hall
      clear hall
      have hb : (s[k].toNat : Int) < 256 := by have := s[k].toNat_lt; omega
      cases h1 : inB (s[k].toNat : Int) 97 122
      · cases h2 : inB (s[k].toNat : Int) 48 57
        · have hf : Hid (nmB s = false) := hide (by unfold nmB; rw [all_not s k hlt _ (by simp only [nbB, h1, h2]; rfl)]; rfl)
          go_wp2_with (go_at_call 61; refine (l1In_any _ _ _ _).mono ?_; rintro e w' ⟨rfl, rfl⟩)
          go_ret
          rw [hf.out]; exact ⟨rfl, rfl⟩
        · have hn : Hid (nbB (s[k].toNat : Int) = true) := hide (by simp [nbB, h1, h2])
          go_wp2_with (go_at_call 61; refine (l1In_any _ _ _ _).mono ?_; rintro e w' ⟨rfl, rfl⟩)
          go_round
          case rel => exact ⟨k + 1, by omega, by go_num, all_snoc s k hlt _ Hall.out hn.out⟩
          case measure => simp [intOf]; omega
      · have hn : Hid (nbB (s[k].toNat : Int) = true) := hide (by simp [nbB, h1])
        go_wp2_with (go_at_call 61; refine (l1In_any _ _ _ _).mono ?_; rintro e w' ⟨rfl, rfl⟩)
        go_round
        case rel => exact ⟨k + 1, by omega, by go_num, all_snoc s k hlt _ Hall.out hn.out⟩
        case measure => simp [intOf]; omega
    · have hf : Hid (nmB s = inB s.size 1 8) := hide (by
        have : k = s.size := by omega
        subst this
        unfold nmB; rw [all_whole s _ hall]; rfl)
      clear hall
      go_wp2_with (go_at_call 61; refine (l1In_any _ _ _ _).mono ?_; rintro e w' ⟨rfl, rfl⟩)
      go_ret
      rw [hf.out]; exact ⟨rfl, rfl⟩

set_option maxHeartbeats 400000 in
theorem implNameOk_any (s : ByteArray) (w : World) (hs : s.size ≤ maxLen) :
    Calls Tryz.prog 95 #[.string s] w fun e w' => e = .returned (.bool (nmB s)) ∧ w' = w := by
  unfold maxLen at hs
  rcases (show s.size < 1 ∨ 8 < s.size ∨ (1 ≤ s.size ∧ s.size ≤ 8) from by omega) with h | h | h
  · have hf : Hid (nmB s = false) := hide (by unfold nmB inB; rw [decide_eq_false (by omega)]; simp)
    go_enter Tryz.func95, Tryz.ntmps95
    go_wp2
    go_ret
    rw [hf.out]; exact ⟨rfl, rfl⟩
  · have hf : Hid (nmB s = false) := hide (by unfold nmB inB; rw [decide_eq_false (by omega)]; simp)
    have h' : ¬ s.size < 1 := by omega
    go_enter Tryz.func95, Tryz.ntmps95
    go_wp2
    go_ret
    rw [hf.out]; exact ⟨rfl, rfl⟩
  · have hin : inB s.size 1 8 = true := by unfold inB; rw [decide_eq_true (by omega)]
    have Hin := hide hin
    clear hin
    go_enter Tryz.func95, Tryz.ntmps95
    go_wp2
    go_loop [14] (fun i => ∃ k : Nat, k ≤ s.size ∧ i = .int .i64 k ∧ (s.data.toList.take k).all (fun c => nbB (c.toNat : Int)) = true) (fun i => s.size - (intOf i).toNat)
    case atStart => exact ⟨0, Nat.zero_le _, rfl, rfl⟩
    case round =>
      obtain ⟨k, hk, rfl, hall⟩ := hrel
      by_cases hlt : k < s.size
      · have Hall := hide hall
        clear hall
        cases h1 : nbB (s[k].toNat : Int)
        · have hf : Hid (nmB s = false) := hide (by unfold nmB; rw [all_not s k hlt _ h1]; rfl)
          go_wp2_with (go_at_call 104; refine (isNameByte_any _ _).mono ?_; rintro e w' ⟨rfl, rfl⟩)
          go_ret
          rw [hf.out]; exact ⟨rfl, rfl⟩
        · have hn := hide h1
          go_wp2_with (go_at_call 104; refine (isNameByte_any _ _).mono ?_; rintro e w' ⟨rfl, rfl⟩)
          go_round
          case rel => exact ⟨k + 1, by omega, by go_num, all_snoc s k hlt _ Hall.out hn.out⟩
          case measure => simp [intOf]; omega
      · have hf : Hid (nmB s = true) := hide (by
          have : k = s.size := by omega
          subst this
          unfold nmB; rw [all_whole s _ hall, Hin.out]; rfl)
        clear hall
        go_wp2
        go_ret
        rw [hf.out]; exact ⟨rfl, rfl⟩
end Go.Proofs.YtbbkeebfginlfaaGreatDoor

namespace Go.Proofs.YtbbkeebfginlfaaGreatDoor
open Go.RowKit
set_option linter.unusedVariables false

/-- An order: its kind, from whom, to whom, how much, which one. -/
abbrev Tx5 := Int × ByteArray × ByteArray × Int × Int
def txV (t : Tx5) : Value := .agg #[.int .i64 t.1, .string t.2.1, .string t.2.2.1, .int .i64 t.2.2.2.1, .int .i64 t.2.2.2.2]
/-- Whether it is right. -/
def txB (t : Tx5) : Bool := nmB t.2.1 && (inB t.2.2.2.1 1 1000000 && (inB t.2.2.2.2 0 10000 && (if t.1 = 1 then nmB t.2.2.1 else (inB t.1 2 3 && decide (t.2.2.1 = ByteArray.empty)))))
/-- Whether one is less than another. -/
def lessT (a b : Tx5) : Bool :=
  if a.2.1 ≠ b.2.1 then Op.bytesLess a.2.1.toList b.2.1.toList
  else if a.2.2.2.2 ≠ b.2.2.2.2 then decide (a.2.2.2.2 < b.2.2.2.2)
  else if a.1 ≠ b.1 then decide (a.1 < b.1)
  else if a.2.2.1 ≠ b.2.2.1 then Op.bytesLess a.2.2.1.toList b.2.2.1.toList
  else decide (a.2.2.2.1 < b.2.2.2.1)

set_option maxRecDepth 20000 in
theorem toTx_any (t : Tx5) (w : World) : Calls Tryz.prog 25 #[txV t] w fun e w' => e = .returned (txV t) ∧ Below w.heap.size w w' := by
  obtain ⟨k, f, to, am, no⟩ := t
  simp only [txV]
  go_enter Tryz.func25, Tryz.ntmps25
  go_wp2
  refine bodyPost_ret (v := .agg #[.int .i64 k, .string f, .string to, .int .i64 am, .int .i64 no]) (by simp [results, Tryz.f25, go_sem]) rfl ?_
  exact ⟨rfl, ((((Below.refl _ w).alloc (Nat.le_refl _) _).alloc (by simp) _).alloc (by simp; omega) _)⟩
set_option maxRecDepth 20000 in
set_option maxHeartbeats 1000000 in
theorem eqTx_any (a b : Tx5) (w : World) : Calls Tryz.prog 28 #[txV a, txV b] w fun e w' => e = .returned (.bool (decide (a = b))) ∧ Below w.heap.size w w' := by
  obtain ⟨k1, f1, t1, m1, n1⟩ := a
  obtain ⟨k2, f2, t2, m2, n2⟩ := b
  simp only [txV]
  have HB := hide (((Below.refl _ w).alloc (Nat.le_refl _) (.cells #[.int .i64 k1, .string f1, .string t1, .int .i64 m1, .int .i64 n1] 48)).alloc (by simp) (.cells #[.int .i64 k2, .string f2, .string t2, .int .i64 m2, .int .i64 n2] 48))
  by_cases h1 : k1 = k2
  · by_cases h2 : f1 = f2
    · by_cases h3 : t1 = t2
      · by_cases h4 : m1 = m2
        · by_cases h5 : n1 = n2
          · subst h1 h2 h3 h4 h5
            have Hd : Hid (decide (((k1, f1, t1, m1, n1) : Tx5) = (k1, f1, t1, m1, n1)) = true) := hide (by simp)
            go_enter Tryz.func28, Tryz.ntmps28
            go_wp2
            go_ret
            exact ⟨ret_bool Hd.out.symm, HB.out⟩
          · subst h1 h2 h3 h4
            have Hd : Hid (decide (((k1, f1, t1, m1, n1) : Tx5) = (k1, f1, t1, m1, n2)) = false) := hide (by simp [h5])
            have hq : (n1 != n2) = true := by rw [bne_iff_ne]; exact h5
            clear h5
            go_enter Tryz.func28, Tryz.ntmps28
            go_wp2
            go_ret
            exact ⟨ret_bool Hd.out.symm, HB.out⟩
        · subst h1 h2 h3
          have Hd : Hid (decide (((k1, f1, t1, m1, n1) : Tx5) = (k1, f1, t1, m2, n2)) = false) := hide (by simp [h4])
          have hq : (m1 != m2) = true := by rw [bne_iff_ne]; exact h4
          clear h4
          go_enter Tryz.func28, Tryz.ntmps28
          go_wp2
          go_ret
          exact ⟨ret_bool Hd.out.symm, HB.out⟩
      · subst h1 h2
        have Hd : Hid (decide (((k1, f1, t1, m1, n1) : Tx5) = (k1, f1, t2, m2, n2)) = false) := hide (by simp [h3])
        have hq := bytes_ne h3
        clear h3
        go_enter Tryz.func28, Tryz.ntmps28
        go_wp2
        go_ret
        exact ⟨ret_bool Hd.out.symm, HB.out⟩
    · subst h1
      have Hd : Hid (decide (((k1, f1, t1, m1, n1) : Tx5) = (k1, f2, t2, m2, n2)) = false) := hide (by simp [h2])
      have hq := bytes_ne h2
      clear h2
      go_enter Tryz.func28, Tryz.ntmps28
      go_wp2
      go_ret
      exact ⟨ret_bool Hd.out.symm, HB.out⟩
  · have Hd : Hid (decide (((k1, f1, t1, m1, n1) : Tx5) = (k2, f2, t2, m2, n2)) = false) := hide (by simp [h1])
    have hq : (k1 != k2) = true := by rw [bne_iff_ne]; exact h1
    clear h1
    go_enter Tryz.func28, Tryz.ntmps28
    go_wp2
    go_ret
    exact ⟨ret_bool Hd.out.symm, HB.out⟩
/-- What is left of m behind an order (-1: it is less than nothing). -/
def szT (t : Tx5) (m : Int) : Int := if m - t.2.1.size < 0 then -1 else if m - t.2.1.size - t.2.2.1.size < 0 then -1 else m - t.2.1.size - t.2.2.1.size
theorem szT_ok (t : Tx5) (m : Int) (h : 0 ≤ szT t m) : szT t m = m - t.2.1.size - t.2.2.1.size := by
  unfold szT at h ⊢
  split at h
  · omega
  · split at h
    · omega
    · rename_i h1 h2; rw [if_neg h1, if_neg h2]
set_option maxRecDepth 20000 in
set_option maxHeartbeats 1000000 in
theorem szTx_any (t : Tx5) (m : Int) (w : World) (hm0 : 0 ≤ m) (hm : m ≤ 100000000) (hn : t.2.1.size ≤ 9223372036854775807) (hl : t.2.2.1.size ≤ 9223372036854775807) :
    Calls Tryz.prog 22 #[txV t, .int .i64 m] w fun e w' => e = .returned (.int .i64 (szT t m)) ∧ Below w.heap.size w w' := by
  obtain ⟨k1, f1, t1, m1, n1⟩ := t
  have HB := hide ((Below.refl _ w).alloc (Nat.le_refl _) (.cells #[.int .i64 k1, .string f1, .string t1, .int .i64 m1, .int .i64 n1] 53))
  simp only [txV] at *
  have w1 : IntKind.i64.wrap (m - (f1.size : Int)) = m - f1.size := by rw [IntKind.wrap_i64]; omega
  by_cases h1 : m - (f1.size : Int) < 0
  · have Hs : Hid (szT (k1, f1, t1, m1, n1) m = -1) := hide (by unfold szT; rw [if_pos h1])
    go_enter Tryz.func22, Tryz.ntmps22
    go_wp2
    go_ret
    exact ⟨ret_int Hs.out.symm, HB.out⟩
  · have w2 : IntKind.i64.wrap (m - (f1.size : Int) - (t1.size : Int)) = m - f1.size - t1.size := by rw [IntKind.wrap_i64]; omega
    by_cases h2 : m - (f1.size : Int) - (t1.size : Int) < 0
    · have Hs : Hid (szT (k1, f1, t1, m1, n1) m = -1) := hide (by unfold szT; rw [if_neg h1, if_pos h2])
      go_enter Tryz.func22, Tryz.ntmps22
      go_wp2
      go_ret
      exact ⟨ret_int Hs.out.symm, HB.out⟩
    · have Hs : Hid (szT (k1, f1, t1, m1, n1) m = m - f1.size - t1.size) := hide (by unfold szT; rw [if_neg h1, if_neg h2])
      go_enter Tryz.func22, Tryz.ntmps22
      go_wp2
      go_ret
      exact ⟨ret_int Hs.out.symm, HB.out⟩
end Go.Proofs.YtbbkeebfginlfaaGreatDoor
