/- GetText: the program's and the model's answer alike, at all bytes and all places. -/
import Derived.Test.YtkjlmnhdmlolmaaGreatDoorJoin5
import Derived.Laws.IdiomStrings
namespace Go.Proofs.YtkjlmnhdmlolmaaGreatDoor
open Go.RowKit
set_option linter.unusedVariables false

def getT (l : List UInt8) (p : Int) : List UInt8 × Int × Bool :=
  if (getN l p).2.2 = true ∧ 0 ≤ (getN l p).1 ∧ (getN l p).1 ≤ l.length - (getN l p).2.1 then
    ((l.drop (getN l p).2.1.toNat).take (getN l p).1.toNat, (getN l p).2.1 + (getN l p).1, true)
  else ([], 0, false)

def trs (x : List UInt8 × Int × Bool) : Value := .tuple #[.string ⟨x.1.toArray⟩, .int .i64 x.2.1, .bool x.2.2]
theorem ret_trs {a : List UInt8} {b : Int} {c : Bool} {x : List UInt8 × Int × Bool} (h : x = (a, b, c)) : Ending.returned (.tuple #[.string ⟨a.toArray⟩, .int .i64 b, .bool c]) = .returned (trs x) := by
  rw [h]; rfl

theorem gr_bd : ∀ (f : Nat) (l : List UInt8) (m k : Nat) (M K C : Nat), gr f l m k = some (M, K, C) → k ≤ K ∧ K < k + l.length := by
  intro f
  induction f with
  | zero => intro l m k M K C h; simp [gr] at h
  | succ f ih =>
    intro l m k M K C h
    cases l with
    | nil => simp [gr] at h
    | cons c t =>
      rw [gr] at h
      split at h
      · have := ih _ _ _ _ _ _ h
        simp only [List.length_cons]; omega
      · simp only [Option.some.injEq, Prod.mk.injEq] at h
        simp only [List.length_cons]; omega

theorem getN_bd (l : List UInt8) (p : Int) : -1000000000 ≤ (getN l p).1 ∧ (getN l p).1 ≤ 1000000000 ∧ 0 ≤ (getN l p).2.1 ∧ (getN l p).2.1 ≤ l.length := by
  by_cases hin : 0 ≤ p ∧ p < l.length
  · cases hg : gr 5 (l.drop p.toNat) 0 0 with
    | none =>
      have e2 : getN l p = (0, 0, false) := by unfold getN; rw [if_pos hin, hg]
      rw [e2]; simp
    | some r =>
      obtain ⟨m, k, c⟩ := r
      have hb := gr_bd _ _ _ _ _ _ _ hg
      simp only [List.length_drop] at hb
      have e2 : getN l p = if (0 < k ∧ c = 0) ∨ 2000000000 < m then (0, 0, false) else ((if m % 2 = 1 then -((m : Int) / 2) - 1 else (m : Int) / 2), p + k + 1, true) := by unfold getN; rw [if_pos hin, hg]
      rw [e2]
      by_cases hbad : (0 < k ∧ c = 0) ∨ 2000000000 < m
      · rw [if_pos hbad]; simp
      · rw [if_neg hbad]
        simp only
        split <;> omega
  · have e2 : getN l p = (0, 0, false) := by unfold getN; rw [if_neg hin]
    rw [e2]; simp

theorem str_of (w : World) (b off : Nat) (l : List UInt8) (h : ∀ i (h : i < l.length), w.cell? ⟨b, off + i, none⟩ = some (.int .u8 (l[i].toNat : Int))) (x n c N : Nat) (hn : x + n ≤ l.length) (hN : N = n) :
    (convert 22 9 (.slice (some ⟨b, off + x, none⟩) N c)).run Tryz.prog w = .ok (.string ⟨((l.drop x).take n).toArray⟩) w := by
  have hlen : ((l.drop x).take n).length = N := by simp; omega
  have := run_convert_bytes_back (P := Tryz.prog) w 22 9 5 ⟨b, off + x, none⟩ c ((l.drop x).take n) Tryz.underlying22 Tryz.underlying5 Tryz.underlying9 (by
    intro j hj
    have hj' : j < n := by simp at hj; omega
    have ea : (⟨b, off + x, none⟩ : Addr).add j = ⟨b, off + (x + j), none⟩ := by
      by_cases hz : j = 0
      · subst hz; simp [Addr.add]
      · simp [Addr.add, hz]; omega
    rw [ea, h (x + j) (by omega)]
    simp)
  rw [hlen] at this
  exact this

theorem str_none (w : World) (a : Addr) (c : Nat) :
    (convert 22 9 (.slice (some a) 0 c)).run Tryz.prog w = .ok (.string ⟨#[]⟩) w := by
  have := run_convert_bytes_back (P := Tryz.prog) w 22 9 5 a c [] Tryz.underlying22 Tryz.underlying5 Tryz.underlying9 (by intro j hj; simp at hj)
  simpa using this

theorem getT_no (l : List UInt8) (p n x : Int) (ok : Bool) (hG : getN l p = (n, x, ok)) (h : ok = false ∨ n < 0 ∨ l.length - x < n) : getT l p = ([], 0, false) := by
  unfold getT; rw [hG, if_neg]
  intro ⟨h1, h2, h3⟩
  simp only at h1 h2 h3
  rcases h with h | h | h
  · rw [h] at h1; cases h1
  · omega
  · omega
theorem getT_yes (l : List UInt8) (p : Int) (n x : Nat) (hG : getN l p = ((n : Int), (x : Int), true)) (h : x + n ≤ l.length) : getT l p = ((l.drop x).take n, (x : Int) + n, true) := by
  unfold getT; rw [hG, if_pos ⟨rfl, by simp, by simp only; omega⟩]
  simp

set_option maxRecDepth 20000 in
set_option maxHeartbeats 1000000 in
theorem specGetText_any (v : Value) (l : List UInt8) (p : Int) (w : World) (hr : RdB w v l) (hl : l.length ≤ 4000000) (hp1 : -9223372036854775808 ≤ p) (hp2 : p ≤ 9223372036854775807) :
    Calls Tryz.prog 143 #[v, .int .i64 p] w fun e w' => e = .returned (trs (getT l p)) ∧ w' = w := by
  have Hg := hide (specGetNum_any v l p w hr hl hp1 hp2)
  have hbd := getN_bd l p
  obtain ⟨G, hG⟩ : ∃ G, getN l p = G := ⟨_, rfl⟩
  rw [hG] at Hg hbd
  obtain ⟨n, x, ok⟩ := G
  simp only at hbd
  simp only [tri] at Hg
  obtain ⟨hn1, hn2, hx1, hx2⟩ := hbd
  by_cases hno : ok = false ∨ n < 0 ∨ l.length - x < n
  · have hf := hide (getT_no l p n x ok hG hno)
    obtain ⟨a, cap, rfl⟩ := hr.shape
    clear hr hG
    cases ok
    · clear hno
      go_enter Tryz.func143, Tryz.ntmps143
      go_wp2_with (go_at_call 142; refine Hg.out.mono ?_; rintro e w' ⟨rfl, rfl⟩)
      go_ret3
      exact ⟨ret_trs hf.out, rfl⟩
    · rcases (show n < 0 ∨ (0 ≤ n ∧ l.length - x < n) from by simp at hno; omega) with h | ⟨h, h'⟩ <;> clear hno
      · go_enter Tryz.func143, Tryz.ntmps143
        go_wp2_with (go_at_call 142; refine Hg.out.mono ?_; rintro e w' ⟨rfl, rfl⟩)
        go_ret3
        exact ⟨ret_trs hf.out, rfl⟩
      · go_enter Tryz.func143, Tryz.ntmps143
        go_wp2_with (go_at_call 142; refine Hg.out.mono ?_; rintro e w' ⟨rfl, rfl⟩)
        go_ret3
        exact ⟨ret_trs hf.out, rfl⟩
  · obtain ⟨N, rfl⟩ := Int.eq_ofNat_of_zero_le (show 0 ≤ n from by omega)
    obtain ⟨X, rfl⟩ := Int.eq_ofNat_of_zero_le hx1
    have hXN : X + N ≤ l.length := by omega
    have hok : ok = true := by cases ok <;> simp at hno ⊢
    subst hok
    clear hno
    have hf := hide (getT_yes l p N X hG hXN)
    rcases hr with ⟨a, cap, rfl, rfl, -⟩ | ⟨b, off, cap, h0, rfl, h1, h2, h3, h4⟩
    · rw [getN_out [] p (by simp; omega)] at hG; cases hG
    · unfold maxLen at h2
      clear hG
      by_cases hX : X < cap
      · have k1 := fun c => str_of w b off l h4 X N c (X + N - X) hXN (by omega)
        have k2 := fun c => str_of w b off l h4 X N c N hXN rfl
        clear h4
        go_enter Tryz.func143, Tryz.ntmps143
        go_wp2_with (go_at_call 142; refine Hg.out.mono ?_; rintro e w' ⟨rfl, rfl⟩)
        go_ret3
        exact ⟨ret_trs hf.out, rfl⟩
      · have hN0 : N = 0 := by omega
        subst hN0
        have k3 := fun a c => str_none w a c
        go_enter Tryz.func143, Tryz.ntmps143
        go_wp2_with (go_at_call 142; refine Hg.out.mono ?_; rintro e w' ⟨rfl, rfl⟩)
        go_ret3
        exact ⟨ret_trs (a := []) (hf.out.trans (by simp)), rfl⟩
set_option maxRecDepth 20000 in
set_option maxHeartbeats 1000000 in
theorem implGetText_any (v : Value) (l : List UInt8) (p : Int) (w : World) (hr : RdB w v l) (hl : l.length ≤ 4000000) (hp1 : -9223372036854775808 ≤ p) (hp2 : p ≤ 9223372036854775807) :
    Calls Tryz.prog 208 #[v, .int .i64 p] w fun e w' => e = .returned (trs (getT l p)) ∧ w' = w := by
  have Hg := hide (implGetNum_any v l p w hr hl hp1 hp2)
  have hbd := getN_bd l p
  obtain ⟨G, hG⟩ : ∃ G, getN l p = G := ⟨_, rfl⟩
  rw [hG] at Hg hbd
  obtain ⟨n, x, ok⟩ := G
  simp only at hbd
  simp only [tri] at Hg
  obtain ⟨hn1, hn2, hx1, hx2⟩ := hbd
  by_cases hno : ok = false ∨ n < 0 ∨ l.length - x < n
  · have hf := hide (getT_no l p n x ok hG hno)
    obtain ⟨a, cap, rfl⟩ := hr.shape
    clear hr hG
    cases ok
    · clear hno
      go_enter Tryz.func208, Tryz.ntmps208
      go_wp2_with (go_at_call 207; refine Hg.out.mono ?_; rintro e w' ⟨rfl, rfl⟩)
      go_ret3
      exact ⟨ret_trs hf.out, rfl⟩
    · rcases (show n < 0 ∨ (0 ≤ n ∧ l.length - x < n) from by simp at hno; omega) with h | ⟨h, h'⟩ <;> clear hno
      · go_enter Tryz.func208, Tryz.ntmps208
        go_wp2_with (go_at_call 207; refine Hg.out.mono ?_; rintro e w' ⟨rfl, rfl⟩)
        go_ret3
        exact ⟨ret_trs hf.out, rfl⟩
      · go_enter Tryz.func208, Tryz.ntmps208
        go_wp2_with (go_at_call 207; refine Hg.out.mono ?_; rintro e w' ⟨rfl, rfl⟩)
        go_ret3
        exact ⟨ret_trs hf.out, rfl⟩
  · obtain ⟨N, rfl⟩ := Int.eq_ofNat_of_zero_le (show 0 ≤ n from by omega)
    obtain ⟨X, rfl⟩ := Int.eq_ofNat_of_zero_le hx1
    have hXN : X + N ≤ l.length := by omega
    have hok : ok = true := by cases ok <;> simp at hno ⊢
    subst hok
    clear hno
    have hf := hide (getT_yes l p N X hG hXN)
    rcases hr with ⟨a, cap, rfl, rfl, -⟩ | ⟨b, off, cap, h0, rfl, h1, h2, h3, h4⟩
    · rw [getN_out [] p (by simp; omega)] at hG; cases hG
    · unfold maxLen at h2
      clear hG
      by_cases hX : X < cap
      · have k1 := fun c => str_of w b off l h4 X N c (X + N - X) hXN (by omega)
        have k2 := fun c => str_of w b off l h4 X N c N hXN rfl
        clear h4
        go_enter Tryz.func208, Tryz.ntmps208
        go_wp2_with (go_at_call 207; refine Hg.out.mono ?_; rintro e w' ⟨rfl, rfl⟩)
        go_ret3
        exact ⟨ret_trs hf.out, rfl⟩
      · have hN0 : N = 0 := by omega
        subst hN0
        have k3 := fun a c => str_none w a c
        go_enter Tryz.func208, Tryz.ntmps208
        go_wp2_with (go_at_call 207; refine Hg.out.mono ?_; rintro e w' ⟨rfl, rfl⟩)
        go_ret3
        exact ⟨ret_trs (a := []) (hf.out.trans (by simp)), rfl⟩
end Go.Proofs.YtkjlmnhdmlolmaaGreatDoor
