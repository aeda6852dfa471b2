/- GetText: the program's and the model's answer alike, at all bytes and all places. GetNames: the program's and the model's answer alike, at all bytes and all places, each list in memory of its own. Texts, and lists of them, come back of their bytes. -/
import Derived.Test.YtcmmdkabocfnfaaGreatDoorZbGetNumImpl
import Derived.Laws.IdiomStrings
import Derived.Test.YtcmmdkabocfnfaaGreatDoorZbDrawTx
import Derived.Test.YtcmmdkabocfnfaaGreatDoorZbGetNum
import Derived.Test.YtcmmdkabocfnfaaGreatDoorZbPutNames
namespace Go.Proofs.YtcmmdkabocfnfaaGreatDoor
open Go.RowKit
set_option linter.unusedVariables false

def getT (l : List UInt8) (p : Int) : List UInt8 × Int × Bool :=
  if (getN l p).2.2 = true ∧ 0 ≤ (getN l p).1 ∧ (getN l p).1 ≤ l.length - (getN l p).2.1 then
    ((l.drop (getN l p).2.1.toNat).take (getN l p).1.toNat, (getN l p).2.1 + (getN l p).1, true)
  else ([], 0, false)

def trs (x : List UInt8 × Int × Bool) : Value := .tuple #[.string ⟨x.1.toArray⟩, .int .i64 x.2.1, .bool x.2.2]
theorem ret_trs {a : List UInt8} {b : Int} {c : Bool} {x : List UInt8 × Int × Bool} (h : x = (a, b, c)) : Ending.returned (.tuple #[.string ⟨a.toArray⟩, .int .i64 b, .bool c]) = .returned (trs x) := by
  rw [h]; rfl

theorem gr_bd : ∀ (f : Nat) (l : List UInt8) (m k : Nat) (M K C : Nat), gr f l m k = some (M, K, C) → k ≤ K ∧ K < k + l.length := by
  intro f
  induction f with
  | zero => intro l m k M K C h; simp [gr] at h
  | succ f ih =>
    intro l m k M K C h
    cases l with
    | nil => simp [gr] at h
    | cons c t =>
      rw [gr] at h
      split at h
      · have := ih _ _ _ _ _ _ h
        simp only [List.length_cons]; omega
      · simp only [Option.some.injEq, Prod.mk.injEq] at h
        simp only [List.length_cons]; omega

theorem getN_bd (l : List UInt8) (p : Int) : -1000000000 ≤ (getN l p).1 ∧ (getN l p).1 ≤ 1000000000 ∧ 0 ≤ (getN l p).2.1 ∧ (getN l p).2.1 ≤ l.length := by
  by_cases hin : 0 ≤ p ∧ p < l.length
  · cases hg : gr 5 (l.drop p.toNat) 0 0 with
    | none =>
      have e2 : getN l p = (0, 0, false) := by unfold getN; rw [if_pos hin, hg]
      rw [e2]; simp
    | some r =>
      obtain ⟨m, k, c⟩ := r
      have hb := gr_bd _ _ _ _ _ _ _ hg
      simp only [List.length_drop] at hb
      have e2 : getN l p = if (0 < k ∧ c = 0) ∨ 2000000000 < m then (0, 0, false) else ((if m % 2 = 1 then -((m : Int) / 2) - 1 else (m : Int) / 2), p + k + 1, true) := by unfold getN; rw [if_pos hin, hg]
      rw [e2]
      by_cases hbad : (0 < k ∧ c = 0) ∨ 2000000000 < m
      · rw [if_pos hbad]; simp
      · rw [if_neg hbad]
        simp only
        split <;> omega
  · have e2 : getN l p = (0, 0, false) := by unfold getN; rw [if_neg hin]
    rw [e2]; simp

theorem str_of (w : World) (b off : Nat) (l : List UInt8) (h : ∀ i (h : i < l.length), w.cell? ⟨b, off + i, none⟩ = some (.int .u8 (l[i].toNat : Int))) (x n c N : Nat) (hn : x + n ≤ l.length) (hN : N = n) :
    (convert 22 9 (.slice (some ⟨b, off + x, none⟩) N c)).run Tryz.prog w = .ok (.string ⟨((l.drop x).take n).toArray⟩) w := by
  have hlen : ((l.drop x).take n).length = N := by simp; omega
  have := run_convert_bytes_back (P := Tryz.prog) w 22 9 5 ⟨b, off + x, none⟩ c ((l.drop x).take n) Tryz.underlying22 Tryz.underlying5 Tryz.underlying9 (by
    intro j hj
    have hj' : j < n := by simp at hj; omega
    have ea : (⟨b, off + x, none⟩ : Addr).add j = ⟨b, off + (x + j), none⟩ := by
      by_cases hz : j = 0
      · subst hz; simp [Addr.add]
      · simp [Addr.add, hz]; omega
    rw [ea, h (x + j) (by omega)]
    simp)
  rw [hlen] at this
  exact this

theorem str_none (w : World) (a : Addr) (c : Nat) :
    (convert 22 9 (.slice (some a) 0 c)).run Tryz.prog w = .ok (.string ⟨#[]⟩) w := by
  have := run_convert_bytes_back (P := Tryz.prog) w 22 9 5 a c [] Tryz.underlying22 Tryz.underlying5 Tryz.underlying9 (by intro j hj; simp at hj)
  simpa using this

theorem getT_no (l : List UInt8) (p n x : Int) (ok : Bool) (hG : getN l p = (n, x, ok)) (h : ok = false ∨ n < 0 ∨ l.length - x < n) : getT l p = ([], 0, false) := by
  unfold getT; rw [hG, if_neg]
  intro ⟨h1, h2, h3⟩
  simp only at h1 h2 h3
  rcases h with h | h | h
  · rw [h] at h1; cases h1
  · omega
  · omega
theorem getT_yes (l : List UInt8) (p : Int) (n x : Nat) (hG : getN l p = ((n : Int), (x : Int), true)) (h : x + n ≤ l.length) : getT l p = ((l.drop x).take n, (x : Int) + n, true) := by
  unfold getT; rw [hG, if_pos ⟨rfl, by simp, by simp only; omega⟩]
  simp

set_option maxRecDepth 20000 in
set_option maxHeartbeats 1000000 in
theorem specGetText_any (v : Value) (l : List UInt8) (p : Int) (w : World) (hr : RdB w v l) (hl : l.length ≤ 4000000) (hp1 : -9223372036854775808 ≤ p) (hp2 : p ≤ 9223372036854775807) :
    Calls Tryz.prog 72 #[v, .int .i64 p] w fun e w' => e = .returned (trs (getT l p)) ∧ w' = w := by
  have Hg := hide (specGetNum_any v l p w hr hl hp1 hp2)
  have hbd := getN_bd l p
  obtain ⟨G, hG⟩ : ∃ G, getN l p = G := ⟨_, rfl⟩
  rw [hG] at Hg hbd
  obtain ⟨n, x, ok⟩ := G
  simp only at hbd
  simp only [tri] at Hg
  obtain ⟨hn1, hn2, hx1, hx2⟩ := hbd
  by_cases hno : ok = false ∨ n < 0 ∨ l.length - x < n
  · have hf := hide (getT_no l p n x ok hG hno)
    obtain ⟨a, cap, rfl⟩ := hr.shape
    clear hr hG
    cases ok
    · clear hno
      go_enter Tryz.func72, Tryz.ntmps72
      go_wp2_with (go_at_call 71; refine Hg.out.mono ?_; rintro e w' ⟨rfl, rfl⟩)
      go_ret3
      exact ⟨ret_trs hf.out, rfl⟩
    · rcases (show n < 0 ∨ (0 ≤ n ∧ l.length - x < n) from by simp at hno; omega) with h | ⟨h, h'⟩ <;> clear hno
      · go_enter Tryz.func72, Tryz.ntmps72
        go_wp2_with (go_at_call 71; refine Hg.out.mono ?_; rintro e w' ⟨rfl, rfl⟩)
        go_ret3
        exact ⟨ret_trs hf.out, rfl⟩
      · go_enter Tryz.func72, Tryz.ntmps72
        go_wp2_with (go_at_call 71; refine Hg.out.mono ?_; rintro e w' ⟨rfl, rfl⟩)
        go_ret3
        exact ⟨ret_trs hf.out, rfl⟩
  · obtain ⟨N, rfl⟩ := Int.eq_ofNat_of_zero_le (show 0 ≤ n from by omega)
    obtain ⟨X, rfl⟩ := Int.eq_ofNat_of_zero_le hx1
    have hXN : X + N ≤ l.length := by omega
    have hok : ok = true := by cases ok <;> simp at hno ⊢
    subst hok
    clear hno
    have hf := hide (getT_yes l p N X hG hXN)
    rcases hr with ⟨a, cap, rfl, rfl, -⟩ | ⟨b, off, cap, h0, rfl, h1, h2, h3, h4⟩
    · rw [getN_out [] p (by simp; omega)] at hG; cases hG
    · unfold maxLen at h2
      clear hG
      by_cases hX : X < cap
      · have k1 := fun c => str_of w b off l h4 X N c (X + N - X) hXN (by omega)
        have k2 := fun c => str_of w b off l h4 X N c N hXN rfl
        clear h4
        go_enter Tryz.func72, Tryz.ntmps72
        go_wp2_with (go_at_call 71; refine Hg.out.mono ?_; rintro e w' ⟨rfl, rfl⟩)
        go_ret3
        exact ⟨ret_trs hf.out, rfl⟩
      · have hN0 : N = 0 := by omega
        subst hN0
        have k3 := fun a c => str_none w a c
        go_enter Tryz.func72, Tryz.ntmps72
        go_wp2_with (go_at_call 71; refine Hg.out.mono ?_; rintro e w' ⟨rfl, rfl⟩)
        go_ret3
        exact ⟨ret_trs (a := []) (hf.out.trans (by simp)), rfl⟩
set_option maxRecDepth 20000 in
set_option maxHeartbeats 1000000 in
theorem implGetText_any (v : Value) (l : List UInt8) (p : Int) (w : World) (hr : RdB w v l) (hl : l.length ≤ 4000000) (hp1 : -9223372036854775808 ≤ p) (hp2 : p ≤ 9223372036854775807) :
    Calls Tryz.prog 141 #[v, .int .i64 p] w fun e w' => e = .returned (trs (getT l p)) ∧ w' = w := by
  have Hg := hide (implGetNum_any v l p w hr hl hp1 hp2)
  have hbd := getN_bd l p
  obtain ⟨G, hG⟩ : ∃ G, getN l p = G := ⟨_, rfl⟩
  rw [hG] at Hg hbd
  obtain ⟨n, x, ok⟩ := G
  simp only at hbd
  simp only [tri] at Hg
  obtain ⟨hn1, hn2, hx1, hx2⟩ := hbd
  by_cases hno : ok = false ∨ n < 0 ∨ l.length - x < n
  · have hf := hide (getT_no l p n x ok hG hno)
    obtain ⟨a, cap, rfl⟩ := hr.shape
    clear hr hG
    cases ok
    · clear hno
      go_enter Tryz.func141, Tryz.ntmps141
      go_wp2_with (go_at_call 140; refine Hg.out.mono ?_; rintro e w' ⟨rfl, rfl⟩)
      go_ret3
      exact ⟨ret_trs hf.out, rfl⟩
    · rcases (show n < 0 ∨ (0 ≤ n ∧ l.length - x < n) from by simp at hno; omega) with h | ⟨h, h'⟩ <;> clear hno
      · go_enter Tryz.func141, Tryz.ntmps141
        go_wp2_with (go_at_call 140; refine Hg.out.mono ?_; rintro e w' ⟨rfl, rfl⟩)
        go_ret3
        exact ⟨ret_trs hf.out, rfl⟩
      · go_enter Tryz.func141, Tryz.ntmps141
        go_wp2_with (go_at_call 140; refine Hg.out.mono ?_; rintro e w' ⟨rfl, rfl⟩)
        go_ret3
        exact ⟨ret_trs hf.out, rfl⟩
  · obtain ⟨N, rfl⟩ := Int.eq_ofNat_of_zero_le (show 0 ≤ n from by omega)
    obtain ⟨X, rfl⟩ := Int.eq_ofNat_of_zero_le hx1
    have hXN : X + N ≤ l.length := by omega
    have hok : ok = true := by cases ok <;> simp at hno ⊢
    subst hok
    clear hno
    have hf := hide (getT_yes l p N X hG hXN)
    rcases hr with ⟨a, cap, rfl, rfl, -⟩ | ⟨b, off, cap, h0, rfl, h1, h2, h3, h4⟩
    · rw [getN_out [] p (by simp; omega)] at hG; cases hG
    · unfold maxLen at h2
      clear hG
      by_cases hX : X < cap
      · have k1 := fun c => str_of w b off l h4 X N c (X + N - X) hXN (by omega)
        have k2 := fun c => str_of w b off l h4 X N c N hXN rfl
        clear h4
        go_enter Tryz.func141, Tryz.ntmps141
        go_wp2_with (go_at_call 140; refine Hg.out.mono ?_; rintro e w' ⟨rfl, rfl⟩)
        go_ret3
        exact ⟨ret_trs hf.out, rfl⟩
      · have hN0 : N = 0 := by omega
        subst hN0
        have k3 := fun a c => str_none w a c
        go_enter Tryz.func141, Tryz.ntmps141
        go_wp2_with (go_at_call 140; refine Hg.out.mono ?_; rintro e w' ⟨rfl, rfl⟩)
        go_ret3
        exact ⟨ret_trs (a := []) (hf.out.trans (by simp)), rfl⟩
end Go.Proofs.YtcmmdkabocfnfaaGreatDoor

namespace Go.Proofs.YtcmmdkabocfnfaaGreatDoor
open Go.RowKit
set_option linter.unusedVariables false

def getL : Nat → List UInt8 → Int → List ByteArray → Option (List ByteArray × Int)
  | 0, _, p, acc => some (acc, p)
  | n + 1, l, p, acc => if (getT l p).2.2 = true then getL n l (getT l p).2.1 (acc ++ [⟨(getT l p).1.toArray⟩]) else none
def getNs (l : List UInt8) (p : Int) : List ByteArray × Int × Bool :=
  if (getN l p).2.2 = true ∧ 0 ≤ (getN l p).1 ∧ (getN l p).1 ≤ 100 then
    match getL (getN l p).1.toNat l (getN l p).2.1 [] with
    | none => ([], 0, false)
    | some (a, q) => (a, q, true)
  else ([], 0, false)

theorem getL_step (n k : Nat) (l : List UInt8) (q : Int) (acc : List ByteArray) (s : List UInt8) (x : Int) (hk : k < n) (h : getT l q = (s, x, true)) : getL (n - k) l q acc = getL (n - (k + 1)) l x (acc ++ [⟨s.toArray⟩]) := by
  rw [show n - k = n - (k + 1) + 1 from by omega, getL, h, if_pos rfl]
theorem getL_stop (n k : Nat) (l : List UInt8) (q : Int) (acc : List ByteArray) (s : List UInt8) (x : Int) (hk : k < n) (h : getT l q = (s, x, false)) : getL (n - k) l q acc = none := by
  rw [show n - k = n - (k + 1) + 1 from by omega, getL, h, if_neg (by simp)]
theorem getT_bd (l : List UInt8) (p : Int) : 0 ≤ (getT l p).2.1 ∧ (getT l p).2.1 ≤ l.length := by
  have h := getN_bd l p
  unfold getT
  split
  · simp only; omega
  · simp
theorem getL_len : ∀ (n : Nat) (l : List UInt8) (p : Int) (acc : List ByteArray) (r : List ByteArray) (q : Int), getL n l p acc = some (r, q) → r.length = acc.length + n := by
  intro n
  induction n with
  | zero => intro l p acc r q h; simp [getL] at h; rw [h.1]; rfl
  | succ n ih =>
    intro l p acc r q h
    rw [getL] at h
    split at h
    · have := ih _ _ _ _ _ h; simp at this; omega
    · cases h
theorem getNs_len (l : List UInt8) (p : Int) : (getNs l p).1.length ≤ 100 := by
  unfold getNs
  split
  · rename_i hc
    cases hg : getL (getN l p).1.toNat l (getN l p).2.1 [] with
    | none => simp
    | some r =>
      obtain ⟨a, q⟩ := r
      have := getL_len _ _ _ _ _ _ hg
      simp only [List.length_nil] at this
      simp only
      omega
  · simp

theorem getNs_no (l : List UInt8) (p n x : Int) (ok : Bool) (hG : getN l p = (n, x, ok)) (h : ok = false ∨ n < 0 ∨ 100 < n) : getNs l p = ([], 0, false) := by
  unfold getNs; rw [hG, if_neg]
  intro ⟨h1, h2, h3⟩
  simp only at h1 h2 h3
  rcases h with h | h | h
  · rw [h] at h1; cases h1
  · omega
  · omega
theorem getNs_none (l : List UInt8) (p x : Int) (n : Nat) (hG : getN l p = ((n : Int), x, true)) (hn : n ≤ 100) (h : getL n l x [] = none) : getNs l p = ([], 0, false) := by
  unfold getNs; rw [hG, if_pos ⟨rfl, by simp, by simp only; omega⟩]; simp only [Int.toNat_natCast, h]
theorem getNs_some (l : List UInt8) (p x q : Int) (n : Nat) (acc : List ByteArray) (hG : getN l p = ((n : Int), x, true)) (hn : n ≤ 100) (h : getL n l x [] = some (acc, q)) : getNs l p = (acc, q, true) := by
  unfold getNs; rw [hG, if_pos ⟨rfl, by simp, by simp only; omega⟩]; simp only [Int.toNat_natCast, h]

set_option maxRecDepth 20000 in
set_option maxHeartbeats 1000000 in
theorem specGetNames_any (v : Value) (l : List UInt8) (p : Int) (w : World) (hr : RdB w v l) (hl : l.length ≤ 4000000) (hp1 : -9223372036854775808 ≤ p) (hp2 : p ≤ 9223372036854775807) :
    Calls Tryz.prog 73 #[v, .int .i64 p] w fun e w' => ∃ v', e = .returned (.tuple #[v', .int .i64 (getNs l p).2.1, .bool (getNs l p).2.2]) ∧ OwnS w.heap.size w' v' (getNs l p).1 ∧ Below w.heap.size w w' := by
  have Hg := hide (specGetNum_any v l p w hr hl hp1 hp2)
  have hbd := getN_bd l p
  obtain ⟨G, hG⟩ : ∃ G, getN l p = G := ⟨_, rfl⟩
  rw [hG] at Hg hbd
  obtain ⟨n, x, ok⟩ := G
  simp only at hbd
  simp only [tri] at Hg
  obtain ⟨hn1, hn2, hx1, hx2⟩ := hbd
  have Hnil := hide (own_nilS w w.heap.size (Nat.le_refl _))
  have HB0 := hide ((Below.refl w.heap.size w).alloc (Nat.le_refl _) (.cells #[] 9))
  by_cases hno : ok = false ∨ n < 0 ∨ 100 < n
  · have hf := getNs_no l p n x ok hG hno
    rw [hf]
    clear hr hG hf
    cases ok
    · clear hno
      go_enter Tryz.func73, Tryz.ntmps73
      go_wp2_with (first | (go_at_call 71; refine Hg.out.mono ?_; rintro e w' ⟨rfl, rfl⟩) | (go_at_call 58; refine (l1In_any _ _ _ _).mono ?_; rintro e w' ⟨rfl, rfl⟩))
      go_ret3
      exact ⟨_, rfl, Hnil.out, HB0.out⟩
    · have hi : inB n 0 100 = false := by unfold inB; rw [decide_eq_false]; simp at hno; omega
      clear hno
      go_enter Tryz.func73, Tryz.ntmps73
      go_wp2_with (first | (go_at_call 71; refine Hg.out.mono ?_; rintro e w' ⟨rfl, rfl⟩) | (go_at_call 58; refine (l1In_any _ _ _ _).mono ?_; rintro e w' ⟨rfl, rfl⟩))
      go_ret3
      exact ⟨_, rfl, Hnil.out, HB0.out⟩
  · obtain ⟨N, rfl⟩ := Int.eq_ofNat_of_zero_le (show 0 ≤ n from by omega)
    have hN : N ≤ 100 := by omega
    have hok : ok = true := by cases ok <;> simp at hno ⊢
    subst hok
    clear hno
    have Hnone := hide (getNs_none l p x N hG hN)
    have Hsome := hide (fun q acc h => getNs_some l p x q N acc hG hN h)
    have Hr := hide hr
    have hi : inB (N : Int) 0 100 = true := by unfold inB; rw [decide_eq_true]; omega
    clear hr hG
    go_enter Tryz.func73, Tryz.ntmps73
    go_wp2_with (first | (go_at_call 71; refine Hg.out.mono ?_; rintro e w' ⟨rfl, rfl⟩) | (go_at_call 58; refine (l1In_any _ _ _ _).mono ?_; rintro e w' ⟨rfl, rfl⟩))
    go_loopw [8, 10, 11] (fun pv ov iv wr => ∃ (k : Nat) (q : Int) (acc : List ByteArray), k ≤ N ∧ iv = .int .i64 (k : Int) ∧ pv = .int .i64 q ∧ OwnS w'.heap.size wr ov acc ∧ Below w'.heap.size w' wr ∧ getL N l x [] = getL (N - k) l q acc ∧ acc.length = k ∧ 0 ≤ q ∧ q ≤ l.length) (fun _ _ iv _ => N - (intOf iv).toNat)
    case atStart => exact ⟨0, x, [], Nat.zero_le _, rfl, rfl, Hnil.out, HB0.out, rfl, rfl, hx1, hx2⟩
    case round =>
      obtain ⟨k, q, acc, hk, rfl, rfl, ho, hb, hgl, hal, hq1, hq2⟩ := hrel
      have Hgl := hide hgl
      have hsz := hb.size
      have hal2 : acc.length ≤ 100 := by omega
      have Hal := hide hal
      clear hgl hal
      by_cases hlt : k < N
      · have Ht := hide (specGetText_any v l q wr (Hr.out.below hb (Nat.le_refl _)) hl (by omega) (by omega))
        have hbd := getT_bd l q
        obtain ⟨G, hG⟩ : ∃ G, getT l q = G := ⟨_, rfl⟩
        rw [hG] at Ht hbd
        obtain ⟨s, x2, ok⟩ := G
        simp only [trs] at Ht
        simp only at hbd
        obtain ⟨hy1, hy2⟩ := hbd
        have Ho := hide ho
        have Hb := hide hb
        cases ok
        · have hf := Hnone.out (by rw [Hgl.out]; exact getL_stop N k l q acc s x2 hlt hG)
          have Hfin : Hid (∀ v' w2, OwnS w'.heap.size w2 v' [] → Below w'.heap.size w' w2 → ∃ v'', Ending.returned (.tuple #[v', .int .i64 0, .bool false]) = .returned (.tuple #[v'', .int .i64 (getNs l p).2.1, .bool (getNs l p).2.2]) ∧ OwnS w'.heap.size w2 v'' (getNs l p).1 ∧ Below w'.heap.size w' w2) := hide (by
            intro v' w2 h1 h2; rw [hf]; exact ⟨v', rfl, h1, h2⟩)
          clear hf hG ho hb
          go_wp2_with (go_at_call 72; refine Ht.out.mono ?_; rintro e w2 ⟨rfl, rfl⟩)
          go_ret3
          exact Hfin.out _ _ (own_nilS _ _ hsz) (Hb.out.alloc hsz _)
        · have Hst := hide (Hgl.out.trans (getL_step N k l q acc s x2 hlt hG))
          clear hG ho hb
          go_wp2_with (first | (go_at_call 72; refine Ht.out.mono ?_; rintro e w2 ⟨rfl, rfl⟩) | (at_builtin; refine app_ownS _ rfl _ _ rfl w'.heap.size _ _ acc [⟨s.toArray⟩] rfl rfl (Ho.out.alloc _) (rd_one_str _ _) (by simp; omega) (by simp; omega) ?_; intro v3 w3 ho3 hb3))
          go_roundw
          case rel => exact ⟨k + 1, x2, acc ++ [⟨s.toArray⟩], by omega, by go_num, rfl, ho3, (Hb.out.alloc hsz _).trans hb3, Hst.out, by have := Hal.out; simp; omega, hy1, hy2⟩
          case measure => simp [intOf]; omega
      · have hf := Hsome.out q acc (by rw [Hgl.out, show N - k = 0 from by omega]; rfl)
        have Hfin : Hid (∀ v' w2, OwnS w'.heap.size w2 v' acc → Below w'.heap.size w' w2 → ∃ v'', Ending.returned (.tuple #[v', .int .i64 q, .bool true]) = .returned (.tuple #[v'', .int .i64 (getNs l p).2.1, .bool (getNs l p).2.2]) ∧ OwnS w'.heap.size w2 v'' (getNs l p).1 ∧ Below w'.heap.size w' w2) := hide (by
          intro v' w2 h1 h2; rw [hf]; exact ⟨v', rfl, h1, h2⟩)
        have Ho := hide ho
        have Hb := hide hb
        clear hf ho hb
        go_wp2
        go_ret3
        exact Hfin.out _ _ Ho.out Hb.out

set_option maxRecDepth 20000 in
set_option maxHeartbeats 1000000 in
theorem implGetNames_any (v : Value) (l : List UInt8) (p : Int) (w : World) (hr : RdB w v l) (hl : l.length ≤ 4000000) (hp1 : -9223372036854775808 ≤ p) (hp2 : p ≤ 9223372036854775807) :
    Calls Tryz.prog 153 #[v, .int .i64 p] w fun e w' => ∃ v', e = .returned (.tuple #[v', .int .i64 (getNs l p).2.1, .bool (getNs l p).2.2]) ∧ OwnS w.heap.size w' v' (getNs l p).1 ∧ Below w.heap.size w w' := by
  have Hg := hide (implGetNum_any v l p w hr hl hp1 hp2)
  have hbd := getN_bd l p
  obtain ⟨G, hG⟩ : ∃ G, getN l p = G := ⟨_, rfl⟩
  rw [hG] at Hg hbd
  obtain ⟨n, x, ok⟩ := G
  simp only at hbd
  simp only [tri] at Hg
  obtain ⟨hn1, hn2, hx1, hx2⟩ := hbd
  by_cases hno : ok = false ∨ n < 0 ∨ 100 < n
  · have hf := getNs_no l p n x ok hG hno
    rw [hf]
    clear hr hG hf
    cases ok
    · clear hno
      go_enter Tryz.func153, Tryz.ntmps153
      go_wp2_with (go_at_call 140; refine Hg.out.mono ?_; rintro e w' ⟨rfl, rfl⟩)
      go_ret3
      exact ⟨_, rfl, own_noneS _ _, Below.refl _ _⟩
    · rcases (show n < 0 ∨ (0 ≤ n ∧ 100 < n) from by simp at hno; omega) with h | ⟨h, h'⟩ <;> clear hno
      all_goals
        go_enter Tryz.func153, Tryz.ntmps153
        go_wp2_with (go_at_call 140; refine Hg.out.mono ?_; rintro e w' ⟨rfl, rfl⟩)
        go_ret3
        exact ⟨_, rfl, own_noneS _ _, Below.refl _ _⟩
  · obtain ⟨N, rfl⟩ := Int.eq_ofNat_of_zero_le (show 0 ≤ n from by omega)
    have hN : N ≤ 100 := by omega
    have hok : ok = true := by cases ok <;> simp at hno ⊢
    subst hok
    clear hno
    have Hnone := hide (getNs_none l p x N hG hN)
    have Hsome := hide (fun q acc h => getNs_some l p x q N acc hG hN h)
    have Hr := hide hr
    clear hr hG
    go_enter Tryz.func153, Tryz.ntmps153
    go_wp2_with (go_at_call 140; refine Hg.out.mono ?_; rintro e w' ⟨rfl, rfl⟩)
    go_loopw [8, 10, 32] (fun pv ov iv wr => ∃ (k : Nat) (q : Int) (acc : List ByteArray), k ≤ N ∧ iv = .int .i64 (k : Int) ∧ pv = .int .i64 q ∧ OwnS w'.heap.size wr ov acc ∧ Below w'.heap.size w' wr ∧ getL N l x [] = getL (N - k) l q acc ∧ acc.length = k ∧ 0 ≤ q ∧ q ≤ l.length) (fun _ _ iv _ => N - (intOf iv).toNat)
    case atStart => exact ⟨0, x, [], Nat.zero_le _, rfl, rfl, own_noneS _ _, Below.refl _ _, rfl, rfl, hx1, hx2⟩
    case round =>
      obtain ⟨k, q, acc, hk, rfl, rfl, ho, hb, hgl, hal, hq1, hq2⟩ := hrel
      have Hgl := hide hgl
      have hsz := hb.size
      have hal2 : acc.length ≤ 100 := by omega
      have Hal := hide hal
      clear hgl hal
      by_cases hlt : k < N
      · have Ht := hide (implGetText_any v l q wr (Hr.out.below hb (Nat.le_refl _)) hl (by omega) (by omega))
        have hbd := getT_bd l q
        obtain ⟨G, hG⟩ : ∃ G, getT l q = G := ⟨_, rfl⟩
        rw [hG] at Ht hbd
        obtain ⟨s, x2, ok⟩ := G
        simp only [trs] at Ht
        simp only at hbd
        obtain ⟨hy1, hy2⟩ := hbd
        have Ho := hide ho
        have Hb := hide hb
        cases ok
        · have hf := Hnone.out (by rw [Hgl.out]; exact getL_stop N k l q acc s x2 hlt hG)
          have Hfin : Hid (∀ v' w2, OwnS w'.heap.size w2 v' [] → Below w'.heap.size w' w2 → ∃ v'', Ending.returned (.tuple #[v', .int .i64 0, .bool false]) = .returned (.tuple #[v'', .int .i64 (getNs l p).2.1, .bool (getNs l p).2.2]) ∧ OwnS w'.heap.size w2 v'' (getNs l p).1 ∧ Below w'.heap.size w' w2) := hide (by
            intro v' w2 h1 h2; rw [hf]; exact ⟨v', rfl, h1, h2⟩)
          clear hf hG ho hb
          go_wp2_with (go_at_call 141; refine Ht.out.mono ?_; rintro e w2 ⟨rfl, rfl⟩)
          go_ret3
          exact Hfin.out _ _ (own_noneS _ _) Hb.out
        · have Hst := hide (Hgl.out.trans (getL_step N k l q acc s x2 hlt hG))
          clear hG ho hb
          go_wp2_with (first | (go_at_call 141; refine Ht.out.mono ?_; rintro e w2 ⟨rfl, rfl⟩) | (at_builtin; refine app_ownS _ rfl _ _ rfl w'.heap.size _ _ acc [⟨s.toArray⟩] rfl rfl (Ho.out.alloc _) (rd_one_str _ _) (by simp; omega) (by simp; omega) ?_; intro v3 w3 ho3 hb3))
          go_roundw
          case rel => exact ⟨k + 1, x2, acc ++ [⟨s.toArray⟩], by omega, by go_num, rfl, ho3, (Hb.out.alloc hsz _).trans hb3, Hst.out, by have := Hal.out; simp; omega, hy1, hy2⟩
          case measure => simp [intOf]; omega
      · have hf := Hsome.out q acc (by rw [Hgl.out, show N - k = 0 from by omega]; rfl)
        have Hfin : Hid (∀ v' w2, OwnS w'.heap.size w2 v' acc → Below w'.heap.size w' w2 → ∃ v'', Ending.returned (.tuple #[v', .int .i64 q, .bool true]) = .returned (.tuple #[v'', .int .i64 (getNs l p).2.1, .bool (getNs l p).2.2]) ∧ OwnS w'.heap.size w2 v'' (getNs l p).1 ∧ Below w'.heap.size w' w2) := hide (by
          intro v' w2 h1 h2; rw [hf]; exact ⟨v', rfl, h1, h2⟩)
        have Ho := hide ho
        have Hb := hide hb
        clear hf ho hb
        go_wp2
        go_ret3
        exact Hfin.out _ _ Ho.out Hb.out
end Go.Proofs.YtcmmdkabocfnfaaGreatDoor

namespace Go.Proofs.YtcmmdkabocfnfaaGreatDoor
open Go.RowKit
set_option linter.unusedVariables false

theorem clamp_small (k : Nat) (h : k ≤ 1000000000) : clampN (k : Int) = (k : Int) := by
  unfold clampN; rw [if_neg (by omega), if_neg (by omega)]

theorem getT_put (l rest : List UInt8) (s : ByteArray) (hs : s.size ≤ 1000000000) : getT (l ++ (textB s ++ rest)) (l.length : Int) = (s.data.toList, (l.length : Int) + (textB s).length, true) := by
  have e : l ++ (textB s ++ rest) = l ++ (numB (s.size : Int) ++ (s.data.toList ++ rest)) := by simp [textB]
  have hg := getN_put l (s.data.toList ++ rest) (s.size : Int)
  rw [clamp_small _ hs] at hg
  rw [e]
  have hsz : s.data.toList.length = s.size := by simp
  have := getT_yes (l ++ (numB (s.size : Int) ++ (s.data.toList ++ rest))) (l.length : Int) s.size (l.length + (numB (s.size : Int)).length) (by rw [hg]; simp) (by simp; omega)
  rw [this]
  have e2 : (l ++ (numB (s.size : Int) ++ (s.data.toList ++ rest))).drop (l.length + (numB (s.size : Int)).length) = s.data.toList ++ rest := by
    rw [← List.append_assoc, ← List.length_append, List.drop_left]
  rw [e2, List.take_append_of_le_length (by omega), List.take_of_length_le (by omega)]
  have e3 : (textB s).length = (numB (s.size : Int)).length + s.size := by simp [textB]
  rw [e3]
  simp only [Prod.mk.injEq, and_true, true_and]
  omega

theorem back_bytes (s : ByteArray) : (⟨s.data.toList.toArray⟩ : ByteArray) = s := by
  apply ByteArray.ext; simp

theorem getL_put : ∀ (ls : List ByteArray) (pre rest : List UInt8) (acc : List ByteArray), (∀ s ∈ ls, s.size ≤ 1000000000) →
    getL ls.length (pre ++ (textsB ls ++ rest)) (pre.length : Int) acc = some (acc ++ ls, (pre.length : Int) + (textsB ls).length) := by
  intro ls
  induction ls with
  | nil => intro pre rest acc _; simp [getL, textsB]
  | cons s t ih =>
    intro pre rest acc hs
    have e : pre ++ (textsB (s :: t) ++ rest) = pre ++ (textB s ++ (textsB t ++ rest)) := by simp [textsB]
    have hT := getT_put pre (textsB t ++ rest) s (hs s (by simp))
    rw [List.length_cons, getL, e, hT, if_pos rfl]
    have e2 : pre ++ (textB s ++ (textsB t ++ rest)) = (pre ++ textB s) ++ (textsB t ++ rest) := by simp
    have e3 : (pre.length : Int) + (textB s).length = ((pre ++ textB s).length : Int) := by simp
    simp only
    rw [e2, e3, ih (pre ++ textB s) rest _ (fun u hu => hs u (by simp [hu])), back_bytes]
    have e4 : (textsB (s :: t)).length = (textB s).length + (textsB t).length := by simp [textsB]
    rw [e4]
    simp only [List.append_assoc, List.singleton_append, Option.some.injEq, Prod.mk.injEq, true_and, List.length_append]
    omega

theorem getNs_put (l : List UInt8) (ls : List ByteArray) (hn : ls.length ≤ 100) (hs : ∀ s ∈ ls, s.size ≤ 1000000000) :
    getNs (l ++ namesB ls) (l.length : Int) = (ls, (l.length : Int) + (namesB ls).length, true) := by
  have hg := getN_put l (textsB ls) (ls.length : Int)
  rw [clamp_small _ (by omega)] at hg
  have hL := getL_put ls (l ++ numB (ls.length : Int)) [] [] hs
  rw [List.append_nil, List.append_assoc, List.nil_append] at hL
  have e3 : (l.length : Int) + (numB (ls.length : Int)).length = ((l ++ numB (ls.length : Int)).length : Int) := by simp
  rw [e3] at hg
  have := getNs_some (l ++ (numB (ls.length : Int) ++ textsB ls)) (l.length : Int) _ _ ls.length ls hg hn hL
  unfold namesB
  rw [this]
  simp only [Prod.mk.injEq, and_true, true_and, List.length_append]
  omega
end Go.Proofs.YtcmmdkabocfnfaaGreatDoor
