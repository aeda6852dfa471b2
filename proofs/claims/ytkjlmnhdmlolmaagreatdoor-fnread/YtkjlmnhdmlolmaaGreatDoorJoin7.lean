/- Plain facts on the bytes of a number, and the law of append over bytes of the call's own. PutNum: the program's and the model's lay the same bytes behind what was there, in memory of their own. A number comes back of its bytes; cut it does not. -/
import Derived.Test.YtkjlmnhdmlolmaaGreatDoorJoin1
import Derived.Test.YtkjlmnhdmlolmaaGreatDoorPure
import Derived.Laws.AppendOwnNone
namespace Go.Proofs.YtkjlmnhdmlolmaaGreatDoor
open Go.RowKit
set_option linter.unusedVariables false

def foldN (n : Int) : Nat := if n < 0 then (2 * min (-n) 1000000000 - 1).toNat else (2 * min n 1000000000).toNat

def putG : Nat → Nat → List UInt8
  | 0, m => [UInt8.ofNat m]
  | f + 1, m => if m ≤ 127 then [UInt8.ofNat m] else UInt8.ofNat (m % 128 + 128) :: putG f (m / 128)

def numB (n : Int) : List UInt8 := putG 5 (foldN n)

theorem foldN_le (n : Int) : foldN n ≤ 2000000000 := by unfold foldN; split <;> omega
theorem putG_len : ∀ (f m : Nat), (putG f m).length ≤ f + 1 := by
  intro f
  induction f with
  | zero => intro m; simp [putG]
  | succ f ih =>
    intro m
    rw [putG]
    split
    · simp
    · have := ih (m / 128); simp only [List.length_cons]; omega
theorem numB_len (n : Int) : (numB n).length ≤ 6 := putG_len 5 _
theorem putG_last (f m : Nat) (h : m ≤ 127) : putG f m = [UInt8.ofNat m] := by
  cases f with
  | zero => rfl
  | succ f => rw [putG, if_pos h]
theorem putG_more (f m : Nat) (h : ¬ m ≤ 127) : putG (f + 1) m = UInt8.ofNat (m % 128 + 128) :: putG f (m / 128) := by rw [putG, if_neg h]

theorem byte_of (m : Nat) (h : m < 256) : (m : Int) = ((UInt8.ofNat m).toNat : Int) := by
  rw [UInt8.toNat_ofNat']; omega

theorem div_lt_pow (m f : Nat) (h : m < 128 ^ (f + 1 + 1)) : m / 128 < 128 ^ (f + 1) := by
  rw [Nat.pow_succ] at h
  exact Nat.div_lt_of_lt_mul (by rw [Nat.mul_comm]; exact h)

theorem fold_pow (M : Nat) (h : M ≤ 2000000000) : M < 128 ^ (5 + 1) := by
  have : (128 : Nat) ^ (5 + 1) = 4398046511104 := by decide
  omega

theorem rd_one (w : World) (x : Int) (c : UInt8) (h : x = (c.toNat : Int)) : RdB (w.alloc (.cells #[.int .u8 x] 5)) (.slice (some ⟨w.heap.size, 0, none⟩) 1 1) [c] := by
  refine .inr ⟨w.heap.size, 0, 1, by simp, rfl, by simp, by unfold maxLen; omega, by simp, ?_⟩
  intro i hi
  simp only [List.length_cons, List.length_nil] at hi
  have : i = 0 := by omega
  subst this
  simp [World.cell?_alloc_at, h]

theorem own_nil (w : World) (base : Nat) (h : base ≤ w.heap.size) : OwnB base (w.alloc (.cells #[] 5)) (.slice (some ⟨w.heap.size, 0, none⟩) 0 0) [] :=
  World.ownsRow_lit w #[] 0 h (by unfold maxLen; omega) (by simp)

theorem OwnB.alloc {base : Nat} {w : World} {v : Value} {l : List UInt8} (h : OwnB base w v l) (o : Obj) : OwnB base (w.alloc o) v l := World.ownsRow.alloc h o

theorem app_own {ops : Array Oper} {rest : List Oper} {o : Oper} {a : Act} {Q : Exit → Act → World → Prop} (w : World) (hgd : o.guard = none) (s x : Operand)
    (ho : o.op = .call { callee := .builtin .append, args := #[s, x], argTypes := #[22, 22] })
    (base : Nat) (v vx : Value) (l k : List UInt8) (hs : a.eval s = v) (hx : a.eval x = vx) (hown : OwnB base w v l) (hrd : RdB w vx k)
    (hlen : l.length + k.length ≤ 100000000) (hbase : base ≤ w.heap.size)
    (h : ∀ v' w', OwnB base w' v' (l ++ k) → Below base w w' → wpList Tryz.prog ops Q rest (a.put o.dst v') w') : wpList Tryz.prog ops Q (o :: rest) a w := by
  obtain ⟨i0, hi, hz0, hz1, hz2⟩ := info_parts Tryz.infoU8
  have hbel : ∀ w', w.grownBy w' v.ownBlock → Below base w w' := fun w' hg => (Below.refl _ _).grown hg hbase (fun k hk => (World.ownsRow.lt hown k hk).1)
  rcases hrd with ⟨ax, cap, rfl, rfl, hnil⟩ | ⟨b, off, cap, h0, rfl, h1, h2, h3, h4⟩
  · cases ax with
    | none =>
      have hc : cap = 0 := hnil rfl
      subst hc
      refine wpList_append_own_none hgd s x 22 ho base 5 i0 1 Tryz.underlying22 hi v l.length (l.map cb) hs hown hx ?_
      exact h v w (by simpa [OwnB] using hown) (Below.refl _ _)
    | some ad =>
      refine wpList_append_own w hgd s x 22 ho base 5 i0 (.int .u8 0) 1 1 Tryz.underlying22 hi hz0 hz1 hz2 rfl (by decide) v l.length (l.map cb) hs hown ad 0 cap [] hx rfl (by intro j u hj; simp at hj) (by intro u hu; simp at hu) (by unfold maxLen; simp at hlen; omega) (by simp at hlen; omega) hbase ?_
      intro v' w' ho' hg _
      exact h v' w' (by simpa [OwnB] using ho') (hbel w' hg)
  · refine wpList_append_own w hgd s x 22 ho base 5 i0 (.int .u8 0) 1 1 Tryz.underlying22 hi hz0 hz1 hz2 rfl (by decide) v l.length (l.map cb) hs hown ⟨b, off, none⟩ k.length cap (k.map cb) hx (by simp) ?_ ?_ (by unfold maxLen; omega) (by omega) hbase ?_
    · intro j u hj
      have hj' : j < k.length := by have := (List.getElem?_eq_some_iff.1 hj).1; simpa using this
      have ea : (⟨b, off, none⟩ : Addr).add j = ⟨b, off + j, none⟩ := by
        by_cases hz : j = 0
        · subst hz; simp [Addr.add]
        · simp [Addr.add, hz]
      rw [ea, h4 j hj']
      simp [hj', cb] at hj
      rw [← hj]
    · intro u hu
      obtain ⟨c, _, rfl⟩ := List.mem_map.1 hu
      rfl
    · intro v' w' ho' hg _
      exact h v' w' (by simpa [OwnB] using ho') (hbel w' hg)
end Go.Proofs.YtkjlmnhdmlolmaaGreatDoor

namespace Go.Proofs.YtkjlmnhdmlolmaaGreatDoor
open Go.RowKit
set_option linter.unusedVariables false

theorem foldN_hi (n : Int) (h : 1000000000 < n) : foldN n = 2000000000 := by unfold foldN; rw [if_neg (by omega)]; omega
theorem foldN_lo (n : Int) (h : n < -1000000000) : foldN n = 1999999999 := by unfold foldN; rw [if_pos (by omega)]; omega
theorem foldN_pos (n : Int) (h : 0 ≤ n) (h' : n ≤ 1000000000) : (foldN n : Int) = 2 * n := by unfold foldN; rw [if_neg (by omega)]; omega
theorem foldN_neg (n : Int) (h : n < 0) (h' : -1000000000 ≤ n) : (foldN n : Int) = -2 * n - 1 := by unfold foldN; rw [if_pos (by omega)]; omega

theorem num_cases (n : Int) : 1000000000 < n ∨ n < -1000000000 ∨ (0 ≤ n ∧ n ≤ 1000000000) ∨ (n < 0 ∧ -1000000000 ≤ n) := by omega

set_option maxRecDepth 20000 in
theorem fold_any (n : Int) (w : World) (h1 : -9223372036854775808 ≤ n) (h2 : n ≤ 9223372036854775807) :
    Calls Tryz.prog 199 #[.int .i64 n] w fun e w' => e = .returned (.int .i64 (foldN n)) ∧ w' = w := by
  rcases num_cases n with h | h | ⟨h, h'⟩ | ⟨h, h'⟩
  · have hf := hide (foldN_hi n h)
    go_enter Tryz.func199, Tryz.ntmps199
    go_wp2
    go_ret
    exact ⟨ret_int (by rw [hf.out]; rfl), rfl⟩
  · have hf := hide (foldN_lo n h)
    go_enter Tryz.func199, Tryz.ntmps199
    go_wp2
    go_ret
    exact ⟨ret_int (by rw [hf.out]; rfl), rfl⟩
  · have hf := hide (foldN_pos n h h')
    go_enter Tryz.func199, Tryz.ntmps199
    go_wp2
    go_ret
    exact ⟨ret_int (by rw [hf.out]), rfl⟩
  · have hf := hide (foldN_neg n h h')
    go_enter Tryz.func199, Tryz.ntmps199
    go_wp2
    go_ret
    exact ⟨ret_int (by rw [hf.out]), rfl⟩

set_option maxRecDepth 20000 in
set_option maxHeartbeats 400000 in
theorem copied_any (v : Value) (l : List UInt8) (w : World) (hr : RdB w v l) (hl : l.length ≤ 50000000) :
    Calls Tryz.prog 169 #[v] w fun e w' => ∃ v', e = .returned v' ∧ OwnB w.heap.size w' v' l ∧ Below w.heap.size w w' := by
  have hb0 : Below w.heap.size w (w.alloc (.cells #[] 5)) := (Below.refl _ _).alloc (Nat.le_refl _) _
  have Hr := hide (hr.below hb0 (Nat.le_refl _))
  have Ho := hide (own_nil w w.heap.size (Nat.le_refl _))
  have Hb := hide hb0
  clear hr hb0
  go_enter Tryz.func169, Tryz.ntmps169
  go_wp2_with (at_builtin; refine app_own _ rfl _ _ rfl w.heap.size _ _ [] l rfl rfl Ho.out Hr.out (by simp; omega) (by simp) ?_; intro v' w1 ho1 hb1)
  go_ret
  exact ⟨_, rfl, ho1, Hb.out.trans hb1⟩

set_option maxRecDepth 20000 in
set_option maxHeartbeats 1000000 in
theorem appendNum_any (v : Value) (l : List UInt8) (n : Int) (base : Nat) (w : World) (ho : OwnB base w v l) (hbase : base ≤ w.heap.size) (hl : l.length ≤ 50000000) (h1 : -9223372036854775808 ≤ n) (h2 : n ≤ 9223372036854775807) :
    Calls Tryz.prog 170 #[v, .int .i64 n] w fun e w' => ∃ v', e = .returned v' ∧ OwnB base w' v' (l ++ numB n) ∧ Below base w w' := by
  have Hf := hide (fold_any n w h1 h2)
  have hM2 := foldN_le n
  have HN : Hid (numB n = putG 5 (foldN n)) := hide rfl
  generalize foldN n = M at Hf hM2 HN
  have Ho := hide ho
  clear ho
  go_enter Tryz.func170, Tryz.ntmps170
  go_wp2_with (go_at_call 199; refine Hf.out.mono ?_; rintro e w' ⟨rfl, rfl⟩)
  go_loopw [0, 5] (fun bv lv wr => ∃ (m f : Nat) (pre : List UInt8), lv = .int .i64 (m : Int) ∧ OwnB base wr bv (l ++ pre) ∧ Below base w' wr ∧ pre ++ putG f m = putG 5 M ∧ m < 128 ^ (f + 1) ∧ pre.length + f = 5 ∧ m ≤ 2000000000)
    (fun _ lv _ => (intOf lv).toNat)
  case atStart => exact ⟨M, 5, [], rfl, by simpa using Ho.out, Below.refl _ _, rfl, fold_pow M hM2, rfl, hM2⟩
  case round =>
    obtain ⟨m, f, pre, rfl, hown, hbel, hpre, hmf, hpf, hm2⟩ := hrel
    have hsz : base ≤ wr.heap.size := by have := hbel.size; omega
    have Hown := hide hown
    have Hbel := hide hbel
    have Hpre := hide hpre
    have Hmf := hide hmf
    have hpl : pre.length ≤ 5 := by omega
    have Hpf := hide hpf
    clear hown hbel hpre hmf hpf
    by_cases hm : m ≤ 127
    · have Hend : Hid (l ++ pre ++ [UInt8.ofNat m] = l ++ numB n) := hide (by
        rw [HN.out, ← Hpre.out, putG_last f m hm, List.append_assoc])
      go_wp2_with (at_builtin; refine app_own _ rfl _ _ rfl base _ _ (l ++ pre) [UInt8.ofNat m] rfl rfl (Hown.out.alloc _) (rd_one _ _ _ (by have := byte_of m (by omega); omega)) (by simp; omega) (by simp; omega) ?_; intro v' w1 ho1 hb1)
      go_ret
      rw [Hend.out] at ho1
      exact ⟨_, rfl, ho1, (Hbel.out.alloc hsz _).trans hb1⟩
    · obtain ⟨f', hf'⟩ : ∃ f', f = f' + 1 := by
        cases f with
        | zero => have := Hmf.out; simp at this; omega
        | succ f' => exact ⟨f', rfl⟩
      subst hf'
      have Hnext : Hid ((pre ++ [UInt8.ofNat (m % 128 + 128)]) ++ putG f' (m / 128) = putG 5 M) := hide (by
        rw [← Hpre.out, putG_more f' m hm]; simp)
      have Hdiv := hide (div_lt_pow m f' Hmf.out)
      go_wp2_with (at_builtin; refine app_own _ rfl _ _ rfl base _ _ (l ++ pre) [UInt8.ofNat (m % 128 + 128)] rfl rfl (Hown.out.alloc _) (rd_one _ _ _ (by have := byte_of (m % 128 + 128) (by omega); omega)) (by simp; omega) (by simp; omega) ?_; intro v' w1 ho1 hb1)
      go_roundw
      case rel => exact ⟨m / 128, f', pre ++ [UInt8.ofNat (m % 128 + 128)], by go_num, by rw [← List.append_assoc]; exact ho1, (Hbel.out.alloc hsz _).trans hb1, Hnext.out, Hdiv.out, by have := Hpf.out; simp; omega, by omega⟩
      case measure => simp [intOf]; omega

/-- A slice of one number, new at the top of this world. -/
theorem one_cell (w : World) (n : Int) (t : TypeId) : (w.alloc (.cells #[.int .i64 n] t)).cell? ⟨w.heap.size, 0, none⟩ = some (.int .i64 n) := by
  simp [World.cell?_alloc_at]

set_option maxRecDepth 20000 in
set_option maxHeartbeats 1000000 in
theorem putNums_any (v : Value) (l : List UInt8) (n : Int) (g : Nat) (w : World) (hr : RdB w v l) (hl : l.length ≤ 40000000) (hg : g < w.heap.size) (hc : w.cell? ⟨g, 0, none⟩ = some (.int .i64 n)) (h1 : -9223372036854775808 ≤ n) (h2 : n ≤ 9223372036854775807) :
    Calls Tryz.prog 103 #[v, .slice (some ⟨g, 0, none⟩) 1 1] w fun e w' => ∃ v', e = .returned v' ∧ OwnB w.heap.size w' v' (l ++ numB n) ∧ Below w.heap.size w w' := by
  have Hc := hide (copied_any v l w hr (by omega))
  clear hr
  go_enter Tryz.func103, Tryz.ntmps103
  go_wp2_with (go_at_call 169; refine Hc.out.mono ?_; rintro e w1 ⟨v1, rfl, ho1, hb1⟩)
  go_loopw [5, 12] (fun bv iv wr => ∃ k : Nat, k ≤ 1 ∧ iv = .int .i64 (k : Int) ∧ OwnB w.heap.size wr bv (l ++ (if k = 0 then [] else numB n)) ∧ Below w.heap.size w wr) (fun _ iv _ => 1 - (intOf iv).toNat)
  case atStart => exact ⟨0, by omega, rfl, by simpa using ho1, hb1⟩
  case round =>
    obtain ⟨k, hk, rfl, ho, hb⟩ := hrel
    by_cases hk0 : k < 1
    · have hk1 : k = 0 := by omega
      subst hk1
      have hcr : wr.cell? ⟨g, 0, none⟩ = some (.int .i64 n) := (hb.cell (p := ⟨g, 0, none⟩) hg).trans hc
      have ho' := ho
      rw [if_pos rfl, List.append_nil] at ho'
      have Ha := hide (appendNum_any _ l n w.heap.size wr ho' (by have := hb.size; omega) (by omega) h1 h2)
      have Hb := hide hb
      clear ho ho' hb ho1 hb1
      go_wp2_with (go_at_call 170; refine Ha.out.mono ?_; rintro e w2 ⟨v2, rfl, ho2, hb2⟩)
      go_roundw
      case rel => exact ⟨1, by omega, by go_num, by simpa using ho2, Hb.out.trans hb2⟩
      case measure => simp [intOf]
    · have hk1 : k = 1 := by omega
      subst hk1
      have ho' := ho
      rw [if_neg (by decide)] at ho'
      go_wp2
      go_ret
      exact ⟨_, rfl, ho', hb⟩


set_option maxRecDepth 20000 in
set_option maxHeartbeats 2000000 in
theorem specPutNum_any (v : Value) (l : List UInt8) (n : Int) (w : World) (hr : RdB w v l) (hl : l.length ≤ 40000000) (h1 : -9223372036854775808 ≤ n) (h2 : n ≤ 9223372036854775807) :
    Calls Tryz.prog 132 #[v, .int .i64 n] w fun e w' => ∃ v', e = .returned v' ∧ OwnB w.heap.size w' v' (l ++ numB n) ∧ Below w.heap.size w w' := by
  have hb0 : Below w.heap.size w (w.alloc (.cells #[] 5)) := (Below.refl _ _).alloc (Nat.le_refl _) _
  have Hr := hide (hr.below hb0 (Nat.le_refl _))
  have Ho := hide (own_nil w w.heap.size (Nat.le_refl _))
  have Hb := hide hb0
  clear hr hb0
  have hM2 := foldN_le n
  have HN : Hid (numB n = putG 5 (foldN n)) := hide rfl
  obtain ⟨M, hMe⟩ : ∃ M, foldN n = M := ⟨_, rfl⟩
  rw [hMe] at hM2 HN
  have hstart : Hid ((1000000000 < n → M = 2000000000) ∧ (n < -1000000000 → M = 1999999999) ∧ (0 ≤ n → n ≤ 1000000000 → (M : Int) = 2 * n) ∧ (n < 0 → -1000000000 ≤ n → (M : Int) = -2 * n - 1)) := hide (by
    rw [← hMe]; exact ⟨foldN_hi n, foldN_lo n, foldN_pos n, foldN_neg n⟩)
  clear hMe
  rcases num_cases n with h | h | ⟨h, h'⟩ | ⟨h, h'⟩
  all_goals
    go_enter Tryz.func132, Tryz.ntmps132
    go_wp2_with (at_builtin; refine app_own _ rfl _ _ rfl w.heap.size _ _ [] l rfl rfl Ho.out Hr.out (by simp; omega) (by simp) ?_; intro v1 w1 ho1 hb1)
    have hb1' : Below w.heap.size w w1 := Hb.out.trans hb1
    clear hb1
    rw [List.nil_append] at ho1
    go_loopw [5, 6] (fun bv lv wr => ∃ (m f : Nat) (pre : List UInt8), lv = .int .i64 (m : Int) ∧ OwnB w.heap.size wr bv (l ++ pre) ∧ Below w.heap.size w wr ∧ pre ++ putG f m = putG 5 M ∧ m < 128 ^ (f + 1) ∧ pre.length + f = 5 ∧ m ≤ 2000000000)
      (fun _ lv _ => (intOf lv).toNat)
    case atStart => exact ⟨M, 5, [], by have := hstart.out; first | (rw [this.1 h]; rfl) | (rw [this.2.1 h]; rfl) | (rw [this.2.2.1 h h']) | (rw [this.2.2.2 h h']), by simpa using ho1, hb1', rfl, fold_pow M hM2, rfl, hM2⟩
    case round =>
      obtain ⟨m, f, pre, rfl, hown, hbel, hpre, hmf, hpf, hm2⟩ := hrel
      have hsz : w.heap.size ≤ wr.heap.size := hbel.size
      have Hown := hide hown
      have Hbel := hide hbel
      have Hpre := hide hpre
      have Hmf := hide hmf
      have hpl : pre.length ≤ 5 := by omega
      have Hpf := hide hpf
      clear hown hbel hpre hmf hpf ho1 hb1'
      by_cases hm : m ≤ 127
      · have Hend : Hid (l ++ pre ++ [UInt8.ofNat m] = l ++ numB n) := hide (by
          rw [HN.out, ← Hpre.out, putG_last f m hm, List.append_assoc])
        go_wp2_with (at_builtin; refine app_own _ rfl _ _ rfl w.heap.size _ _ (l ++ pre) [UInt8.ofNat m] rfl rfl (Hown.out.alloc _) (rd_one _ _ _ (by have := byte_of m (by omega); omega)) (by simp; omega) (by simp; omega) ?_; intro v' w1 ho1 hb1)
        go_ret
        rw [Hend.out] at ho1
        exact ⟨_, rfl, ho1, (Hbel.out.alloc hsz _).trans hb1⟩
      · obtain ⟨f', hf'⟩ : ∃ f', f = f' + 1 := by
          cases f with
          | zero => have := Hmf.out; simp at this; omega
          | succ f' => exact ⟨f', rfl⟩
        subst hf'
        have Hnext : Hid ((pre ++ [UInt8.ofNat (m % 128 + 128)]) ++ putG f' (m / 128) = putG 5 M) := hide (by
          rw [← Hpre.out, putG_more f' m hm]; simp)
        have Hdiv := hide (div_lt_pow m f' Hmf.out)
        obtain ⟨D, hD, hD2⟩ : ∃ D : Nat, m % 128 = D ∧ D < 128 := ⟨_, rfl, Nat.mod_lt _ (by omega)⟩
        obtain ⟨C, hC, hC2⟩ : ∃ C : Nat, D + 128 = C ∧ C < 256 := ⟨_, rfl, by omega⟩
        have e1 : bits .and .i64 (m : Int) 127 = (D : Int) := by rw [and127 m (by omega), hD]
        have e2 : bits .or .i64 (D : Int) 128 = (C : Int) := by rw [or128 D hD2, hC]
        rw [hD, hC] at Hnext
        clear hD hC
        go_wp2_with (at_builtin; refine app_own _ rfl _ _ rfl w.heap.size _ _ (l ++ pre) [UInt8.ofNat C] rfl rfl (Hown.out.alloc _) (rd_one _ _ _ (by have := byte_of C hC2; omega)) (by simp; omega) (by simp; omega) ?_; intro v' w1 ho1 hb1)
        go_roundw
        case rel => exact ⟨m / 128, f', pre ++ [UInt8.ofNat C], by go_num, by rw [← List.append_assoc]; exact ho1, (Hbel.out.alloc hsz _).trans hb1, Hnext.out, Hdiv.out, by have := Hpf.out; simp; omega, by omega⟩
        case measure => simp [intOf]; omega
end Go.Proofs.YtkjlmnhdmlolmaaGreatDoor

namespace Go.Proofs.YtkjlmnhdmlolmaaGreatDoor
open Go.RowKit
set_option linter.unusedVariables false

theorem putG_ne (f m : Nat) : putG f m ≠ [] := by
  cases f with
  | zero => simp [putG]
  | succ f => rw [putG]; split <;> simp

theorem low_byte (m : Nat) (h : m ≤ 127) : (UInt8.ofNat m).toNat = m := by rw [UInt8.toNat_ofNat']; omega
theorem high_byte (m : Nat) : (UInt8.ofNat (m % 128 + 128)).toNat = m % 128 + 128 := by rw [UInt8.toNat_ofNat']; omega

theorem sum_step (acc m k : Nat) : acc + m % 128 * 128 ^ k + m / 128 * 128 ^ (k + 1) = acc + m * 128 ^ k := by
  have e : m = m % 128 + 128 * (m / 128) := (Nat.mod_add_div m 128).symm
  rw [Nat.pow_succ, Nat.mul_comm (128 ^ k) 128, ← Nat.mul_assoc, Nat.add_assoc, ← Nat.add_mul]
  congr 2
  omega

theorem gr_put : ∀ (f F m acc k : Nat) (rest : List UInt8), F ≤ f + 1 → 0 < F → m < 128 ^ F →
    ∃ C, gr F (putG f m ++ rest) acc k = some (acc + m * 128 ^ k, k + ((putG f m).length - 1), C) ∧ (C = 0 → m = 0) ∧ (127 < m → 1 < (putG f m).length) ∧ (m ≤ 127 → (putG f m).length = 1) := by
  intro f
  induction f with
  | zero =>
    intro F m acc k rest hF hF0 hm
    cases F with
    | zero => omega
    | succ F =>
      have : F = 0 := by omega
      subst this
      simp at hm
      refine ⟨m, ?_, id, fun h => by omega, fun _ => by simp [putG]⟩
      simp only [putG, List.singleton_append, gr, low_byte m (by omega)]
      rw [if_neg (by omega), Nat.mod_eq_of_lt (by omega)]
      simp
  | succ f ih =>
    intro F m acc k rest hF hF0 hm
    by_cases h : m ≤ 127
    · rw [putG_last _ m h]
      cases F with
      | zero => omega
      | succ F =>
        refine ⟨m, ?_, id, fun h => by omega, fun _ => by simp⟩
        simp only [List.singleton_append, gr, low_byte m h]
        rw [if_neg (by omega), Nat.mod_eq_of_lt (by omega)]
        simp
    · rw [putG_more f m h]
      cases F with
      | zero => omega
      | succ F =>
        have hm' : m / 128 < 128 ^ F := by
          rw [Nat.pow_succ] at hm
          exact Nat.div_lt_of_lt_mul (by rw [Nat.mul_comm]; exact hm)
        obtain ⟨C, hg, hC, hl1, hl2⟩ := ih F (m / 128) (acc + m % 128 * 128 ^ k) (k + 1) rest (by omega) (by
          cases F with
          | zero => simp at hm'; omega
          | succ F => omega) hm'
        refine ⟨C, ?_, fun h0 => by have := hC h0; omega, fun _ => ?_, fun h' => by omega⟩
        · simp only [List.cons_append, gr, high_byte]
          rw [if_pos (by omega), show (m % 128 + 128) % 128 = m % 128 from by omega, hg, sum_step]
          have hne : (putG f (m / 128)).length ≠ 0 := by rw [Ne, List.length_eq_zero_iff]; exact putG_ne _ _
          simp only [List.length_cons]
          congr 3
          omega
        · have hne : (putG f (m / 128)).length ≠ 0 := by rw [Ne, List.length_eq_zero_iff]; exact putG_ne _ _
          simp only [List.length_cons]; omega

theorem gr_cut : ∀ (f F m acc k : Nat), gr F ((putG f m).dropLast) acc k = none := by
  intro f
  induction f with
  | zero => intro F m acc k; cases F <;> simp [putG, gr]
  | succ f ih =>
    intro F m acc k
    by_cases h : m ≤ 127
    · rw [putG_last _ m h]; cases F <;> simp [gr]
    · rw [putG_more f m h, List.dropLast_cons_of_ne_nil (putG_ne _ _)]
      cases F with
      | zero => rfl
      | succ F =>
        rw [gr, high_byte, if_pos (by omega)]
        exact ih _ _ _ _

def clampN (n : Int) : Int := if 1000000000 < n then 1000000000 else if n < -1000000000 then -1000000000 else n

theorem unfold_fold (n : Int) : (if foldN n % 2 = 1 then -((foldN n : Int) / 2) - 1 else (foldN n : Int) / 2) = clampN n := by
  unfold foldN clampN
  split <;> split <;> split <;> omega

theorem getN_put (l rest : List UInt8) (n : Int) : getN (l ++ (numB n ++ rest)) (l.length : Int) = (clampN n, (l.length : Int) + (numB n).length, true) := by
  have hM := foldN_le n
  obtain ⟨C, hg, hC, hl1, hl2⟩ := gr_put 5 5 (foldN n) 0 0 rest (by omega) (by omega) (by
    have : (128 : Nat) ^ 5 = 34359738368 := by decide
    omega)
  have hne : (putG 5 (foldN n)).length ≠ 0 := by rw [Ne, List.length_eq_zero_iff]; exact putG_ne _ _
  have hlen : 0 < (numB n).length := by unfold numB; omega
  unfold getN
  rw [if_pos (by simp; omega)]
  rw [Int.toNat_natCast, List.drop_left]
  unfold numB
  rw [hg]
  simp only [Nat.zero_add, Nat.pow_zero, Nat.mul_one]
  rw [if_neg (by omega), unfold_fold]
  congr 2
  omega

theorem getN_cut (l : List UInt8) (n : Int) : getN (l ++ (numB n).dropLast) (l.length : Int) = (0, 0, false) := by
  unfold getN
  split
  · rw [Int.toNat_natCast, List.drop_left]
    unfold numB
    rw [gr_cut]
  · rfl
end Go.Proofs.YtkjlmnhdmlolmaaGreatDoor
