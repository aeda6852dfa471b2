/- PutNum: the program's and the model's lay the same bytes behind what was there, in memory of their own. PutText, and texts put one behind the other: the program's and the model's lay the same bytes, in memory of their own. PutNames: the program's and the model's lay the same bytes, in memory of their own. The model's orders: which are right, which is less. -/
import Derived.Test.YtcmmdkabocfnfaaGreatDoorZrDraw
import Derived.Test.YtcmmdkabocfnfaaGreatDoorZrDrawTx
import Derived.Lib.AppendStr
import Derived.Test.YtcmmdkabocfnfaaGreatDoorZrTxBlk
namespace Go.Proofs.YtcmmdkabocfnfaaGreatDoor
open Go.RowKit
set_option linter.unusedVariables false

theorem foldN_hi (n : Int) (h : 1000000000 < n) : foldN n = 2000000000 := by unfold foldN; rw [if_neg (by omega)]; omega
theorem foldN_lo (n : Int) (h : n < -1000000000) : foldN n = 1999999999 := by unfold foldN; rw [if_pos (by omega)]; omega
theorem foldN_pos (n : Int) (h : 0 ≤ n) (h' : n ≤ 1000000000) : (foldN n : Int) = 2 * n := by unfold foldN; rw [if_neg (by omega)]; omega
theorem foldN_neg (n : Int) (h : n < 0) (h' : -1000000000 ≤ n) : (foldN n : Int) = -2 * n - 1 := by unfold foldN; rw [if_pos (by omega)]; omega

theorem num_cases (n : Int) : 1000000000 < n ∨ n < -1000000000 ∨ (0 ≤ n ∧ n ≤ 1000000000) ∨ (n < 0 ∧ -1000000000 ≤ n) := by omega

set_option maxRecDepth 20000 in
theorem fold_any (n : Int) (w : World) (h1 : -9223372036854775808 ≤ n) (h2 : n ≤ 9223372036854775807) :
    Calls Tryz.prog 147 #[.int .i64 n] w fun e w' => e = .returned (.int .i64 (foldN n)) ∧ w' = w := by
  rcases num_cases n with h | h | ⟨h, h'⟩ | ⟨h, h'⟩
  · have hf := hide (foldN_hi n h)
    go_enter Tryz.func147, Tryz.ntmps147
    go_wp2
    go_ret
    exact ⟨ret_int (by rw [hf.out]; rfl), rfl⟩
  · have hf := hide (foldN_lo n h)
    go_enter Tryz.func147, Tryz.ntmps147
    go_wp2
    go_ret
    exact ⟨ret_int (by rw [hf.out]; rfl), rfl⟩
  · have hf := hide (foldN_pos n h h')
    go_enter Tryz.func147, Tryz.ntmps147
    go_wp2
    go_ret
    exact ⟨ret_int (by rw [hf.out]), rfl⟩
  · have hf := hide (foldN_neg n h h')
    go_enter Tryz.func147, Tryz.ntmps147
    go_wp2
    go_ret
    exact ⟨ret_int (by rw [hf.out]), rfl⟩

set_option maxRecDepth 20000 in
set_option maxHeartbeats 400000 in
theorem copied_any (v : Value) (l : List UInt8) (w : World) (hr : RdB w v l) (hl : l.length ≤ 50000000) :
    Calls Tryz.prog 131 #[v] w fun e w' => ∃ v', e = .returned v' ∧ OwnB w.heap.size w' v' l ∧ Below w.heap.size w w' := by
  have hb0 : Below w.heap.size w (w.alloc (.cells #[] 5)) := (Below.refl _ _).alloc (Nat.le_refl _) _
  have Hr := hide (hr.below hb0 (Nat.le_refl _))
  have Ho := hide (own_nil w w.heap.size (Nat.le_refl _))
  have Hb := hide hb0
  clear hr hb0
  go_enter Tryz.func131, Tryz.ntmps131
  go_wp2_with (at_builtin; refine app_own _ rfl _ _ rfl w.heap.size _ _ [] l rfl rfl Ho.out Hr.out (by simp; omega) (by simp) ?_; intro v' w1 ho1 hb1)
  go_ret
  exact ⟨_, rfl, ho1, Hb.out.trans hb1⟩

set_option maxRecDepth 20000 in
set_option maxHeartbeats 1000000 in
theorem appendNum_any (v : Value) (l : List UInt8) (n : Int) (base : Nat) (w : World) (ho : OwnB base w v l) (hbase : base ≤ w.heap.size) (hl : l.length ≤ 50000000) (h1 : -9223372036854775808 ≤ n) (h2 : n ≤ 9223372036854775807) :
    Calls Tryz.prog 132 #[v, .int .i64 n] w fun e w' => ∃ v', e = .returned v' ∧ OwnB base w' v' (l ++ numB n) ∧ Below base w w' := by
  have Hf := hide (fold_any n w h1 h2)
  have hM2 := foldN_le n
  have HN : Hid (numB n = putG 5 (foldN n)) := hide rfl
  generalize foldN n = M at Hf hM2 HN
  have Ho := hide ho
  clear ho
  go_enter Tryz.func132, Tryz.ntmps132
  go_wp2_with (go_at_call 147; refine Hf.out.mono ?_; rintro e w' ⟨rfl, rfl⟩)
  go_loopw [0, 5] (fun bv lv wr => ∃ (m f : Nat) (pre : List UInt8), lv = .int .i64 (m : Int) ∧ OwnB base wr bv (l ++ pre) ∧ Below base w' wr ∧ pre ++ putG f m = putG 5 M ∧ m < 128 ^ (f + 1) ∧ pre.length + f = 5 ∧ m ≤ 2000000000)
    (fun _ lv _ => (intOf lv).toNat)
  case atStart => exact ⟨M, 5, [], rfl, by simpa using Ho.out, Below.refl _ _, rfl, fold_pow M hM2, rfl, hM2⟩
  case round =>
    obtain ⟨m, f, pre, rfl, hown, hbel, hpre, hmf, hpf, hm2⟩ := hrel
    have hsz : base ≤ wr.heap.size := by have := hbel.size; omega
    have Hown := hide hown
    have Hbel := hide hbel
    have Hpre := hide hpre
    have Hmf := hide hmf
    have hpl : pre.length ≤ 5 := by omega
    have Hpf := hide hpf
    clear hown hbel hpre hmf hpf
    by_cases hm : m ≤ 127
    · have Hend : Hid (l ++ pre ++ [UInt8.ofNat m] = l ++ numB n) := hide (by
        rw [HN.out, ← Hpre.out, putG_last f m hm, List.append_assoc])
      go_wp2_with (at_builtin; refine app_own _ rfl _ _ rfl base _ _ (l ++ pre) [UInt8.ofNat m] rfl rfl (Hown.out.alloc _) (rd_one _ _ _ (by have := byte_of m (by omega); omega)) (by simp; omega) (by simp; omega) ?_; intro v' w1 ho1 hb1)
      go_ret
      rw [Hend.out] at ho1
      exact ⟨_, rfl, ho1, (Hbel.out.alloc hsz _).trans hb1⟩
    · obtain ⟨f', hf'⟩ : ∃ f', f = f' + 1 := by
        cases f with
        | zero => have := Hmf.out; simp at this; omega
        | succ f' => exact ⟨f', rfl⟩
      subst hf'
      have Hnext : Hid ((pre ++ [UInt8.ofNat (m % 128 + 128)]) ++ putG f' (m / 128) = putG 5 M) := hide (by
        rw [← Hpre.out, putG_more f' m hm]; simp)
      have Hdiv := hide (div_lt_pow m f' Hmf.out)
      go_wp2_with (at_builtin; refine app_own _ rfl _ _ rfl base _ _ (l ++ pre) [UInt8.ofNat (m % 128 + 128)] rfl rfl (Hown.out.alloc _) (rd_one _ _ _ (by have := byte_of (m % 128 + 128) (by omega); omega)) (by simp; omega) (by simp; omega) ?_; intro v' w1 ho1 hb1)
      go_roundw
      case rel => exact ⟨m / 128, f', pre ++ [UInt8.ofNat (m % 128 + 128)], by go_num, by rw [← List.append_assoc]; exact ho1, (Hbel.out.alloc hsz _).trans hb1, Hnext.out, Hdiv.out, by have := Hpf.out; simp; omega, by omega⟩
      case measure => simp [intOf]; omega

/-- A slice of one number, new at the top of this world. -/
theorem one_cell (w : World) (n : Int) (t : TypeId) : (w.alloc (.cells #[.int .i64 n] t)).cell? ⟨w.heap.size, 0, none⟩ = some (.int .i64 n) := by
  simp [World.cell?_alloc_at]

set_option maxRecDepth 20000 in
set_option maxHeartbeats 1000000 in
theorem putNums_any (v : Value) (l : List UInt8) (n : Int) (g : Nat) (w : World) (hr : RdB w v l) (hl : l.length ≤ 40000000) (hg : g < w.heap.size) (hc : w.cell? ⟨g, 0, none⟩ = some (.int .i64 n)) (h1 : -9223372036854775808 ≤ n) (h2 : n ≤ 9223372036854775807) :
    Calls Tryz.prog 103 #[v, .slice (some ⟨g, 0, none⟩) 1 1] w fun e w' => ∃ v', e = .returned v' ∧ OwnB w.heap.size w' v' (l ++ numB n) ∧ Below w.heap.size w w' := by
  have Hc := hide (copied_any v l w hr (by omega))
  clear hr
  go_enter Tryz.func103, Tryz.ntmps103
  go_wp2_with (go_at_call 131; refine Hc.out.mono ?_; rintro e w1 ⟨v1, rfl, ho1, hb1⟩)
  go_loopw [5, 12] (fun bv iv wr => ∃ k : Nat, k ≤ 1 ∧ iv = .int .i64 (k : Int) ∧ OwnB w.heap.size wr bv (l ++ (if k = 0 then [] else numB n)) ∧ Below w.heap.size w wr) (fun _ iv _ => 1 - (intOf iv).toNat)
  case atStart => exact ⟨0, by omega, rfl, by simpa using ho1, hb1⟩
  case round =>
    obtain ⟨k, hk, rfl, ho, hb⟩ := hrel
    by_cases hk0 : k < 1
    · have hk1 : k = 0 := by omega
      subst hk1
      have hcr : wr.cell? ⟨g, 0, none⟩ = some (.int .i64 n) := (hb.cell (p := ⟨g, 0, none⟩) hg).trans hc
      have ho' := ho
      rw [if_pos rfl, List.append_nil] at ho'
      have Ha := hide (appendNum_any _ l n w.heap.size wr ho' (by have := hb.size; omega) (by omega) h1 h2)
      have Hb := hide hb
      clear ho ho' hb ho1 hb1
      go_wp2_with (go_at_call 132; refine Ha.out.mono ?_; rintro e w2 ⟨v2, rfl, ho2, hb2⟩)
      go_roundw
      case rel => exact ⟨1, by omega, by go_num, by simpa using ho2, Hb.out.trans hb2⟩
      case measure => simp [intOf]
    · have hk1 : k = 1 := by omega
      subst hk1
      have ho' := ho
      rw [if_neg (by decide)] at ho'
      go_wp2
      go_ret
      exact ⟨_, rfl, ho', hb⟩


set_option maxRecDepth 20000 in
set_option maxHeartbeats 2000000 in
theorem specPutNum_any (v : Value) (l : List UInt8) (n : Int) (w : World) (hr : RdB w v l) (hl : l.length ≤ 40000000) (h1 : -9223372036854775808 ≤ n) (h2 : n ≤ 9223372036854775807) :
    Calls Tryz.prog 75 #[v, .int .i64 n] w fun e w' => ∃ v', e = .returned v' ∧ OwnB w.heap.size w' v' (l ++ numB n) ∧ Below w.heap.size w w' := by
  have hb0 : Below w.heap.size w (w.alloc (.cells #[] 5)) := (Below.refl _ _).alloc (Nat.le_refl _) _
  have Hr := hide (hr.below hb0 (Nat.le_refl _))
  have Ho := hide (own_nil w w.heap.size (Nat.le_refl _))
  have Hb := hide hb0
  clear hr hb0
  have hM2 := foldN_le n
  have HN : Hid (numB n = putG 5 (foldN n)) := hide rfl
  obtain ⟨M, hMe⟩ : ∃ M, foldN n = M := ⟨_, rfl⟩
  rw [hMe] at hM2 HN
  have hstart : Hid ((1000000000 < n → M = 2000000000) ∧ (n < -1000000000 → M = 1999999999) ∧ (0 ≤ n → n ≤ 1000000000 → (M : Int) = 2 * n) ∧ (n < 0 → -1000000000 ≤ n → (M : Int) = -2 * n - 1)) := hide (by
    rw [← hMe]; exact ⟨foldN_hi n, foldN_lo n, foldN_pos n, foldN_neg n⟩)
  clear hMe
  rcases num_cases n with h | h | ⟨h, h'⟩ | ⟨h, h'⟩
  all_goals
    go_enter Tryz.func75, Tryz.ntmps75
    go_wp2_with (at_builtin; refine app_own _ rfl _ _ rfl w.heap.size _ _ [] l rfl rfl Ho.out Hr.out (by simp; omega) (by simp) ?_; intro v1 w1 ho1 hb1)
    have hb1' : Below w.heap.size w w1 := Hb.out.trans hb1
    clear hb1
    rw [List.nil_append] at ho1
    go_loopw [5, 6] (fun bv lv wr => ∃ (m f : Nat) (pre : List UInt8), lv = .int .i64 (m : Int) ∧ OwnB w.heap.size wr bv (l ++ pre) ∧ Below w.heap.size w wr ∧ pre ++ putG f m = putG 5 M ∧ m < 128 ^ (f + 1) ∧ pre.length + f = 5 ∧ m ≤ 2000000000)
      (fun _ lv _ => (intOf lv).toNat)
    case atStart => exact ⟨M, 5, [], by have := hstart.out; first | (rw [this.1 h]; rfl) | (rw [this.2.1 h]; rfl) | (rw [this.2.2.1 h h']) | (rw [this.2.2.2 h h']), by simpa using ho1, hb1', rfl, fold_pow M hM2, rfl, hM2⟩
    case round =>
      obtain ⟨m, f, pre, rfl, hown, hbel, hpre, hmf, hpf, hm2⟩ := hrel
      have hsz : w.heap.size ≤ wr.heap.size := hbel.size
      have Hown := hide hown
      have Hbel := hide hbel
      have Hpre := hide hpre
      have Hmf := hide hmf
      have hpl : pre.length ≤ 5 := by omega
      have Hpf := hide hpf
      clear hown hbel hpre hmf hpf ho1 hb1'
      by_cases hm : m ≤ 127
      · have Hend : Hid (l ++ pre ++ [UInt8.ofNat m] = l ++ numB n) := hide (by
          rw [HN.out, ← Hpre.out, putG_last f m hm, List.append_assoc])
        go_wp2_with (at_builtin; refine app_own _ rfl _ _ rfl w.heap.size _ _ (l ++ pre) [UInt8.ofNat m] rfl rfl (Hown.out.alloc _) (rd_one _ _ _ (by have := byte_of m (by omega); omega)) (by simp; omega) (by simp; omega) ?_; intro v' w1 ho1 hb1)
        go_ret
        rw [Hend.out] at ho1
        exact ⟨_, rfl, ho1, (Hbel.out.alloc hsz _).trans hb1⟩
      · obtain ⟨f', hf'⟩ : ∃ f', f = f' + 1 := by
          cases f with
          | zero => have := Hmf.out; simp at this; omega
          | succ f' => exact ⟨f', rfl⟩
        subst hf'
        have Hnext : Hid ((pre ++ [UInt8.ofNat (m % 128 + 128)]) ++ putG f' (m / 128) = putG 5 M) := hide (by
          rw [← Hpre.out, putG_more f' m hm]; simp)
        have Hdiv := hide (div_lt_pow m f' Hmf.out)
        obtain ⟨D, hD, hD2⟩ : ∃ D : Nat, m % 128 = D ∧ D < 128 := ⟨_, rfl, Nat.mod_lt _ (by omega)⟩
        obtain ⟨C, hC, hC2⟩ : ∃ C : Nat, D + 128 = C ∧ C < 256 := ⟨_, rfl, by omega⟩
        have e1 : bits .and .i64 (m : Int) 127 = (D : Int) := by rw [and127 m (by omega), hD]
        have e2 : bits .or .i64 (D : Int) 128 = (C : Int) := by rw [or128 D hD2, hC]
        rw [hD, hC] at Hnext
        clear hD hC
        go_wp2_with (at_builtin; refine app_own _ rfl _ _ rfl w.heap.size _ _ (l ++ pre) [UInt8.ofNat C] rfl rfl (Hown.out.alloc _) (rd_one _ _ _ (by have := byte_of C hC2; omega)) (by simp; omega) (by simp; omega) ?_; intro v' w1 ho1 hb1)
        go_roundw
        case rel => exact ⟨m / 128, f', pre ++ [UInt8.ofNat C], by go_num, by rw [← List.append_assoc]; exact ho1, (Hbel.out.alloc hsz _).trans hb1, Hnext.out, Hdiv.out, by have := Hpf.out; simp; omega, by omega⟩
        case measure => simp [intOf]; omega
end Go.Proofs.YtcmmdkabocfnfaaGreatDoor

namespace Go.Proofs.YtcmmdkabocfnfaaGreatDoor
open Go.RowKit
set_option linter.unusedVariables false

def textB (s : ByteArray) : List UInt8 := numB (s.size : Int) ++ s.data.toList
def textsB (ls : List ByteArray) : List UInt8 := ls.flatMap textB

theorem textB_len (s : ByteArray) : (textB s).length ≤ 6 + s.size := by
  have := numB_len (s.size : Int)
  simp [textB]; omega
theorem textsB_len : ∀ ls : List ByteArray, (textsB ls).length ≤ 6 * ls.length + tot ls := by
  intro ls
  induction ls with
  | nil => simp [textsB, tot]
  | cons s t ih =>
    have := textB_len s
    simp only [textsB, tot, List.flatMap_cons, List.length_append, List.length_cons, List.map_cons, List.sum_cons] at ih ⊢
    omega
theorem textsB_snoc (ls : List ByteArray) (k : Nat) (h : k < ls.length) : textsB (ls.take (k + 1)) = textsB (ls.take k) ++ textB ls[k] := by
  rw [List.take_succ_eq_append_getElem h]; simp only [textsB, List.flatMap_append, List.flatMap_cons, List.flatMap_nil, List.append_nil]
theorem textsB_take_len (ls : List ByteArray) (k : Nat) : (textsB (ls.take k)).length ≤ 6 * ls.length + tot ls := by
  have h1 := textsB_len (ls.take k)
  have h2 := tot_take ls k
  have h3 : (ls.take k).length ≤ ls.length := by simp; omega
  omega

theorem app_str {ops : Array Oper} {rest : List Oper} {o : Oper} {a : Act} {Q : Exit → Act → World → Prop} (w : World) (hgd : o.guard = none) (s x : Operand)
    (ho : o.op = .call { callee := .builtin .append, args := #[s, x], argTypes := #[22, 9] })
    (base : Nat) (v : Value) (t : ByteArray) (l : List UInt8) (hs : a.eval s = v) (hx : a.eval x = .string t) (hown : OwnB base w v l)
    (hlen : l.length + t.size ≤ 100000000) (hbase : base ≤ w.heap.size)
    (h : ∀ v' w', OwnB base w' v' (l ++ t.data.toList) → Below base w w' → wpList Tryz.prog ops Q rest (a.put o.dst v') w') : wpList Tryz.prog ops Q (o :: rest) a w := by
  obtain ⟨i0, hi, hz0, hz1, hz2⟩ := info_parts Tryz.infoU8
  refine Lib.wpList_append_own_string w hgd s x 22 9 ho base 5 i0 Tryz.underlying22 Tryz.underlying9 hi hz0 hz1 hz2 v l.length (l.map cb) hs hown t hx (by unfold maxLen; omega) (by omega) hbase ?_
  intro v' w' ho' hg _
  refine h v' w' ?_ ((Below.refl _ _).grown hg hbase (fun k hk => (World.ownsRow.lt hown k hk).1))
  have e1 : l.map cb ++ Lib.strCells t = (l ++ t.data.toList).map cb := by
    rw [List.map_append]; rfl
  have e2 : l.length + t.size = (l ++ t.data.toList).length := by simp
  rw [e1, e2] at ho'
  exact ho'

set_option maxRecDepth 20000 in
theorem specPutText_any (v : Value) (l : List UInt8) (s : ByteArray) (w : World) (hr : RdB w v l) (hl : l.length ≤ 40000000) (hs : s.size ≤ 10000000) :
    Calls Tryz.prog 74 #[v, .string s] w fun e w' => ∃ v', e = .returned v' ∧ OwnB w.heap.size w' v' (l ++ textB s) ∧ Below w.heap.size w w' := by
  have Hp := hide (specPutNum_any v l (s.size : Int) w hr hl (by omega) (by omega))
  have hn := numB_len (s.size : Int)
  have HT : Hid (textB s = numB (s.size : Int) ++ s.data.toList) := hide rfl
  clear hr
  generalize numB (s.size : Int) = nb at Hp hn HT
  go_enter Tryz.func74, Tryz.ntmps74
  go_wp2_with fail
  refine Hp.out.mono ?_
  rintro e w1 ⟨v1, rfl, ho1, hb1⟩
  have hsz := hb1.size
  go_wp2_with (at_builtin; refine app_str _ rfl _ _ rfl w.heap.size _ s (l ++ nb) rfl rfl ho1 (by simp; omega) hsz ?_; intro v2 w2 ho2 hb2)
  go_ret
  exact ⟨_, rfl, by rw [HT.out, ← List.append_assoc]; exact ho2, hb1.trans hb2⟩

set_option maxRecDepth 20000 in
set_option maxHeartbeats 1000000 in
theorem putTexts_any (v vs : Value) (l : List UInt8) (ls : List ByteArray) (w : World) (hr : RdB w v l) (hrs : RdS w vs ls) (hl : l.length ≤ 20000000) (hls : ls.length ≤ 2000000) (ht : tot ls ≤ 10000000) :
    Calls Tryz.prog 102 #[v, vs] w fun e w' => ∃ v', e = .returned v' ∧ OwnB w.heap.size w' v' (l ++ textsB ls) ∧ Below w.heap.size w w' := by
  have Hc := hide (copied_any v l w hr (by omega))
  clear hr
  rcases hrs with ⟨a, cap, rfl, rfl, -⟩ | ⟨b, off, cap, h0, rfl, h1, h2, h3, h4⟩
  · go_enter Tryz.func102, Tryz.ntmps102
    go_wp2_with (go_at_call 131; refine Hc.out.mono ?_; rintro e w1 ⟨v1, rfl, ho1, hb1⟩)
    refine wp_loop_rounds 1 ?_
    rw [rounds_succ]
    go_wp2
    go_ret
    exact ⟨_, rfl, by simpa [textsB] using ho1, hb1⟩
  · go_enter Tryz.func102, Tryz.ntmps102
    go_wp2_with (go_at_call 131; refine Hc.out.mono ?_; rintro e w1 ⟨v1, rfl, ho1, hb1⟩)
    go_loopw [5, 12] (fun bv iv wr => ∃ k : Nat, k ≤ ls.length ∧ iv = .int .i64 (k : Int) ∧ OwnB w.heap.size wr bv (l ++ textsB (ls.take k)) ∧ Below w.heap.size w wr) (fun _ iv _ => ls.length - (intOf iv).toNat)
    case atStart => exact ⟨0, by omega, rfl, by simpa [textsB] using ho1, hb1⟩
    case round =>
      obtain ⟨k, hk, rfl, ho, hb⟩ := hrel
      clear ho1 hb1
      by_cases hlt : k < ls.length
      · have hcr : wr.cell? ⟨b, off + k, none⟩ = some (.string ls[k]) := (hb.cell (p := ⟨b, off + k, none⟩) h3).trans (h4 k hlt)
        have hsn := hide (textsB_snoc ls k hlt)
        have hsz : ls[k].size ≤ 10000000 := Nat.le_trans (tot_at ls k hlt) ht
        have hTl := textsB_take_len ls k
        have HT : Hid (textB ls[k] = numB (ls[k].size : Int) ++ ls[k].data.toList) := hide rfl
        have hnl := numB_len (ls[k].size : Int)
        have hbs := hb.size
        generalize ls[k] = s at hcr hsn hsz HT hnl
        generalize textsB (ls.take k) = pre at ho hsn hTl
        have Ha := hide (appendNum_any _ (l ++ pre) (s.size : Int) w.heap.size wr ho hbs (by simp; omega) (by omega) (by omega))
        generalize numB (s.size : Int) = nb at Ha HT hnl
        have Hb := hide hb
        clear ho hb h4
        go_wp2_with fail
        refine Ha.out.mono ?_
        rintro e w2 ⟨v2, rfl, ho2, hb2⟩
        have hbs2 := hb2.size
        go_wp2_with (at_builtin; refine app_str _ rfl _ _ rfl w.heap.size _ s (l ++ pre ++ nb) rfl rfl ho2 (by simp; omega) (by omega) ?_; intro v3 w3 ho3 hb3)
        go_roundw
        case rel => exact ⟨k + 1, by omega, by go_num, by rw [hsn.out, HT.out, ← List.append_assoc, ← List.append_assoc]; exact ho3, (Hb.out.trans hb2).trans hb3⟩
        case measure => simp [intOf]; omega
      · have e : ls.take k = ls := List.take_of_length_le (by omega)
        rw [e] at ho
        clear e h4
        go_wp2
        go_ret
        exact ⟨_, rfl, ho, hb⟩

end Go.Proofs.YtcmmdkabocfnfaaGreatDoor

namespace Go.Proofs.YtcmmdkabocfnfaaGreatDoor
open Go.RowKit
set_option linter.unusedVariables false

def namesB (ls : List ByteArray) : List UInt8 := numB (ls.length : Int) ++ textsB ls
theorem namesB_len (ls : List ByteArray) : (namesB ls).length ≤ 6 + 6 * ls.length + tot ls := by
  have := numB_len (ls.length : Int)
  have := textsB_len ls
  simp [namesB]; omega

set_option maxRecDepth 20000 in
set_option maxHeartbeats 1000000 in
theorem specPutNames_any (v vs : Value) (l : List UInt8) (ls : List ByteArray) (w : World) (hr : RdB w v l) (hrs : RdS w vs ls) (hl : l.length ≤ 10000000) (hls : ls.length ≤ 2000000) (ht : tot ls ≤ 10000000) :
    Calls Tryz.prog 120 #[v, vs] w fun e w' => ∃ v', e = .returned v' ∧ OwnB w.heap.size w' v' (l ++ namesB ls) ∧ Below w.heap.size w w' := by
  have Hp := hide (specPutNum_any v l (ls.length : Int) w hr (by omega) (by omega) (by omega))
  have hnl := numB_len (ls.length : Int)
  have HN : Hid (namesB ls = numB (ls.length : Int) ++ textsB ls) := hide rfl
  generalize numB (ls.length : Int) = nb at Hp hnl HN
  clear hr
  rcases hrs with ⟨a, cap, rfl, rfl, -⟩ | ⟨b, off, cap, h0, rfl, h1, h2, h3, h4⟩
  · go_enter Tryz.func120, Tryz.ntmps120
    go_wp2_with fail
    refine Hp.out.mono ?_
    rintro e w1 ⟨v1, rfl, ho1, hb1⟩
    go_wp2
    refine wp_loop_rounds 1 ?_
    rw [rounds_succ]
    go_wp2
    go_ret
    exact ⟨_, rfl, by rw [HN.out]; simpa [textsB] using ho1, hb1⟩
  · have H4 := hide h4
    clear h4
    go_enter Tryz.func120, Tryz.ntmps120
    go_wp2_with fail
    refine Hp.out.mono ?_
    rintro e w1 ⟨v1, rfl, ho1, hb1⟩
    go_wp2
    go_loopw [5, 6] (fun bv iv wr => ∃ k : Nat, k ≤ ls.length ∧ iv = .int .i64 (k : Int) ∧ OwnB w.heap.size wr bv (l ++ nb ++ textsB (ls.take k)) ∧ Below w.heap.size w wr) (fun _ iv _ => ls.length - (intOf iv).toNat)
    case atStart => exact ⟨0, by omega, rfl, by simpa [textsB] using ho1, hb1⟩
    case round =>
      obtain ⟨k, hk, rfl, ho, hb⟩ := hrel
      clear ho1 hb1
      by_cases hlt : k < ls.length
      · have hcr : wr.cell? ⟨b, off + k, none⟩ = some (.string ls[k]) := (hb.cell (p := ⟨b, off + k, none⟩) h3).trans (H4.out k hlt)
        have hsn := hide (textsB_snoc ls k hlt)
        have hsz : ls[k].size ≤ 10000000 := Nat.le_trans (tot_at ls k hlt) ht
        have hTl := textsB_take_len ls k
        have hbs := hb.size
        generalize ls[k] = s at hcr hsn hsz
        generalize textsB (ls.take k) = pre at ho hsn hTl
        have Ha := hide (specPutText_any _ (l ++ nb ++ pre) s wr ho.rd (by simp; omega) hsz)
        have Hb := hide hb
        clear ho hb
        go_wp2_with fail
        refine Ha.out.mono ?_
        rintro e w2 ⟨v2, rfl, ho2, hb2⟩
        go_wp2
        go_roundw
        case rel => exact ⟨k + 1, by omega, by go_num, by rw [hsn.out, ← List.append_assoc]; exact ho2.mono hbs, Hb.out.trans (hb2.mono hbs)⟩
        case measure => simp [intOf]; omega
      · have e : ls.take k = ls := List.take_of_length_le (by omega)
        rw [e, List.append_assoc, ← HN.out] at ho
        clear e
        go_wp2
        go_ret
        exact ⟨_, rfl, ho, hb⟩

set_option maxRecDepth 20000 in
set_option maxHeartbeats 1000000 in
theorem implPutNames_any (v vs : Value) (l : List UInt8) (ls : List ByteArray) (w : World) (hr : RdB w v l) (hrs : RdS w vs ls) (hl : l.length ≤ 10000000) (hls : ls.length ≤ 2000000) (ht : tot ls ≤ 10000000) :
    Calls Tryz.prog 104 #[v, vs] w fun e w' => ∃ v', e = .returned v' ∧ OwnB w.heap.size w' v' (l ++ namesB ls) ∧ Below w.heap.size w w' := by
  have hb0 : Below w.heap.size w (w.alloc (.cells #[.int .i64 (ls.length : Int)] 3)) := (Below.refl _ _).alloc (Nat.le_refl _) _
  have Hp := hide (putNums_any v l (ls.length : Int) w.heap.size (w.alloc (.cells #[.int .i64 (ls.length : Int)] 3)) (hr.below hb0 (Nat.le_refl _)) (by omega) (by simp) (one_cell w (ls.length : Int) 3) (by omega) (by omega))
  have hnl := numB_len (ls.length : Int)
  have HN : Hid (namesB ls = numB (ls.length : Int) ++ textsB ls) := hide rfl
  generalize numB (ls.length : Int) = nb at Hp hnl HN
  have Hb := hide hb0
  obtain ⟨a, cap, hv⟩ := hrs.shape
  subst hv
  have Hrs := hide hrs
  clear hr hb0 hrs
  go_enter Tryz.func104, Tryz.ntmps104
  go_wp2_with fail
  refine Hp.out.mono ?_
  rintro e w1 ⟨v1, rfl, ho1, hb1⟩
  simp only [World.size_alloc] at ho1 hb1
  have hB1 : Below w.heap.size w w1 := Hb.out.trans (hb1.mono (by omega))
  go_wp2_with fail
  refine (putTexts_any _ _ (l ++ nb) ls _ ho1.rd (Hrs.out.below hB1 (Nat.le_refl _)) (by simp; omega) hls ht).mono ?_
  rintro e w2 ⟨v2, rfl, ho2, hb2⟩
  have hbs := hB1.size
  go_wp2
  go_ret
  rw [List.append_assoc, ← HN.out] at ho2
  exact ⟨_, rfl, ho2.mono hbs, hB1.trans (hb2.mono hbs)⟩
end Go.Proofs.YtcmmdkabocfnfaaGreatDoor

namespace Go.Proofs.YtcmmdkabocfnfaaGreatDoor
open Go.RowKit
set_option linter.unusedVariables false

theorem toList_inj5 {t : ByteArray} (h : t.toList = []) : t = ByteArray.empty := by
  rw [ByteArray.toList_eq] at h
  exact ByteArray.ext (Array.toList_inj.1 h)
set_option maxRecDepth 20000 in
set_option maxHeartbeats 2000000 in
theorem specTxOk_any (t : Tx5) (w : World) (hf : t.2.1.size ≤ maxLen) (ht : t.2.2.1.size ≤ maxLen) :
    Calls Tryz.prog 62 #[txV t] w fun e w' => e = .returned (.bool (txB t)) ∧ Below w.heap.size w w' := by
  obtain ⟨k, f, to, am, no⟩ := t
  simp only [txV] at *
  obtain ⟨w0, hw0⟩ : ∃ w0, w.alloc (.cells #[.int .i64 k, .string f, .string to, .int .i64 am, .int .i64 no] 52) = w0 := ⟨_, rfl⟩
  have HB : Hid (Below w.heap.size w w0) := hide (by rw [← hw0]; exact (Below.refl _ w).alloc (Nat.le_refl _) _)
  have hk : w0.heap[w.heap.size]? = some (.cells #[.int .i64 k, .string f, .string to, .int .i64 am, .int .i64 no] 52 (0, 0)) := by rw [← hw0]; exact heap_alloc_new w _
  have k0 : w0.cell? ⟨w.heap.size, 0, none⟩ = some (.int .i64 k) := by simp [World.cell?, hk]
  have k1 : w0.cell? ⟨w.heap.size, 1, none⟩ = some (.string f) := by simp [World.cell?, hk]
  have k2 : w0.cell? ⟨w.heap.size, 2, none⟩ = some (.string to) := by simp [World.cell?, hk]
  have k3 : w0.cell? ⟨w.heap.size, 3, none⟩ = some (.int .i64 am) := by simp [World.cell?, hk]
  have k4 : w0.cell? ⟨w.heap.size, 4, none⟩ = some (.int .i64 no) := by simp [World.cell?, hk]
  clear hk
  have Hx : Hid (txB (k, f, to, am, no) = (nmB f && (inB am 1 1000000 && (inB no 0 10000 && (if k = 1 then nmB to else (inB k 2 3 && decide (to = ByteArray.empty))))))) := hide rfl
  generalize txB (k, f, to, am, no) = X at Hx
  cases e0 : nmB f
  · rw [e0, Bool.false_and] at Hx
    go_enter Tryz.func62, Tryz.ntmps62
    go_wp2_with (first
      | (go_at_call 59; refine (specNameOk_any _ _ (by assumption)).mono ?_; rintro e w0 ⟨rfl, rfl⟩)
      | (go_at_call 58; refine (l1In_any _ _ _ _).mono ?_; rintro e w0 ⟨rfl, rfl⟩))
    go_ret
    exact ⟨ret_bool Hx.out.symm, HB.out⟩
  · cases e1 : inB am 1 1000000
    · rw [e0, e1, Bool.true_and, Bool.false_and] at Hx
      go_enter Tryz.func62, Tryz.ntmps62
      go_wp2_with (first
        | (go_at_call 59; refine (specNameOk_any _ _ (by assumption)).mono ?_; rintro e w0 ⟨rfl, rfl⟩)
        | (go_at_call 58; refine (l1In_any _ _ _ _).mono ?_; rintro e w0 ⟨rfl, rfl⟩))
      go_ret
      exact ⟨ret_bool Hx.out.symm, HB.out⟩
    · cases e2 : inB no 0 10000
      · rw [e0, e1, e2, Bool.true_and, Bool.true_and, Bool.false_and] at Hx
        go_enter Tryz.func62, Tryz.ntmps62
        go_wp2_with (first
          | (go_at_call 59; refine (specNameOk_any _ _ (by assumption)).mono ?_; rintro e w0 ⟨rfl, rfl⟩)
          | (go_at_call 58; refine (l1In_any _ _ _ _).mono ?_; rintro e w0 ⟨rfl, rfl⟩))
        go_ret
        exact ⟨ret_bool Hx.out.symm, HB.out⟩
      · rw [e0, e1, e2, Bool.true_and, Bool.true_and, Bool.true_and] at Hx
        by_cases hk1 : k = 1
        · rw [if_pos hk1] at Hx
          subst hk1
          go_enter Tryz.func62, Tryz.ntmps62
          go_wp2_with (first
            | (go_at_call 59; refine (specNameOk_any _ _ (by assumption)).mono ?_; rintro e w0 ⟨rfl, rfl⟩)
            | (go_at_call 58; refine (l1In_any _ _ _ _).mono ?_; rintro e w0 ⟨rfl, rfl⟩))
          go_ret
          exact ⟨ret_bool Hx.out.symm, HB.out⟩
        · rw [if_neg hk1] at Hx
          have hkb : (k == 1) = false := by rw [beq_eq_false_iff_ne]; exact hk1
          clear hk1
          cases e3 : inB k 2 3
          · rw [e3, Bool.false_and] at Hx
            go_enter Tryz.func62, Tryz.ntmps62
            go_wp2_with (first
              | (go_at_call 59; refine (specNameOk_any _ _ (by assumption)).mono ?_; rintro e w0 ⟨rfl, rfl⟩)
              | (go_at_call 58; refine (l1In_any _ _ _ _).mono ?_; rintro e w0 ⟨rfl, rfl⟩))
            go_ret
            exact ⟨ret_bool Hx.out.symm, HB.out⟩
          · by_cases e4 : to = ByteArray.empty
            · rw [e3, decide_eq_true e4, Bool.true_and] at Hx
              subst e4
              go_enter Tryz.func62, Tryz.ntmps62
              go_wp2_with (first
                | (go_at_call 59; refine (specNameOk_any _ _ (by assumption)).mono ?_; rintro e w0 ⟨rfl, rfl⟩)
                | (go_at_call 58; refine (l1In_any _ _ _ _).mono ?_; rintro e w0 ⟨rfl, rfl⟩))
              go_ret
              exact ⟨ret_bool Hx.out.symm, HB.out⟩
            · rw [e3, decide_eq_false e4, Bool.true_and] at Hx
              have hne : to.toList.isEmpty = false := by
                cases h : to.toList.isEmpty
                · rfl
                · exact absurd (toList_inj5 (List.isEmpty_iff.1 h)) e4
              clear e4
              go_enter Tryz.func62, Tryz.ntmps62
              go_wp2_with (first
                | (go_at_call 59; refine (specNameOk_any _ _ (by assumption)).mono ?_; rintro e w0 ⟨rfl, rfl⟩)
                | (go_at_call 58; refine (l1In_any _ _ _ _).mono ?_; rintro e w0 ⟨rfl, rfl⟩))
              go_ret
              exact ⟨ret_bool Hx.out.symm, HB.out⟩
end Go.Proofs.YtcmmdkabocfnfaaGreatDoor
