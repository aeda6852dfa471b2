/- Where an order comes in a pool: the landed code's search; it is put in there. -/
import Derived.Test.YtkpnhgikkanfmaaPlPure
import Derived.Test.YtkpnhgikkanfmaaInsTx
import Derived.Test.YtkpnhgikkanfmaaTxLessI
import Derived.Lib.QuietBelow
import Derived.BigQuiet
namespace Go.Proofs.Ytkpnhgikkanfmaa
open Go.RowKit Go.Sort
set_option linter.unusedVariables false

theorem flat_takeT : ∀ (l : List Tx5) (k : Nat), (l.map txC).flatten.take (k * 5) = ((l.take k).map txC).flatten
  | [], k => by simp
  | t :: l, 0 => by simp
  | t :: l, k + 1 => by
    rw [List.map_cons, List.flatten_cons, List.take_succ_cons, List.map_cons, List.flatten_cons, ← flat_takeT l k, List.take_append, List.take_of_length_le (show (txC t).length ≤ (k + 1) * 5 by show 5 ≤ _; omega)]
    congr 2
    show (k + 1) * 5 - 5 = _
    omega
theorem flat_dropT : ∀ (l : List Tx5) (k : Nat), (l.map txC).flatten.drop (k * 5) = ((l.drop k).map txC).flatten
  | [], k => by simp
  | t :: l, 0 => by simp
  | t :: l, k + 1 => by
    rw [List.map_cons, List.flatten_cons, List.drop_succ_cons, ← flat_dropT l k, List.drop_append, List.drop_eq_nil_of_le (show (txC t).length ≤ (k + 1) * 5 by show 5 ≤ _; omega), List.nil_append]
    congr 1
    show (k + 1) * 5 - 5 = _
    omega
theorem flat_insT (l : List Tx5) (k : Nat) (t : Tx5) : ((insT k t l).map txC).flatten = (l.map txC).flatten.take (k * 5) ++ txC t ++ (l.map txC).flatten.drop (k * 5) := by
  rw [flat_takeT, flat_dropT]
  unfold insT
  rw [List.map_append, List.flatten_append, List.map_cons, List.flatten_cons, List.append_assoc]
theorem one_txC (t : Tx5) : ∀ u ∈ txC t, u.oneCell' = true := fun u hu => by
  simp only [txC, List.mem_cons, List.not_mem_nil, or_false] at hu
  rcases hu with rfl | rfl | rfl | rfl | rfl <;> rfl
theorem one_flatT (l : List Tx5) : ∀ u ∈ (l.map txC).flatten, u.oneCell' = true := fun u hu => by
  obtain ⟨c, hc, hu⟩ := List.mem_flatten.1 hu
  obtain ⟨t, _, rfl⟩ := List.mem_map.1 hc
  exact one_txC t u hu
/-- slices.Insert: the order t, in a block of its own, comes in at the place k. -/
theorem insertT_any (base k B : Nat) (v : Value) (l : List Tx5) (t : Tx5) (w : World) (ho : OwnT base w v l) (hB : Blk w B 34 (txC t)) (hne : v.ownBlock ≠ some B) (hk : k ≤ l.length) (hl : l.length ≤ 4000000) (hbase : base ≤ w.heap.size) :
    Calls Try.prog 49 #[v, .int .i64 (k : Int), .slice (some ⟨B, 0, none⟩) 1 1] w fun e w' => ∃ v', e = .returned v' ∧ OwnT base w' v' (insT k t l) ∧ w.grownBy w' v.ownBlock := by
  by_cases hkl : k = l.length
  · subst hkl
    refine (insTx_end base l.length B v _ _ w ho hB rfl (one_txC t) hl hbase).mono ?_
    rintro e w' ⟨v', rfl, o, g⟩
    refine ⟨v', rfl, ?_, g⟩
    unfold OwnT
    rw [insT_len, flat_insT, List.take_of_length_le (by rw [ho.1]; exact Nat.le_refl _), List.drop_eq_nil_of_le (by rw [ho.1]; exact Nat.le_refl _), List.append_nil]
    exact o
  · rcases ho.2 with ⟨rfl, h0⟩ | ⟨g, cap, cur, rfl, hb, hg, h1, h2, h3, h4⟩
    · omega
    · have hne' : B ≠ g := fun e => hne (by rw [e]; rfl)
      by_cases hr : l.length + 1 ≤ cap
      · refine (insTx_room base g l.length cap k B _ _ w ho hB hne' rfl (one_txC t) (one_flatT l) (by omega) hl hr).mono ?_
        rintro e w' ⟨v', rfl, o, gr⟩
        exact ⟨v', rfl, by unfold OwnT; rw [insT_len, flat_insT]; exact o, gr⟩
      · refine (insTx_grow base g l.length cap k B _ _ w ho hB rfl (one_txC t) (one_flatT l) (by omega) hl (by omega) hbase).mono ?_
        rintro e w' ⟨v', rfl, o, gr⟩
        exact ⟨v', rfl, by unfold OwnT; rw [insT_len, flat_insT]; exact o, gr⟩
set_option maxRecDepth 20000 in
set_option maxHeartbeats 2000000 in
/-- What the search asks at a place: whether the order there is not less. -/
theorem ask_any (v : Value) (l : List Tx5) (t : Tx5) (i B1 B2 : Nat) (w : World) (hr : RdT w v l) (h1 : w.cell? ⟨B1, 0, none⟩ = some v) (h2 : Blk w B2 34 (txC t)) (hi : i < l.length) (hl : l.length ≤ 4000000) :
    Calls Try.prog 48 #[.int .i64 (i : Int), .pointer (some ⟨B1, 0, none⟩), .pointer (some ⟨B2, 0, none⟩)] w fun e w' => e = .returned (.bool (!lessT (l.getD i tx0) t)) ∧ Below w.heap.size w w' := by
  rcases hr with ⟨a, cap, rfl, rfl, -⟩ | ⟨b, off, cap, h0, rfl, -, -, hbw, h4⟩
  · simp at hi
  rw [getD_at hi]
  have hT := h4 i hi
  have hli : (i : Int) < (l.length : Int) := by omega
  have HL := hide (fun (d : Nat) (os : Array Obj) => Calls.regrown_of (implTxLess_any l[i] t (grow (redrawn w d) os)))
  generalize l[i] = x at hT HL ⊢
  generalize lessT x t = X at HL ⊢
  obtain ⟨kd, fm, tn, am, nc⟩ := x
  obtain ⟨k2, f2, t2, a2, n2⟩ := t
  obtain ⟨c0, c1, c2, c3, c4⟩ := hT
  have d0 := h2.cell 0
  have d1 := h2.cell 1
  have d2 := h2.cell 2
  have d3 := h2.cell 3
  have d4 := h2.cell 4
  simp only [txC, txV, List.getElem?_cons_zero, List.getElem?_cons_succ] at c0 c1 c2 c3 c4 d0 d1 d2 d3 d4 HL
  have g0 := cell_regrown c0
  have g1 := cell_regrown c1
  have g2 := cell_regrown c2
  have g3 := cell_regrown c3
  have g4 := cell_regrown c4
  have e0 := cell_regrown d0
  have e1 := cell_regrown d1
  have e2 := cell_regrown d2
  have e3 := cell_regrown d3
  have e4 := cell_regrown d4
  have gv := cell_regrown h1
  clear c0 c1 c2 c3 c4 d0 d1 d2 d3 d4 h1 h2 h4
  go_enter Try.func48, Try.ntmps48
  go_wp2
  refine wp_region_quiet_below (by kernel_rfl) (by kernel_rfl) ?_
  repeat (go_big_quiet_step ((go_at_call 45; exact HL.out _ _)))
  refine wpQuiet_nil ?_
  intro _ hw'
  obtain ⟨⟨dq, osq⟩, hw''⟩ := hw'
  subst hw''
  go_wp2
  go_ret
  exact ⟨rfl, below_regrown w dq osq⟩
set_option maxRecDepth 20000 in
set_option maxHeartbeats 2000000 in
theorem findT_any (n : Nat) (p : Nat → Bool) (B1 B2 : Nat) (w : World) (hn : n ≤ 4000000) (hf : ∀ V, Below w.heap.size w V → ∀ i, i < n → Calls Try.prog 48 #[.int .i64 (i : Int), .pointer (some ⟨B1, 0, none⟩), .pointer (some ⟨B2, 0, none⟩)] V fun e w' => e = .returned (.bool (p i)) ∧ Below V.heap.size V w') :
    Calls Try.prog 47 #[.int .i64 (n : Int), .func (.func 48) #[] #[.pointer (some ⟨B1, 0, none⟩), .pointer (some ⟨B2, 0, none⟩)]] w fun e w' => ∃ k : Nat, e = .returned (.int .i64 (k : Int)) ∧ k ≤ n ∧ (k = 0 ∨ p (k - 1) = false) ∧ (k = n ∨ p k = true) ∧ Below w.heap.size w w' := by
  have Hf := hide hf
  clear hf
  go_enter Try.func47, Try.ntmps47
  go_wp2
  go_loopw [5, 6] (fun iv jv wr => ∃ i j : Nat, i ≤ j ∧ j ≤ n ∧ iv = .int .i64 (i : Int) ∧ jv = .int .i64 (j : Int) ∧ (i = 0 ∨ p (i - 1) = false) ∧ (j = n ∨ p j = true) ∧ Below w.heap.size w wr) (fun iv jv _ => (intOf jv).toNat - (intOf iv).toNat)
  case atStart => exact ⟨0, n, Nat.zero_le _, Nat.le_refl _, rfl, rfl, .inl rfl, .inl rfl, Below.refl _ _⟩
  case round =>
    obtain ⟨i, j, hij, hjn, rfl, rfl, hlo, hhi, hb⟩ := hrel
    have Hlo := hide hlo
    have Hhi := hide hhi
    clear hlo hhi
    by_cases hlt : i < j
    · have hmi : i ≤ ((i + j) / 2) := by omega
      have hmj : ((i + j) / 2) < j := by omega
      have e1 : wrap64 ((i : Int) + (j : Int)) = ((i + j : Nat) : Int) := by unfold wrap64; omega
      have hm0 : (0 : Int) ≤ (((i + j) / 2 : Nat) : Int) := by omega
      have hij2 : (i : Int) < (j : Int) := by omega
      have HC := hide (Hf.out wr hb ((i + j) / 2) (by omega))
      have Hb := hide hb
      clear hb
      cases hp : p ((i + j) / 2)
      · rw [hp] at HC
        have Hp := hide hp
        clear hp
        go_wp2_with (go_at_call 48; refine HC.out.mono ?_; rintro e w2 ⟨rfl, hb2⟩)
        go_roundw
        case rel => exact ⟨((i + j) / 2) + 1, j, by omega, hjn, by congr 1, rfl, .inr Hp.out, Hhi.out, Hb.out.trans (hb2.mono Hb.out.size)⟩
        case measure => simp [intOf]; omega
      · rw [hp] at HC
        have Hp := hide hp
        clear hp
        go_wp2_with (go_at_call 48; refine HC.out.mono ?_; rintro e w2 ⟨rfl, hb2⟩)
        go_roundw
        case rel => exact ⟨i, ((i + j) / 2), by omega, by omega, rfl, by congr 1, Hlo.out, .inr Hp.out, Hb.out.trans (hb2.mono Hb.out.size)⟩
        case measure => simp [intOf]; omega
    · obtain rfl : i = j := by omega
      go_wp2
      go_ret
      exact ⟨i, rfl, hjn, Hlo.out, Hhi.out, hb⟩
end Go.Proofs.Ytkpnhgikkanfmaa
