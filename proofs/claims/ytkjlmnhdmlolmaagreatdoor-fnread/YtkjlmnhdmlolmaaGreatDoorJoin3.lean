/- NamesOk: the program's and the model's answer alike, at all lists of texts. Orders by value: made, held against another, their size; what is right, which is less (plain). Accounts and what leaves, over plain data and in memory. The model's orders: which are right, which is less. A block of five cells that is written. -/
import Derived.Test.YtkjlmnhdmlolmaaGreatDoorJoin2
import Derived.Test.YtkjlmnhdmlolmaaGreatDoorJoin1
namespace Go.Proofs.YtkjlmnhdmlolmaaGreatDoor
open Go.RowKit
set_option linter.unusedVariables false

def okAt (ls : List ByteArray) (i : Nat) : Bool := nmB (ls.getD i ByteArray.empty) && (decide (i = 0) || Op.bytesLess (ls.getD (i - 1) ByteArray.empty).toList (ls.getD i ByteArray.empty).toList)
def nmsB (ls : List ByteArray) : Bool := (List.range ls.length).all (okAt ls) && decide (ls.length ≤ 20)

theorem nms_no (ls : List ByteArray) (k : Nat) (h : k < ls.length) (hk : okAt ls k = false) : nmsB ls = false := by
  unfold nmsB
  rw [Bool.and_eq_false_iff]
  left
  rw [Bool.eq_false_iff]; intro ha
  rw [List.all_eq_true] at ha
  have := ha k (by simpa using h)
  rw [hk] at this; cases this
theorem nms_yes (ls : List ByteArray) (h : ∀ j, j < ls.length → okAt ls j = true) : nmsB ls = decide (ls.length ≤ 20) := by
  unfold nmsB
  have : (List.range ls.length).all (okAt ls) = true := by
    rw [List.all_eq_true]; intro j hj; exact h j (by simpa using hj)
  rw [this]; rfl
theorem okAt_eq (ls : List ByteArray) (k : Nat) (s : ByteArray) (h : k < ls.length) (hs : ls[k] = s) : okAt ls k = (nmB s && (decide (k = 0) || Op.bytesLess (ls.getD (k - 1) ByteArray.empty).toList s.toList)) := by
  have : ls.getD k ByteArray.empty = s := by rw [List.getD_eq_getElem?_getD, List.getElem?_eq_getElem h, ← hs]; rfl
  unfold okAt; rw [this]

set_option maxRecDepth 20000 in
set_option maxHeartbeats 1000000 in
theorem specNamesOk_any (v : Value) (ls : List ByteArray) (w : World) (hr : RdS w v ls) (hl : ls.length ≤ 4000000) (hs : ∀ s ∈ ls, s.size ≤ maxLen) :
    Calls Tryz.prog 116 #[v] w fun e w' => e = .returned (.bool (nmsB ls)) ∧ Sm w w' := by
  rcases hr with ⟨a, cap, rfl, rfl, -⟩ | ⟨b, off, cap, h0, rfl, h1, h2, h3, h4⟩
  · go_enter Tryz.func116, Tryz.ntmps116
    go_wp2
    refine wp_loop_rounds 1 ?_
    rw [rounds_succ]
    go_wp2
    go_ret
    exact ⟨rfl, Sm.refl _⟩
  · have H4 := hide h4
    have Hs := hide hs
    clear h4 hs
    go_enter Tryz.func116, Tryz.ntmps116
    go_wp2
    go_loopw [3] (fun i wr => ∃ k : Nat, k ≤ ls.length ∧ i = .int .i64 k ∧ (∀ j, j < k → okAt ls j = true) ∧ Sm w wr) (fun i _ => ls.length - (intOf i).toNat)
    case atStart => exact ⟨0, Nat.zero_le _, rfl, fun j hj => by omega, Sm.refl _⟩
    case round =>
      obtain ⟨k, hk, rfl, hall, hsm⟩ := hrel
      have Hall := hide hall
      have Hsm := hide hsm
      by_cases hlt : k < ls.length
      · have hc : wr.cell? ⟨b, off + k, none⟩ = some (.string ls[k]) := (hsm.cell _).trans (H4.out k hlt)
        have hsz := Hs.out ls[k] (List.getElem_mem hlt)
        have Hok := hide (okAt_eq ls k ls[k] hlt rfl)
        have Hno := hide (nms_no ls k hlt)
        have hli : (k : Int) < (ls.length : Int) := by omega
        have hprev : k ≥ 1 → wr.cell? ⟨b, off + (k - 1), none⟩ = some (.string (ls.getD (k - 1) ByteArray.empty)) := fun hk1 => by
          have h := (hsm.cell _).trans (H4.out (k - 1) (by omega))
          rw [h]; rw [List.getD_eq_getElem?_getD, List.getElem?_eq_getElem (by omega)]; rfl
        clear hall hsm
        generalize ls[k] = s at hc hsz Hok
        generalize ls.getD (k - 1) ByteArray.empty = p at hprev Hok
        have Hq := hide (fun w => specNameOk_any s w hsz)
        clear hsz
        cases hn : nmB s
        · have hf := hide (Hno.out (by rw [Hok.out, hn]; rfl))
          rw [hn] at Hq
          clear hn hprev
          go_wp2
          go_quiet ((go_at_call 49; exact Calls.quiet_of_same (Hq.out _)))
          go_wp2
          go_ret
          exact ⟨ret_bool hf.out.symm, Hsm.out.drewN _⟩
        · rw [hn] at Hq
          by_cases hk1 : k < 1
          · have hd : decide (0 < k) = false := by simp; omega
            have hd2 : decide ((0 : Int) < (k : Int)) = false := by simp; omega
            have Hnx : Hid (okAt ls k = true) := hide (by rw [Hok.out, hn, show k = 0 from by omega]; rfl)
            clear hn hprev
            go_wp2
            go_quiet ((go_at_call 49; exact Calls.quiet_of_same (Hq.out _)))
            go_wp2
            go_roundw
            case rel => exact ⟨k + 1, by omega, by go_num, fun j hj => by
                          by_cases hjk : j = k
                          · subst hjk; exact Hnx.out
                          · exact Hall.out j (by omega), Hsm.out.drewN _⟩
            case measure => simp [intOf]; omega
          · have hcp := hprev (by omega)
            clear hprev
            have hpos : (0 : Int) < (k : Int) := by omega
            have hposN : 0 < k := by omega
            have hd1 : decide (0 < k) = true := by simp; omega
            have hix : ((k : Int) - 1).toNat = k - 1 := by omega
            have hix1 : (0 : Int) ≤ (k : Int) - 1 := by omega
            have hix2 : (k : Int) - 1 < (ls.length : Int) := by omega
            cases hless : Op.bytesLess p.toList s.toList
            · have hf := hide (Hno.out (by rw [Hok.out, hn, hless]; simp; omega))
              clear hn
              go_wp2
              go_quiet ((go_at_call 49; exact Calls.quiet_of_same (Hq.out _)))
              go_wp2
              go_ret
              exact ⟨ret_bool hf.out.symm, Hsm.out.drewN _⟩
            · have Hnx : Hid (okAt ls k = true) := hide (by rw [Hok.out, hn, hless]; simp)
              clear hn
              go_wp2
              go_quiet ((go_at_call 49; exact Calls.quiet_of_same (Hq.out _)))
              go_wp2
              go_roundw
              case rel => exact ⟨k + 1, by omega, by go_num, fun j hj => by
                            by_cases hjk : j = k
                            · subst hjk; exact Hnx.out
                            · exact Hall.out j (by omega), Hsm.out.drewN _⟩
              case measure => simp [intOf]; omega
      · have hf := hide (nms_yes ls (fun j hj => Hall.out j (by omega)))
        clear hall hsm
        go_wp2
        go_ret
        exact ⟨ret_bool (by rw [hf.out, Bool.eq_iff_iff]; simp only [decide_eq_true_eq]; omega), Hsm.out⟩

set_option maxRecDepth 20000 in
set_option maxHeartbeats 1000000 in
theorem implNamesOk_any (v : Value) (ls : List ByteArray) (w : World) (hr : RdS w v ls) (hl : ls.length ≤ 4000000) (hs : ∀ s ∈ ls, s.size ≤ maxLen) :
    Calls Tryz.prog 120 #[v] w fun e w' => e = .returned (.bool (nmsB ls)) ∧ w' = w := by
  by_cases h20 : 20 < ls.length
  · have hf : Hid (nmsB ls = false) := hide (by unfold nmsB; rw [decide_eq_false (by omega)]; simp)
    obtain ⟨a, cap, rfl⟩ := hr.shape
    clear hr hs
    go_enter Tryz.func120, Tryz.ntmps120
    go_wp2
    go_ret
    exact ⟨ret_bool hf.out.symm, rfl⟩
  rcases hr with ⟨a, cap, rfl, rfl, -⟩ | ⟨b, off, cap, h0, rfl, h1, h2, h3, h4⟩
  · go_enter Tryz.func120, Tryz.ntmps120
    go_wp2
    refine wp_loop_rounds 1 ?_
    rw [rounds_succ]
    go_wp2
    go_ret
    exact ⟨rfl, rfl⟩
  · have H4 := hide h4
    have Hs := hide hs
    clear h4 hs
    go_enter Tryz.func120, Tryz.ntmps120
    go_wp2
    go_loop [10] (fun i => ∃ k : Nat, k ≤ ls.length ∧ i = .int .i64 k ∧ (∀ j, j < k → okAt ls j = true)) (fun i => ls.length - (intOf i).toNat)
    case atStart => exact ⟨0, Nat.zero_le _, rfl, fun j hj => by omega⟩
    case round =>
      obtain ⟨k, hk, rfl, hall⟩ := hrel
      have Hall := hide hall
      by_cases hlt : k < ls.length
      · have hc : w.cell? ⟨b, off + k, none⟩ = some (.string ls[k]) := H4.out k hlt
        have hsz := Hs.out ls[k] (List.getElem_mem hlt)
        have Hok := hide (okAt_eq ls k ls[k] hlt rfl)
        have Hno := hide (nms_no ls k hlt)
        have hli : (k : Int) < (ls.length : Int) := by omega
        have hprev : k ≥ 1 → w.cell? ⟨b, off + (k - 1), none⟩ = some (.string (ls.getD (k - 1) ByteArray.empty)) := fun hk1 => by
          rw [H4.out (k - 1) (by omega)]; rw [List.getD_eq_getElem?_getD, List.getElem?_eq_getElem (by omega)]; rfl
        clear hall
        generalize ls[k] = s at hc hsz Hok
        generalize ls.getD (k - 1) ByteArray.empty = p at hprev Hok
        have Hq := hide (fun w => implNameOk_any s w hsz)
        clear hsz
        cases hn : nmB s
        · have hf := hide (Hno.out (by rw [Hok.out, hn]; rfl))
          rw [hn] at Hq
          clear hn hprev
          go_wp2_with (go_at_call 118; refine (Hq.out _).mono ?_; rintro e w' ⟨rfl, rfl⟩)
          go_ret
          exact ⟨ret_bool hf.out.symm, rfl⟩
        · rw [hn] at Hq
          by_cases hk1 : k < 1
          · have Hnx : Hid (okAt ls k = true) := hide (by rw [Hok.out, hn, show k = 0 from by omega]; rfl)
            clear hn hprev
            go_wp2_with (go_at_call 118; refine (Hq.out _).mono ?_; rintro e w' ⟨rfl, rfl⟩)
            go_round
            case rel => exact ⟨k + 1, by omega, by go_num, fun j hj => by
                          by_cases hjk : j = k
                          · subst hjk; exact Hnx.out
                          · exact Hall.out j (by omega)⟩
            case measure => simp [intOf]; omega
          · have hcp := hprev (by omega)
            clear hprev
            have hpos : (0 : Int) < (k : Int) := by omega
            have hposN : 0 < k := by omega
            have hix : ((k : Int) - 1).toNat = k - 1 := by omega
            have hix1 : (0 : Int) ≤ (k : Int) - 1 := by omega
            have hix2 : (k : Int) - 1 < (ls.length : Int) := by omega
            cases hless : Op.bytesLess p.toList s.toList
            · have hf := hide (Hno.out (by rw [Hok.out, hn, hless]; simp; omega))
              clear hn
              go_wp2_with (go_at_call 118; refine (Hq.out _).mono ?_; rintro e w' ⟨rfl, rfl⟩)
              go_ret
              exact ⟨ret_bool hf.out.symm, rfl⟩
            · have Hnx : Hid (okAt ls k = true) := hide (by rw [Hok.out, hn, hless]; simp)
              clear hn
              go_wp2_with (go_at_call 118; refine (Hq.out _).mono ?_; rintro e w' ⟨rfl, rfl⟩)
              go_round
              case rel => exact ⟨k + 1, by omega, by go_num, fun j hj => by
                            by_cases hjk : j = k
                            · subst hjk; exact Hnx.out
                            · exact Hall.out j (by omega)⟩
              case measure => simp [intOf]; omega
      · have hf := hide (nms_yes ls (fun j hj => Hall.out j (by omega)))
        clear hall
        go_wp2
        go_ret
        exact ⟨ret_bool (by rw [hf.out, eq_comm, decide_eq_true_eq]; omega), rfl⟩
end Go.Proofs.YtkjlmnhdmlolmaaGreatDoor

namespace Go.Proofs.YtkjlmnhdmlolmaaGreatDoor
open Go.RowKit
set_option linter.unusedVariables false

/-- An order: its kind, from whom, to whom, how much, which one. -/
abbrev Tx5 := Int × ByteArray × ByteArray × Int × Int
def txV (t : Tx5) : Value := .agg #[.int .i64 t.1, .string t.2.1, .string t.2.2.1, .int .i64 t.2.2.2.1, .int .i64 t.2.2.2.2]
/-- Whether it is right. -/
def txB (t : Tx5) : Bool := nmB t.2.1 && (inB t.2.2.2.1 1 1000000 && (inB t.2.2.2.2 0 10000 && (if t.1 = 1 then nmB t.2.2.1 else (inB t.1 2 3 && decide (t.2.2.1 = ByteArray.empty)))))
/-- Whether one is less than another. -/
def lessT (a b : Tx5) : Bool :=
  if a.2.1 ≠ b.2.1 then Op.bytesLess a.2.1.toList b.2.1.toList
  else if a.2.2.2.2 ≠ b.2.2.2.2 then decide (a.2.2.2.2 < b.2.2.2.2)
  else if a.1 ≠ b.1 then decide (a.1 < b.1)
  else if a.2.2.1 ≠ b.2.2.1 then Op.bytesLess a.2.2.1.toList b.2.2.1.toList
  else decide (a.2.2.2.1 < b.2.2.2.1)

set_option maxRecDepth 20000 in
set_option maxHeartbeats 1000000 in
theorem eqTx_any (a b : Tx5) (w : World) : Calls Tryz.prog 147 #[txV a, txV b] w fun e w' => e = .returned (.bool (decide (a = b))) ∧ Below w.heap.size w w' := by
  obtain ⟨k1, f1, t1, m1, n1⟩ := a
  obtain ⟨k2, f2, t2, m2, n2⟩ := b
  simp only [txV]
  have HB := hide (((Below.refl _ w).alloc (Nat.le_refl _) (.cells #[.int .i64 k1, .string f1, .string t1, .int .i64 m1, .int .i64 n1] 35)).alloc (by simp) (.cells #[.int .i64 k2, .string f2, .string t2, .int .i64 m2, .int .i64 n2] 35))
  by_cases h1 : k1 = k2
  · by_cases h2 : f1 = f2
    · by_cases h3 : t1 = t2
      · by_cases h4 : m1 = m2
        · by_cases h5 : n1 = n2
          · subst h1 h2 h3 h4 h5
            have Hd : Hid (decide (((k1, f1, t1, m1, n1) : Tx5) = (k1, f1, t1, m1, n1)) = true) := hide (by simp)
            go_enter Tryz.func147, Tryz.ntmps147
            go_wp2
            go_ret
            exact ⟨ret_bool Hd.out.symm, HB.out⟩
          · subst h1 h2 h3 h4
            have Hd : Hid (decide (((k1, f1, t1, m1, n1) : Tx5) = (k1, f1, t1, m1, n2)) = false) := hide (by simp [h5])
            have hq : (n1 != n2) = true := by rw [bne_iff_ne]; exact h5
            clear h5
            go_enter Tryz.func147, Tryz.ntmps147
            go_wp2
            go_ret
            exact ⟨ret_bool Hd.out.symm, HB.out⟩
        · subst h1 h2 h3
          have Hd : Hid (decide (((k1, f1, t1, m1, n1) : Tx5) = (k1, f1, t1, m2, n2)) = false) := hide (by simp [h4])
          have hq : (m1 != m2) = true := by rw [bne_iff_ne]; exact h4
          clear h4
          go_enter Tryz.func147, Tryz.ntmps147
          go_wp2
          go_ret
          exact ⟨ret_bool Hd.out.symm, HB.out⟩
      · subst h1 h2
        have Hd : Hid (decide (((k1, f1, t1, m1, n1) : Tx5) = (k1, f1, t2, m2, n2)) = false) := hide (by simp [h3])
        have hq := bytes_ne h3
        clear h3
        go_enter Tryz.func147, Tryz.ntmps147
        go_wp2
        go_ret
        exact ⟨ret_bool Hd.out.symm, HB.out⟩
    · subst h1
      have Hd : Hid (decide (((k1, f1, t1, m1, n1) : Tx5) = (k1, f2, t2, m2, n2)) = false) := hide (by simp [h2])
      have hq := bytes_ne h2
      clear h2
      go_enter Tryz.func147, Tryz.ntmps147
      go_wp2
      go_ret
      exact ⟨ret_bool Hd.out.symm, HB.out⟩
  · have Hd : Hid (decide (((k1, f1, t1, m1, n1) : Tx5) = (k2, f2, t2, m2, n2)) = false) := hide (by simp [h1])
    have hq : (k1 != k2) = true := by rw [bne_iff_ne]; exact h1
    clear h1
    go_enter Tryz.func147, Tryz.ntmps147
    go_wp2
    go_ret
    exact ⟨ret_bool Hd.out.symm, HB.out⟩
end Go.Proofs.YtkjlmnhdmlolmaaGreatDoor

namespace Go.Proofs.YtkjlmnhdmlolmaaGreatDoor
open Go.RowKit
set_option linter.unusedVariables false

/-- What the slice v reads as: pairs of numbers (an amount, an epoch). -/
def RdL (w : World) (v : Value) (l : List (Int × Int)) : Prop :=
  (∃ a cap, v = .slice a 0 cap ∧ l = [] ∧ (a = none → cap = 0)) ∨
  ∃ b off cap, l ≠ [] ∧ v = .slice (some ⟨b, off, none⟩) l.length cap ∧ l.length ≤ cap ∧ cap ≤ maxLen ∧ b < w.heap.size ∧
    ∀ i (h : i < l.length), w.cell? ⟨b, off + i * 2, none⟩ = some (.int .i64 l[i].1) ∧ w.cell? ⟨b, off + i * 2 + 1, none⟩ = some (.int .i64 l[i].2)
theorem RdL.shape {w : World} {v : Value} {l : List (Int × Int)} (h : RdL w v l) : ∃ a cap, v = .slice a l.length cap := by
  rcases h with ⟨a, cap, rfl, rfl, -⟩ | ⟨b, off, cap, h0, rfl, _⟩
  · exact ⟨a, cap, rfl⟩
  · exact ⟨_, cap, rfl⟩
theorem RdL.below {B : Nat} {w w' : World} {v : Value} {l : List (Int × Int)} (h : RdL w v l) (hb : Below B w w') (hB : w.heap.size ≤ B) : RdL w' v l := by
  rcases h with h | ⟨b, off, cap, h0, hv, h1, h2, h3, h4⟩
  · exact .inl h
  · exact .inr ⟨b, off, cap, h0, hv, h1, h2, by have := hb.size; omega, fun i hi => ⟨(hb.cell (p := ⟨b, off + i * 2, none⟩) (by show b < B; omega)).trans (h4 i hi).1, (hb.cell (p := ⟨b, off + i * 2 + 1, none⟩) (by show b < B; omega)).trans (h4 i hi).2⟩⟩
def lvC (p : Int × Int) : List Value := [.int .i64 p.1, .int .i64 p.2]
/-- The slice v, of the call's own from block 'base' on, reads as the pairs l. -/
def OwnL (base : Nat) (w : World) (v : Value) (l : List (Int × Int)) : Prop := w.ownsRow base 74 2 v l.length (l.map lvC).flatten
theorem Tryz.infoLv : (Tryz.prog.info? 74).map (fun i => (i.zero, i.size, i.bytes)) = some (some (.agg #[.int .i64 0, .int .i64 0]), 2, 16) := by kernel_rfl
theorem lvC_sz (p : Int × Int) : (lvC p).length = 2 := rfl
theorem lvP_sz (l : List (Int × Int)) (k : Nat) : ∀ x ∈ part lvC [Value.int .i64 0, Value.int .i64 0] l k, x.length = 2 := part_sz 2 _ _ _ _ lvC_sz rfl
theorem lvM_sz (l : List (Int × Int)) : ∀ x ∈ l.map lvC, x.length = 2 := fun x hx => by obtain ⟨p, _, rfl⟩ := List.mem_map.1 hx; rfl
theorem OwnL.rd {base : Nat} {w : World} {v : Value} {l : List (Int × Int)} (h : OwnL base w v l) : RdL w v l := by
  rcases h.2 with ⟨hv, hn⟩ | ⟨g, cap, cur, hv, hb, hg, hnc, hcm, hcs, ht⟩
  · exact .inl ⟨none, 0, hv, List.length_eq_zero_iff.1 hn, fun _ => rfl⟩
  · by_cases hl : l = []
    · subst hl; exact .inl ⟨_, _, hv, rfl, fun h => by cases h⟩
    · refine .inr ⟨g, 0, cap, hl, hv, hnc, hcm, (Array.getElem?_eq_some_iff.1 hg).1, ?_⟩
      intro i hi
      have h' : w.ownsRow base 74 2 (.slice (some ⟨g, 0, none⟩) l.length cap) l.length (l.map lvC).flatten := hv ▸ h
      have e0 := flat_get 2 (l.map lvC) i 0 (by simpa using hi) (lvM_sz l) (by omega)
      have e1 := flat_get 2 (l.map lvC) i 1 (by simpa using hi) (lvM_sz l) (by omega)
      rw [Nat.zero_add, h'.cellAt (i * 2) (by omega), h'.cellAt (i * 2 + 1) (by omega)]
      rw [Nat.add_zero] at e0
      rw [e0, e1]
      simp [lvC]

theorem OwnL.mono {base base' : Nat} {w : World} {v : Value} {l : List (Int × Int)} (h : OwnL base w v l) (hB : base' ≤ base) : OwnL base' w v l := by
  refine ⟨h.1, ?_⟩
  rcases h.2 with h' | ⟨g, cap, cur, hv, hbb, r⟩
  · exact .inl h'
  · exact .inr ⟨g, cap, cur, hv, by omega, r⟩
theorem OwnL.ge {base : Nat} {w : World} {v : Value} {l : List (Int × Int)} (h : OwnL base w v l) : ∀ k, v.ownBlock = some k → base ≤ k := fun k hk => (World.ownsRow.lt h k hk).1
theorem OwnL.lt {base : Nat} {w : World} {v : Value} {l : List (Int × Int)} (h : OwnL base w v l) : ∀ k, v.ownBlock = some k → k < w.heap.size := fun k hk => (World.ownsRow.lt h k hk).2
theorem OwnL.below {B base : Nat} {w w' : World} {v : Value} {l : List (Int × Int)} (h : OwnL base w v l) (hb : Below B w w') (hB : w.heap.size ≤ B) : OwnL base w' v l := row_below h hb hB
theorem OwnL.kept {base : Nat} {w w' : World} {v : Value} {l : List (Int × Int)} {row : Option Nat} (h : OwnL base w v l) (hg : w.grownBy w' row) (hne : v.ownBlock = none ∨ v.ownBlock ≠ row) : OwnL base w' v l := World.ownsRow.kept h hg hne

end Go.Proofs.YtkjlmnhdmlolmaaGreatDoor

namespace Go.Proofs.YtkjlmnhdmlolmaaGreatDoor
open Go.RowKit
set_option linter.unusedVariables false

theorem toList_inj5 {t : ByteArray} (h : t.toList = []) : t = ByteArray.empty := by
  rw [ByteArray.toList_eq] at h
  exact ByteArray.ext (Array.toList_inj.1 h)
set_option maxRecDepth 20000 in
set_option maxHeartbeats 2000000 in
theorem specTxOk_any (t : Tx5) (w : World) (hf : t.2.1.size ≤ maxLen) (ht : t.2.2.1.size ≤ maxLen) :
    Calls Tryz.prog 52 #[txV t] w fun e w' => e = .returned (.bool (txB t)) ∧ Below w.heap.size w w' := by
  obtain ⟨k, f, to, am, no⟩ := t
  simp only [txV] at *
  obtain ⟨w0, hw0⟩ : ∃ w0, w.alloc (.cells #[.int .i64 k, .string f, .string to, .int .i64 am, .int .i64 no] 35) = w0 := ⟨_, rfl⟩
  have HB : Hid (Below w.heap.size w w0) := hide (by rw [← hw0]; exact (Below.refl _ w).alloc (Nat.le_refl _) _)
  have hk : w0.heap[w.heap.size]? = some (.cells #[.int .i64 k, .string f, .string to, .int .i64 am, .int .i64 no] 35 (0, 0)) := by rw [← hw0]; exact heap_alloc_new w _
  have k0 : w0.cell? ⟨w.heap.size, 0, none⟩ = some (.int .i64 k) := by simp [World.cell?, hk]
  have k1 : w0.cell? ⟨w.heap.size, 1, none⟩ = some (.string f) := by simp [World.cell?, hk]
  have k2 : w0.cell? ⟨w.heap.size, 2, none⟩ = some (.string to) := by simp [World.cell?, hk]
  have k3 : w0.cell? ⟨w.heap.size, 3, none⟩ = some (.int .i64 am) := by simp [World.cell?, hk]
  have k4 : w0.cell? ⟨w.heap.size, 4, none⟩ = some (.int .i64 no) := by simp [World.cell?, hk]
  clear hk
  have Hx : Hid (txB (k, f, to, am, no) = (nmB f && (inB am 1 1000000 && (inB no 0 10000 && (if k = 1 then nmB to else (inB k 2 3 && decide (to = ByteArray.empty))))))) := hide rfl
  generalize txB (k, f, to, am, no) = X at Hx
  cases e0 : nmB f
  · rw [e0, Bool.false_and] at Hx
    go_enter Tryz.func52, Tryz.ntmps52
    go_wp2_with (first
      | (go_at_call 49; refine (specNameOk_any _ _ (by assumption)).mono ?_; rintro e w0 ⟨rfl, rfl⟩)
      | (go_at_call 48; refine (l1In_any _ _ _ _).mono ?_; rintro e w0 ⟨rfl, rfl⟩))
    go_ret
    exact ⟨ret_bool Hx.out.symm, HB.out⟩
  · cases e1 : inB am 1 1000000
    · rw [e0, e1, Bool.true_and, Bool.false_and] at Hx
      go_enter Tryz.func52, Tryz.ntmps52
      go_wp2_with (first
        | (go_at_call 49; refine (specNameOk_any _ _ (by assumption)).mono ?_; rintro e w0 ⟨rfl, rfl⟩)
        | (go_at_call 48; refine (l1In_any _ _ _ _).mono ?_; rintro e w0 ⟨rfl, rfl⟩))
      go_ret
      exact ⟨ret_bool Hx.out.symm, HB.out⟩
    · cases e2 : inB no 0 10000
      · rw [e0, e1, e2, Bool.true_and, Bool.true_and, Bool.false_and] at Hx
        go_enter Tryz.func52, Tryz.ntmps52
        go_wp2_with (first
          | (go_at_call 49; refine (specNameOk_any _ _ (by assumption)).mono ?_; rintro e w0 ⟨rfl, rfl⟩)
          | (go_at_call 48; refine (l1In_any _ _ _ _).mono ?_; rintro e w0 ⟨rfl, rfl⟩))
        go_ret
        exact ⟨ret_bool Hx.out.symm, HB.out⟩
      · rw [e0, e1, e2, Bool.true_and, Bool.true_and, Bool.true_and] at Hx
        by_cases hk1 : k = 1
        · rw [if_pos hk1] at Hx
          subst hk1
          go_enter Tryz.func52, Tryz.ntmps52
          go_wp2_with (first
            | (go_at_call 49; refine (specNameOk_any _ _ (by assumption)).mono ?_; rintro e w0 ⟨rfl, rfl⟩)
            | (go_at_call 48; refine (l1In_any _ _ _ _).mono ?_; rintro e w0 ⟨rfl, rfl⟩))
          go_ret
          exact ⟨ret_bool Hx.out.symm, HB.out⟩
        · rw [if_neg hk1] at Hx
          have hkb : (k == 1) = false := by rw [beq_eq_false_iff_ne]; exact hk1
          clear hk1
          cases e3 : inB k 2 3
          · rw [e3, Bool.false_and] at Hx
            go_enter Tryz.func52, Tryz.ntmps52
            go_wp2_with (first
              | (go_at_call 49; refine (specNameOk_any _ _ (by assumption)).mono ?_; rintro e w0 ⟨rfl, rfl⟩)
              | (go_at_call 48; refine (l1In_any _ _ _ _).mono ?_; rintro e w0 ⟨rfl, rfl⟩))
            go_ret
            exact ⟨ret_bool Hx.out.symm, HB.out⟩
          · by_cases e4 : to = ByteArray.empty
            · rw [e3, decide_eq_true e4, Bool.true_and] at Hx
              subst e4
              go_enter Tryz.func52, Tryz.ntmps52
              go_wp2_with (first
                | (go_at_call 49; refine (specNameOk_any _ _ (by assumption)).mono ?_; rintro e w0 ⟨rfl, rfl⟩)
                | (go_at_call 48; refine (l1In_any _ _ _ _).mono ?_; rintro e w0 ⟨rfl, rfl⟩))
              go_ret
              exact ⟨ret_bool Hx.out.symm, HB.out⟩
            · rw [e3, decide_eq_false e4, Bool.true_and] at Hx
              have hne : to.toList.isEmpty = false := by
                cases h : to.toList.isEmpty
                · rfl
                · exact absurd (toList_inj5 (List.isEmpty_iff.1 h)) e4
              clear e4
              go_enter Tryz.func52, Tryz.ntmps52
              go_wp2_with (first
                | (go_at_call 49; refine (specNameOk_any _ _ (by assumption)).mono ?_; rintro e w0 ⟨rfl, rfl⟩)
                | (go_at_call 48; refine (l1In_any _ _ _ _).mono ?_; rintro e w0 ⟨rfl, rfl⟩))
              go_ret
              exact ⟨ret_bool Hx.out.symm, HB.out⟩
end Go.Proofs.YtkjlmnhdmlolmaaGreatDoor

namespace Go.Proofs.YtkjlmnhdmlolmaaGreatDoor
open Go.RowKit
set_option linter.unusedVariables false

theorem blk_put5 {W : World} {B : Nat} {t : TypeId} {a0 a1 a2 a3 a4 : Value} (h : Blk W B t [a0, a1, a2, a3, a4]) (y0 y1 y2 y3 y4 : Value) :
    Blk (((((W.setCell ⟨B, 0, none⟩ y0).setCell ⟨B, 1, none⟩ y1).setCell ⟨B, 2, none⟩ y2).setCell ⟨B, 3, none⟩ y3).setCell ⟨B, 4, none⟩ y4) B t [y0, y1, y2, y3, y4] := by
  have e0 : Blk (W.setCell ⟨B, 0, none⟩ y0) B t [y0, a1, a2, a3, a4] := heap_setCell_same W B 0 #[a0, a1, a2, a3, a4] t y0 h
  have e1 : Blk ((W.setCell ⟨B, 0, none⟩ y0).setCell ⟨B, 1, none⟩ y1) B t [y0, y1, a2, a3, a4] := heap_setCell_same _ B 1 #[y0, a1, a2, a3, a4] t y1 e0
  have e2 : Blk (((W.setCell ⟨B, 0, none⟩ y0).setCell ⟨B, 1, none⟩ y1).setCell ⟨B, 2, none⟩ y2) B t [y0, y1, y2, a3, a4] := heap_setCell_same _ B 2 #[y0, y1, a2, a3, a4] t y2 e1
  have e3 : Blk ((((W.setCell ⟨B, 0, none⟩ y0).setCell ⟨B, 1, none⟩ y1).setCell ⟨B, 2, none⟩ y2).setCell ⟨B, 3, none⟩ y3) B t [y0, y1, y2, y3, a4] := heap_setCell_same _ B 3 #[y0, y1, y2, a3, a4] t y3 e2
  exact heap_setCell_same _ B 4 #[y0, y1, y2, y3, a4] t y4 e3
theorem blk_other5 {W : World} {B b : Nat} {t : TypeId} {cs : List Value} (h : Blk W B t cs) (hne : B ≠ b) (y0 y1 y2 y3 y4 : Value) :
    Blk (((((W.setCell ⟨b, 0, none⟩ y0).setCell ⟨b, 1, none⟩ y1).setCell ⟨b, 2, none⟩ y2).setCell ⟨b, 3, none⟩ y3).setCell ⟨b, 4, none⟩ y4) B t cs := by
  unfold Blk
  rw [heap_setCell_other _ ⟨b, 4, none⟩ B _ hne, heap_setCell_other _ ⟨b, 3, none⟩ B _ hne, heap_setCell_other _ ⟨b, 2, none⟩ B _ hne, heap_setCell_other _ ⟨b, 1, none⟩ B _ hne, heap_setCell_other _ ⟨b, 0, none⟩ B _ hne]
  exact h
end Go.Proofs.YtkjlmnhdmlolmaaGreatDoor
