/- The model's reader: a certificate of leavings. What is read is no longer than the bytes; bytes.Equal. -/
import Derived.Test.YtcmmdkabocfnfaaGreatDoorZrBkSpA
import Derived.Test.YtcmmdkabocfnfaaGreatDoorZrBkRdE
import Derived.Test.YtcmmdkabocfnfaaGreatDoorZrTxGetI
import Derived.Test.YtcmmdkabocfnfaaGreatDoorZrDraw
import Derived.Laws.IdiomStrings
namespace Go.Proofs.YtcmmdkabocfnfaaGreatDoor
open Go.RowKit
set_option linter.unusedVariables false

set_option maxRecDepth 20000 in
set_option maxHeartbeats 4000000 in
theorem spGetTc_any {w0 W : World} {B : Nat} {v : Value} {l : List UInt8} {s : St} (h : Sp9 w0 W B v l s) :
    Calls Tryz.prog 25 #[.pointer (some ⟨B, 0, none⟩)] W fun e W' => ∃ v' u', e = .returned (tcV (rN l s) v' u') ∧ OwnS W.heap.size W' v' (rS l (sN l s)) ∧ OwnI W.heap.size W' u' (rL (rN l) (sN l) (rS l (sN l s)).length (sS l (sN l s))) ∧ Sp9 w0 W' B v l (sL (sN l) (rS l (sN l s)).length (sS l (sN l s))) ∧ Oth (fun g => g = B) W W' := by
  have hBl := h.lt
  have hlo := h.lo
  have HN := fun (V : World) (t : St) (hV : Sp9 w0 V B v l t) => spNum_any hV
  have HS := fun (V : World) (t : St) (hV : Sp9 w0 V B v l t) => spNames_any hV
  have hl20 := h.few
  obtain ⟨w2, hw2⟩ : ∃ x, W.alloc (.cells #[.int .i64 0, .slice none 0 0, .slice none 0 0] 28) = x := ⟨_, rfl⟩
  have b2 : Below W.heap.size W w2 := by rw [← hw2]; exact (Below.refl _ W).alloc (Nat.le_refl _) _
  have s2 : w2.heap.size = W.heap.size + 1 := by rw [← hw2]; simp
  have mR : Blk w2 W.heap.size 28 [.int .i64 0, .slice none 0 0, .slice none 0 0] := by
    rw [← hw2]
    exact Blk.new W 28 [.int .i64 0, .slice none 0 0, .slice none 0 0]
  have h2 := h.bel b2
  have O2 : Oth (fun g => g = B ∨ W.heap.size ≤ g) W w2 := Oth.of_below b2
  have hlen : (rS l (sN l s)).length ≤ 4000000 := by
    cases hq : sN l s with
    | none => simp [rS]
    | some p => have := getNs_len l p; simp only [rS]; omega
  obtain ⟨NS, hNS⟩ : ∃ x, rS l (sN l s) = x := ⟨_, rfl⟩
  obtain ⟨s1, hs1⟩ : ∃ x, sS l (sN l s) = x := ⟨_, rfl⟩
  obtain ⟨N1, hN1⟩ : ∃ x, rN l s = x := ⟨_, rfl⟩
  have C1 := HN w2 s h2
  rw [hN1] at C1
  rw [hNS] at hlen
  rw [hNS, hs1, hN1]
  clear h b2
  go_enter Tryz.func25, Tryz.ntmps25
  go_wp2_with fail
  refine C1.mono ?_
  rintro e w3 ⟨rfl, h3, O3⟩
  have mR3 := mR.oth O3 (by omega)
  have O3' := O2.trans O3.wide
  have z3 := O3.size
  go_wp2_with fail
  obtain ⟨w4, hw4⟩ : ∃ x, w3.alloc (.cells #[.int .i64 N1, .slice none 0 0, .slice none 0 0] 28) = x := ⟨_, rfl⟩
  rw [hw4]
  have b4 : Below w3.heap.size w3 w4 := by rw [← hw4]; exact (Below.refl _ w3).alloc (Nat.le_refl _) _
  have h4 := h3.bel b4
  have mR4 := mR3.below b4 mR3.lt
  have mQ4 : Blk w4 w3.heap.size 28 [.int .i64 N1, .slice none 0 0, .slice none 0 0] := by rw [← hw4]; exact Blk.new w3 _ _
  have O4 := O3'.trans (Oth.of_below (S := fun g => g = B ∨ W.heap.size ≤ g) b4)
  have hQW : W.heap.size < w3.heap.size := by omega
  clear hw2 mR h2 O2 h3 O3 mR3 O3' s2 b4 z3
  have z4 := mQ4.lt
  have C2 := HS w4 _ h4
  rw [hNS, hs1] at C2
  refine C2.mono ?_
  rintro e w5 ⟨v5, rfl, o5, h5, O5⟩
  obtain ⟨a5, c5, rfl⟩ := o5.rd.shape
  have mR5 := mR4.oth O5 (by omega)
  have mQ5 := mQ4.oth O5 (by omega)
  have O5' := O4.trans O5.wide
  have q1 := mQ5.cell 1
  have f1 := mQ5.frozen 1
  simp only [List.getElem?_cons_zero, List.getElem?_cons_succ] at q1
  have h6 := h5.set (g := w3.heap.size) (by omega) (by omega) 1 (.slice a5 NS.length c5)
  have mR6 := mR5.otherC (w3.heap.size) 1 (.slice a5 NS.length c5) (by omega)
  have mQ6 := mQ5.setC 1 (.slice a5 NS.length c5)
  have O6 := O5'.set (g := w3.heap.size) (.inr (by omega)) 1 (.slice a5 NS.length c5)
  have o6 := o5.olderC (g := w3.heap.size) z4 1 (.slice a5 NS.length c5)
  have Hlt5 : Hid (∀ g, (Value.slice a5 NS.length c5).ownBlock = some g → w4.heap.size ≤ g ∧ g < w5.heap.size) := hide (fun g hg => World.ownsRow.lt o5 g hg)
  simp only [List.set_cons_zero, List.set_cons_succ] at mQ6
  obtain ⟨w6, hw6⟩ : ∃ x, w5.setCell ⟨w3.heap.size, 1, none⟩ (.slice a5 NS.length c5) = x := ⟨_, rfl⟩
  rw [hw6] at h6 mR6 mQ6 O6 o6
  have z6 : w6.heap.size = w5.heap.size := by rw [← hw6]; simp
  have z45 := O5.size
  have q61 := mQ6.cell 1
  simp only [List.getElem?_cons_zero, List.getElem?_cons_succ] at q61
  obtain ⟨w5s, hw5s⟩ : ∃ n, w5.heap.size = n := ⟨_, rfl⟩
  rw [hw5s] at z6 z45 Hlt5
  clear hw4 C2 mR4 mQ4 h4 O4 h5 O5 mR5 mQ5 O5' o5
  have HO6 := hide O6
  have Ho6 := hide o6
  have Hh6 := hide h6
  have HmQ := hide mQ6
  have HmR := hide mR6
  clear O6 o6 h6 mQ6 mR6
  go_wp2
  clear hw6 q1 f1 q61 hw5s
  have z4' : w3.heap.size < w4.heap.size := z4
  go_loopw [4] (fun iv wr => ∃ (k : Nat) (hv : Value), k ≤ NS.length ∧ iv = .int .i64 (k : Int) ∧ Blk wr (w3.heap.size) 28 [.int .i64 N1, .slice a5 NS.length c5, hv] ∧ Blk wr W.heap.size 28 [.int .i64 0, .slice none 0 0, .slice none 0 0] ∧ OwnI w5s wr hv (rL (rN l) (sN l) k s1) ∧ OwnS w4.heap.size wr (.slice a5 NS.length c5) NS ∧ Sp9 w0 wr B v l (sL (sN l) k s1) ∧ Oth (fun g => g = B ∨ W.heap.size ≤ g) W wr ∧ w5s ≤ wr.heap.size) (fun iv _ => NS.length - (intOf iv).toNat)
  case atStart => exact ⟨0, .slice none 0 0, Nat.zero_le _, rfl, HmQ.out, HmR.out, nil_ownI _ _, Ho6.out, Hh6.out, HO6.out, by omega⟩
  case round =>
    obtain ⟨k, hv, hk, rfl, mQ, mR, oH, oS, hr, hO, hz⟩ := hrel
    clear HmQ HmR Ho6 Hh6 HO6
    by_cases hlt : k < NS.length
    · have hli : (k : Int) < (NS.length : Int) := by omega
      have Hnx : Hid (rL (rN l) (sN l) (k + 1) s1 = rL (rN l) (sN l) k s1 ++ [rN l (sL (sN l) k s1)] ∧ sL (sN l) (k + 1) s1 = sN l (sL (sN l) k s1)) := hide ⟨rfl, rfl⟩
      have Hlen := hide (rL_len (rN l) (sN l) s1 k)
      have bD : Below wr.heap.size wr wr.drew := (Below.refl _ wr).drew
      have C3 := hide (HN wr.drew _ (hr.bel bD))
      have x2 : wr.drew.cell? ⟨w3.heap.size, 2, none⟩ = some hv := by have := mQ.cell 2; simpa using this
      have hmQ := mQ.lt
      have x1w := mQ.cell 1
      simp only [List.getElem?_cons_zero, List.getElem?_cons_succ] at x1w
      obtain ⟨a8, c8, hv8⟩ := oH.rd.shape
      subst hv8
      generalize rL (rN l) (sN l) k s1 = L at oH Hnx Hlen x2 mQ
      generalize sL (sN l) k s1 = T at hr Hnx C3
      generalize rN l T = p at Hnx C3
      have HmQ := hide (mQ.below bD mQ.lt)
      have HmR := hide (mR.below bD mR.lt)
      have HoH : Hid (OwnI w5s wr.drew (.slice a8 L.length c8) L) := hide (row_oth (S := fun _ => False) oH (Oth.of_below bD) (fun _ _ e => e))
      have HoS : Hid (OwnS w4.heap.size wr.drew (.slice a5 NS.length c5) NS) := hide (row_oth (S := fun _ => False) oS (Oth.of_below bD) (fun _ _ e => e))
      have HO := hide (hO.trans (Oth.of_below (S := fun g => g = B ∨ W.heap.size ≤ g) bD))
      clear mQ mR oH oS hr hO
      go_wp2
      go_region_law (first
        | (refine step_appI9 rfl _ _ rfl w5s (.slice a8 L.length c8) w6.heap.size L p (by rfl) (by rfl) Hoa.out (Blk.newR w6 _ [.int .i64 p] _ rfl) (by have := Hlen.out; omega) (by simp; omega) ?_; intro v7 w7 ho7 hg7; have hsh := ho7.rd.shape; rw [List.length_append, List.length_cons, List.length_nil, Nat.zero_add] at hsh; obtain ⟨a7, c7, hv7⟩ := hsh; subst hv7; have mQ7 := Blk.oth HmQa.out (Oth.of_grown (S := fun g => w5s ≤ g) hg7 (fun g e => (World.ownsRow.lt Hoa.out g e).1)) (by omega); have y2 := mQ7.cell 2; have g2 := mQ7.frozen 2; simp only [List.getElem?_cons_zero, List.getElem?_cons_succ] at y2)
        | (go_simp; go_at_call 22; (with_reducible refine C3.out.mono ?_); rintro e w6 ⟨rfl, h6, O6⟩; have z6 := O6.size; have z6' : wr.heap.size ≤ w6.heap.size := z6; have mQ6 := HmQ.out.oth (W' := w6) O6 (by omega); have o6 : OwnI w5s w6 (.slice a8 L.length c8) L := row_oth HoH.out O6 (fun g hg e => by have := (World.ownsRow.lt HoH.out g hg).1; omega); have Hoa : Hid (OwnI w5s (w6.alloc (.cells #[.int .i64 p] 3)) (.slice a8 L.length c8) L) := hide (row_oth (S := fun _ => False) o6 (Oth.of_below ((Below.refl _ w6).alloc (Nat.le_refl _) (.cells #[.int .i64 p] 3))) (fun _ _ e => e)); have HmQa := hide (mQ6.below ((Below.refl w6.heap.size w6).alloc (Nat.le_refl _) (.cells #[.int .i64 p] 3)) mQ6.lt); have y6 := mQ6.cell 2; have ya := Blk.cell HmQa.out 2; simp only [List.getElem?_cons_zero, List.getElem?_cons_succ] at y6 ya; have H6 := hide h6; have HO6 := hide O6))
      all_goals
        have mR6 := HmR.out.oth (W' := w6) HO6.out (by omega)
        have mRa := mR6.below ((Below.refl w6.heap.size w6).alloc (Nat.le_refl _) (.cells #[.int .i64 p] 3)) mR6.lt
        have mR7 := Blk.oth mRa (Oth.of_grown (S := fun g => w5s ≤ g) hg7 (fun g e => (World.ownsRow.lt Hoa.out g e).1)) (by omega)
        have oS6 : OwnS w4.heap.size w6 (.slice a5 NS.length c5) NS := row_oth HoS.out HO6.out (fun g hg e => by have := (World.ownsRow.lt HoS.out g hg).1; omega)
        have oSa : OwnS w4.heap.size (w6.alloc (.cells #[.int .i64 p] 3)) (.slice a5 NS.length c5) NS := row_oth (S := fun _ => False) oS6 (Oth.of_below ((Below.refl _ w6).alloc (Nat.le_refl _) _)) (fun _ _ e => e)
        have oS7 : OwnS w4.heap.size w7 (.slice a5 NS.length c5) NS := row_oth oSa (Oth.of_grown (S := fun g => w5s ≤ g) hg7 (fun g e => (World.ownsRow.lt Hoa.out g e).1)) (fun g hg e => by have := (Hlt5.out g hg).2; omega)
        have h7 := (H6.out.al (.cells #[.int .i64 p] 3)).oth (S := fun g => w5s ≤ g) (Oth.of_grown hg7 (fun g e => (World.ownsRow.lt Hoa.out g e).1)) (fun g e => ⟨by omega, by omega⟩)
        have O7 := ((HO.out.trans HO6.out.wide).trans (Oth.of_below (S := fun g => g = B ∨ W.heap.size ≤ g) ((Below.refl _ w6).alloc (Nat.le_refl _) (.cells #[.int .i64 p] 3)))).trans (Oth.of_grown (S := fun g => g = B ∨ W.heap.size ≤ g) hg7 (fun g e => .inr (by have := (World.ownsRow.lt Hoa.out g e).1; omega)))
        have z7 := hg7.size
        have Hrel : Hid (∃ (kk : Nat) (hv : Value), kk ≤ NS.length ∧ Value.int .i64 ((k : Int) + 1) = .int .i64 (kk : Int) ∧ Blk (w7.setCell ⟨w3.heap.size, 2, none⟩ (.slice a7 (L.length + 1) c7)) (w3.heap.size) 28 [.int .i64 N1, .slice a5 NS.length c5, hv] ∧ Blk (w7.setCell ⟨w3.heap.size, 2, none⟩ (.slice a7 (L.length + 1) c7)) W.heap.size 28 [.int .i64 0, .slice none 0 0, .slice none 0 0] ∧ OwnI w5s (w7.setCell ⟨w3.heap.size, 2, none⟩ (.slice a7 (L.length + 1) c7)) hv (rL (rN l) (sN l) kk s1) ∧ OwnS w4.heap.size (w7.setCell ⟨w3.heap.size, 2, none⟩ (.slice a7 (L.length + 1) c7)) (.slice a5 NS.length c5) NS ∧ Sp9 w0 (w7.setCell ⟨w3.heap.size, 2, none⟩ (.slice a7 (L.length + 1) c7)) B v l (sL (sN l) kk s1) ∧ Oth (fun g => g = B ∨ W.heap.size ≤ g) W (w7.setCell ⟨w3.heap.size, 2, none⟩ (.slice a7 (L.length + 1) c7)) ∧ w5s ≤ (w7.setCell ⟨w3.heap.size, 2, none⟩ (.slice a7 (L.length + 1) c7)).heap.size) := hide ⟨k + 1, (.slice a7 (L.length + 1) c7), by omega, by go_num, mQ7.setC 2 (.slice a7 (L.length + 1) c7), mR7.otherC _ 2 (.slice a7 (L.length + 1) c7) (by omega), by rw [Hnx.out.1]; exact ho7.olderC (by omega) 2 (.slice a7 (L.length + 1) c7), oS7.olderC (by omega) 2 (.slice a7 (L.length + 1) c7), by rw [Hnx.out.2]; exact h7.set (by omega) (by omega) 2 (.slice a7 (L.length + 1) c7), O7.set (.inr (by omega)) 2 (.slice a7 (L.length + 1) c7), by simp at z7 ⊢; omega⟩
        clear mR6 mRa mR7 oS6 oSa oS7 h7 O7 z7 mQ7 ho7 hg7
        go_wp2
        go_roundw
        case rel => exact Hrel.out
        case measure => simp [intOf]; omega
    · have e : k = NS.length := by omega
      rw [e] at oH hr
      obtain ⟨a8, c8, hv8⟩ := oH.rd.shape
      rw [rL_len] at hv8
      subst hv8
      have a0 := mQ.cell 0
      have a1 := mQ.cell 1
      have a2 := mQ.cell 2
      have x0 := mR.cell 0
      have x1 := mR.cell 1
      have x2 := mR.cell 2
      have g0 := mR.frozen 0
      have g1 := mR.frozen 1
      have g2 := mR.frozen 2
      simp only [List.getElem?_cons_zero, List.getElem?_cons_succ] at a0 a1 a2 x0 x1 x2
      have HR := hide (((hr.set (g := W.heap.size) (by omega) (by omega) 0 (.int .i64 N1)).set (g := W.heap.size) (by omega) (by omega) 1 (.slice a5 NS.length c5)).set (g := W.heap.size) (by omega) (by omega) 2 (.slice a8 NS.length c8))
      have HO := hide (((hO.set (g := W.heap.size) (.inr (by omega)) 0 (.int .i64 N1)).set (g := W.heap.size) (.inr (by omega)) 1 (.slice a5 NS.length c5)).set (g := W.heap.size) (.inr (by omega)) 2 (.slice a8 NS.length c8)).tight
      have HS1 := hide (OwnS.mono (((oS.olderC (g := W.heap.size) (by omega) 0 (.int .i64 N1)).olderC (g := W.heap.size) (by omega) 1 (.slice a5 NS.length c5)).olderC (g := W.heap.size) (by omega) 2 (.slice a8 NS.length c8)) (show W.heap.size ≤ w4.heap.size by omega))
      have HI1 := hide (OwnI.mono (((oH.olderC (g := W.heap.size) (by omega) 0 (.int .i64 N1)).olderC (g := W.heap.size) (by omega) 1 (.slice a5 NS.length c5)).olderC (g := W.heap.size) (by omega) 2 (.slice a8 NS.length c8)) (show W.heap.size ≤ w5s by omega))
      clear mQ mR oH oS hr hO e
      go_wp2
      refine bodyPost_ret (v := .agg #[.int .i64 N1, .slice a5 NS.length c5, .slice a8 NS.length c8]) (by simp [results, Tryz.f25, go_sem, x0, x1, x2]) rfl ?_
      exact ⟨_, _, rfl, HS1.out, HI1.out, HR.out, HO.out⟩
end Go.Proofs.YtcmmdkabocfnfaaGreatDoor

namespace Go.Proofs.YtcmmdkabocfnfaaGreatDoor
open Go.RowKit
set_option linter.unusedVariables false

theorem getT_sz (l : List UInt8) (p : Int) : (getT l p).1.length ≤ l.length := by
  unfold getT
  split
  · simp only [List.length_take, List.length_drop]; omega
  · simp
theorem mkB_size (l : List UInt8) : (⟨l.toArray⟩ : ByteArray).size = l.length := by simp [ByteArray.size]
theorem rT_sz (l : List UInt8) (s : St) : (rT l s).size ≤ l.length := by
  cases s with
  | none => show (⟨#[]⟩ : ByteArray).size ≤ _; simp [ByteArray.size]
  | some p => show (⟨(getT l p).1.toArray⟩ : ByteArray).size ≤ _; rw [mkB_size]; exact getT_sz l p
theorem getL_sz (l : List UInt8) : ∀ (n : Nat) (q : Int) (acc a : List ByteArray) (x : Int), (∀ y ∈ acc, y.size ≤ l.length) → getL n l q acc = some (a, x) → ∀ y ∈ a, y.size ≤ l.length := by
  intro n
  induction n with
  | zero => intro q acc a x h e; simp only [getL, Option.some.injEq, Prod.mk.injEq] at e; rw [← e.1]; exact h
  | succ n ih =>
    intro q acc a x h e
    unfold getL at e
    split at e
    · refine ih _ _ _ _ ?_ e
      intro y hy
      rcases List.mem_append.1 hy with hy | hy
      · exact h y hy
      · rw [List.mem_singleton.1 hy, mkB_size]; exact getT_sz l q
    · cases e
theorem rS_sz (l : List UInt8) (s : St) : ∀ y ∈ rS l s, y.size ≤ l.length := by
  cases s with
  | none => intro y hy; cases hy
  | some p =>
    show ∀ y ∈ (getNs l p).1, y.size ≤ l.length
    unfold getNs
    split
    · split
      · intro y hy; cases hy
      · rename_i a q hq
        exact getL_sz l _ _ _ _ _ (fun y hy => by cases hy) hq
    · intro y hy; cases hy
theorem rS_len (l : List UInt8) (s : St) : (rS l s).length ≤ 100 := by
  cases s with
  | none => simp [rS]
  | some p => exact getNs_len l p
theorem rX_sz (l : List UInt8) (s : St) : (rX l s).2.1.size ≤ l.length ∧ (rX l s).2.2.1.size ≤ l.length := by
  cases s with
  | none => exact ⟨Nat.zero_le _, Nat.zero_le _⟩
  | some p =>
    show (getX l p).1.2.1.size ≤ _ ∧ (getX l p).1.2.2.1.size ≤ _
    unfold getX
    split
    · split
      · simp only [mkB_size]
        exact ⟨getT_sz _ _, getT_sz _ _⟩
      · exact ⟨Nat.zero_le _, Nat.zero_le _⟩
    · exact ⟨Nat.zero_le _, Nat.zero_le _⟩
theorem rL_all {α : Type} (r : St → α) (n : St → St) (P : α → Prop) (h : ∀ s, P (r s)) (s : St) : ∀ k, ∀ x ∈ rL r n k s, P x
  | 0, x, hx => by cases hx
  | k + 1, x, hx => by
    rcases List.mem_append.1 hx with hx | hx
    · exact rL_all r n P h s k x hx
    · rw [List.mem_singleton.1 hx]; exact h _
theorem rN_bd (l : List UInt8) (s : St) : -1000000000 ≤ rN l s ∧ rN l s ≤ 1000000000 := by
  cases s with
  | none => simp [rN]
  | some p => exact ⟨(getN_bd l p).1, (getN_bd l p).2.1⟩
theorem cI_few (l : List UInt8) (m : Int) (s : St) (hm : 0 ≤ m) : (cI l m s).toNat ≤ m.toNat := by
  unfold cI inB
  split
  · rename_i h
    simp only [decide_eq_true_eq] at h
    omega
  · simp
theorem few_bI (l : List UInt8) (hl : l.length ≤ 4000000) : FewK (bI l) := by
  have hm : 4000000 ≤ maxLen := by unfold maxLen; omega
  refine ⟨?_, ?_, ?_, ?_, ?_, ?_, ?_, ?_, ?_, ?_, ?_⟩
  · have := rS_len l (y6 l); show (rS l (y6 l)).length ≤ _; omega
  · have := rS_len l (y8 l); show (rS l (y8 l)).length ≤ _; omega
  · have := rS_len l (y8 l); show (rL (rN l) (sN l) (rS l (y8 l)).length (y9 l)).length ≤ _; rw [rL_len]; omega
  · have := cI_few l 4 (y10 l) (by omega); show (rL (rX l) (sX l) (cI l 4 (y10 l)).toNat (i11 l)).length ≤ _; rw [rL_len]; omega
  · have := cI_few l 12 (i13 l) (by omega); show (rL (rV l) (sV l) (cI l 12 (i13 l)).toNat (i14 l)).length ≤ _; rw [rL_len]; omega
  · intro s hs; have := rS_sz l (y6 l) s hs; omega
  · intro s hs; have := rS_sz l (y8 l) s hs; omega
  · intro t ht; have := rL_all (rX l) (sX l) (fun t : Tx5 => t.2.1.size ≤ l.length ∧ t.2.2.1.size ≤ l.length) (rX_sz l) _ _ t ht; omega
  · intro p hp; have := rL_all (rV l) (sV l) (fun p : Vl => p.1.size ≤ l.length) (fun s => rT_sz l s) _ _ p hp; omega
  · have := rT_sz l (y3 l); show (rT l (y3 l)).size ≤ _; omega
  · have := rT_sz l (i15 l); show (rT l (i15 l)).size ≤ _; omega
theorem few_bS (l : List UInt8) (hl : l.length ≤ 4000000) : FewK (bS l) := by
  have hm : 4000000 ≤ maxLen := by unfold maxLen; omega
  refine ⟨?_, ?_, ?_, ?_, ?_, ?_, ?_, ?_, ?_, ?_, ?_⟩
  · have := rS_len l (y6 l); show (rS l (y6 l)).length ≤ _; omega
  · have := rS_len l (y8 l); show (rS l (y8 l)).length ≤ _; omega
  · have := rS_len l (y8 l); show (rL (rN l) (sN l) (rS l (y8 l)).length (y9 l)).length ≤ _; rw [rL_len]; omega
  · show (rL (rX l) (sX l) (few (rN l (y10 l)) 5) (j11 l)).length ≤ _; rw [rL_len]; unfold few; omega
  · show (rL (rV l) (sV l) (few (rN l (j13 l)) 13) (j14 l)).length ≤ _; rw [rL_len]; unfold few; omega
  · intro s hs; have := rS_sz l (y6 l) s hs; omega
  · intro s hs; have := rS_sz l (y8 l) s hs; omega
  · intro t ht; have := rL_all (rX l) (sX l) (fun t : Tx5 => t.2.1.size ≤ l.length ∧ t.2.2.1.size ≤ l.length) (rX_sz l) _ _ t ht; omega
  · intro p hp; have := rL_all (rV l) (sV l) (fun p : Vl => p.1.size ≤ l.length) (fun s => rT_sz l s) _ _ p hp; omega
  · have := rT_sz l (y3 l); show (rT l (y3 l)).size ≤ _; omega
  · have := rT_sz l (j15 l); show (rT l (j15 l)).size ≤ _; omega
theorem Tryz.strNil9 (w : World) : (convert 22 9 (.slice none 0 0)).run Tryz.prog w = .ok (.string ⟨#[]⟩) w := by kernel_rfl
theorem str_any (w : World) (v : Value) (l : List UInt8) (h : RdB w v l) : (convert 22 9 v).run Tryz.prog w = .ok (.string ⟨l.toArray⟩) w := by
  rcases h with ⟨a, cap, rfl, rfl, hn⟩ | ⟨b, off, cap, hne, rfl, h1, h2, h3, h4⟩
  · cases a with
    | none =>
      have hc := hn rfl
      subst hc
      exact Tryz.strNil9 w
    | some ad =>
      have := run_convert_bytes_back (P := Tryz.prog) w 22 9 5 ad cap [] Tryz.underlying22 Tryz.underlying5 Tryz.underlying9 (by intro j hj; simp at hj)
      simpa using this
  · exact run_convert_bytes_back (P := Tryz.prog) w 22 9 5 ⟨b, off, none⟩ cap l Tryz.underlying22 Tryz.underlying5 Tryz.underlying9 (by
      intro j hj
      have ea : (⟨b, off, none⟩ : Addr).add j = ⟨b, off + j, none⟩ := by
        by_cases hz : j = 0
        · subst hz; simp [Addr.add]
        · simp [Addr.add, hz]
      rw [ea, h4 j hj])
set_option maxRecDepth 20000 in
theorem equalB_any (v1 v2 : Value) (l1 l2 : List UInt8) (w : World) (h1 : RdB w v1 l1) (h2 : RdB w v2 l2) :
    Calls Tryz.prog 81 #[v1, v2] w fun e w' => e = .returned (.bool (decide (l1 = l2))) ∧ w' = w := by
  have c1 := str_any w v1 l1 h1
  have c2 := str_any w v2 l2 h2
  by_cases he : l1 = l2
  · subst he
    have Hf : Hid (decide (l1 = l1) = true) := hide (decide_eq_true rfl)
    generalize decide (l1 = l1) = X at Hf ⊢
    go_enter Tryz.func81, Tryz.ntmps81
    go_wp2
    go_ret
    exact ⟨ret_bool Hf.out.symm, rfl⟩
  · have Hf : Hid (decide (l1 = l2) = false) := hide (decide_eq_false he)
    have hq := bytes_ne (a := ⟨l1.toArray⟩) (b := ⟨l2.toArray⟩) (fun e => he (by
      have := congrArg (fun s : ByteArray => s.data.toList) e
      simpa using this))
    generalize decide (l1 = l2) = X at Hf ⊢
    generalize (⟨l1.toArray⟩ : ByteArray) = s1 at c1 hq
    generalize (⟨l2.toArray⟩ : ByteArray) = s2 at c2 hq
    clear he
    go_enter Tryz.func81, Tryz.ntmps81
    go_wp2
    go_ret
    exact ⟨ret_bool Hf.out.symm, rfl⟩
end Go.Proofs.YtcmmdkabocfnfaaGreatDoor
