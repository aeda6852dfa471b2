/- Bytes drawn for a block to be read of. A number comes back of its bytes; cut it does not. -/
import Derived.Test.YtcmmdkabocfnfaaGreatDoorZrDrawBk
import Derived.Test.YtcmmdkabocfnfaaGreatDoorZrBkPutW
import Derived.Test.YtcmmdkabocfnfaaGreatDoorZrBkPutI
import Derived.Test.YtcmmdkabocfnfaaGreatDoorZrDrawTx
import Derived.Test.YtcmmdkabocfnfaaGreatDoorZrDraw
namespace Go.Proofs.YtcmmdkabocfnfaaGreatDoor
open Go.RowKit
set_option linter.unusedVariables false

theorem blP_few (b : Bk) : (blP b).length ≤ 10000 := by
  by_cases h : blB b = true
  · have h1 := parts_len (bl_put h)
    rw [← blP_is b h]
    simp only [List.length_append]
    omega
  · have e : blP b = [] := by unfold blP; rw [if_neg h]
    rw [e]; simp
theorem RdB.cutG {w : World} {g cap : Nat} {l : List UInt8} (h : RdB w (.slice (some ⟨g, 0, none⟩) l.length cap) l) (k : Nat) (hk : k ≤ l.length) : RdB w (.slice (some ⟨g, 0, none⟩) k cap) (l.take k) := by
  rcases h with ⟨a, c, e, rfl, _⟩ | ⟨b, off, c, h0, e, h1, h2, h3, h4⟩
  · simp at hk; subst hk; exact .inl ⟨some ⟨g, 0, none⟩, cap, rfl, rfl, fun h => by cases h⟩
  · injection e with e1 e2 e3
    injection e1 with e1
    injection e1 with e4 e5
    subst e3 e4 e5
    by_cases hz : k = 0
    · subst hz; exact .inl ⟨some ⟨g, 0, none⟩, cap, rfl, rfl, fun h => by cases h⟩
    · refine .inr ⟨g, 0, cap, fun h => hz ?_, ?_, ?_, h2, h3, fun i hi => ?_⟩
      · rcases List.take_eq_nil_iff.1 h with h | h
        · exact h
        · exact absurd h h0
      · rw [List.length_take, Nat.min_eq_left hk]
      · rw [List.length_take]; omega
      · have hi2 : i < l.length := by rw [List.length_take] at hi; omega
        rw [h4 i hi2]; simp
set_option maxRecDepth 20000 in
set_option maxHeartbeats 2000000 in
theorem drawGetBlock_any (w : World) (cv : Value) (code : List UInt8) (hr : RdB w cv code) (hl : code.length ≤ 1048576) :
    Calls Tryz.prog 15 #[cv] w fun e w' => ∃ (v' : Value) (l : List UInt8), e = .returned v' ∧ RdB w' v' l ∧ l.length ≤ 1048576 ∧ Below w.heap.size w w' := by
  obtain ⟨ac, cc, rfl⟩ := hr.shape
  have H1 := hide (l1New_any w _ code hr hl)
  clear hr
  go_enter Tryz.func15, Tryz.ntmps15
  go_wp2_with fail
  refine H1.out.mono ?_
  rintro e w1 ⟨rfl, hc1, hb1⟩
  have hz1 := hc1.lt
  clear H1
  go_wp2_with fail
  refine (l9Draw_any w w1 w.heap.size _ code hc1 hl).mono ?_
  rintro e w2 ⟨b, v, rfl, ho, hS, hc2, hg2⟩
  have hb2 : Below w.heap.size w w2 := hb1.trans (below_grw hg2 (Nat.le_refl _) (by omega))
  have hz2 := hg2.size
  have hPB := blP_few b
  have HP := hide (specPutBlock_any b v w2 ho.rd hS.few (by have := hS.tr; omega))
  clear ho hS hc1 hb1 hg2
  generalize blP b = l at hPB HP
  go_wp2_with fail
  refine HP.out.mono ?_
  rintro e w3 ⟨v3, rfl, o3, hb3⟩
  have hc3 := hc2.below hb3 hc2.lt
  have hB3 : Below w.heap.size w w3 := hb2.trans (hb3.mono (by omega))
  have hz3 := hb3.size
  clear HP hb3 hc2 hb2
  rcases o3.2 with ⟨rfl, hn⟩ | ⟨q, cap, cur, rfl, hq, _, _, hcm, _, _⟩
  · have HO := hide o3.rd
    have HB := hide hB3
    clear o3 hB3 hc3
    go_wp2
    go_ret
    exact ⟨_, l, rfl, HO.out, by omega, HB.out⟩
  by_cases h0 : l.length = 0
  · have e := List.length_eq_zero_iff.1 h0
    subst e
    have HO := hide o3.rd
    have HB := hide hB3
    clear o3 hB3 hc3
    go_wp2
    go_ret
    exact ⟨_, [], rfl, HO.out, by simp, HB.out⟩
  have hne : ((l.length : Int) == 0) = false := by rw [beq_eq_false_iff_ne]; omega
  have HO3 := hide o3
  have HB3 := hide hB3
  clear o3 hB3
  go_wp2_with fail
  refine (l1Below_any w w3 w.heap.size _ code 5 hc3 hl (by omega) (by omega)).mono ?_
  rintro e w4 ⟨x, rfl, hx, -, hc4, hg4⟩
  have HO4 : Hid (OwnB w2.heap.size w4 (.slice (some ⟨q, 0, none⟩) l.length cap) l) := hide (HO3.out.notg hg4 (by omega))
  have HB4 := hide (HB3.out.trans (below_grw hg4 (Nat.le_refl _) (by omega)))
  have hz4 := hg4.size
  clear HO3 HB3 hc3 hg4 hx
  by_cases hx0 : x = 0
  · subst hx0
    go_wp2_with fail
    refine (l1Below_any w w4 w.heap.size _ code (l.length : Int) hc4 hl (by omega) (by omega)).mono ?_
    rintro e w5 ⟨y, rfl, hy, -, hc5, hg5⟩
    have hy5 : (y : Int) < (l.length : Int) := hy (by omega)
    have HO5 : Hid (OwnB w2.heap.size w5 (.slice (some ⟨q, 0, none⟩) l.length cap) l) := hide (HO4.out.notg hg5 (by omega))
    have HB5 := hide (HB4.out.trans (below_grw hg5 (Nat.le_refl _) (by omega)))
    have hz5 := hg5.size
    obtain ⟨w6, hw6⟩ : ∃ w6, w5.alloc (.cells #[.int .i64 0, .int .i64 1, .int .i64 2, .int .i64 97, .int .i64 128, .int .i64 200] 3) = w6 := ⟨_, rfl⟩
    have b6 : Below w5.heap.size w5 w6 := by rw [← hw6]; exact (Below.refl _ w5).alloc (Nat.le_refl _) _
    have HI6 : Hid (IntsAt w6 w5.heap.size [0, 1, 2, 97, 128, 200]) := hide (by rw [← hw6]; exact ints_new w5 [0, 1, 2, 97, 128, 200] 3)
    have hc6 := hc5.below b6 hc5.lt
    have HO6 := hide (HO5.out.below b6 (Nat.le_refl _))
    have HB6 := hide (HB5.out.trans (b6.mono (by omega)))
    have hz6 := b6.size
    have Hw6 := hide hw6
    clear HO4 HB4 HO5 HB5 hc4 hc5 hg5 hy b6 hw6
    go_wp2_with fail
    rw [Hw6.out]
    refine (l1Int_any w w6 w.heap.size w5.heap.size _ code [0, 1, 2, 97, 128, 200] hc6 hl HI6.out (by omega) (by simp) (by simp) 6).mono ?_
    rintro e w7 ⟨n, rfl, hn, hc7, hg7⟩
    have hn2 : 0 ≤ n ∧ n ≤ 200 := by simp at hn; omega
    obtain ⟨m, rfl⟩ : ∃ m : Nat, n = (m : Int) := ⟨n.toNat, by omega⟩
    have ho7 : OwnB w2.heap.size w7 (.slice (some ⟨q, 0, none⟩) l.length cap) l := HO6.out.notg hg7 (by omega)
    have hB7 := HB6.out.trans (below_grw hg7 (Nat.le_refl _) (by omega))
    have hyl : y < l.length := by omega
    have hf := World.ownsRow.frozenAt ho7 y
    have hd := World.ownsRow.cellAt ho7 y (by omega)
    obtain ⟨u, hu⟩ : ∃ u, (l.map cb)[y]? = some u := ⟨_, List.getElem?_eq_getElem (by simp; omega)⟩
    rw [hu] at hd
    have hst := World.ownsRow.stored ho7 y (cb (UInt8.ofNat m))
    have hrow : OwnB w2.heap.size (w7.setCell ⟨q, y, none⟩ (cb (UInt8.ofNat m))) (.slice (some ⟨q, 0, none⟩) l.length cap) (l.set y (UInt8.ofNat m)) := by
      unfold OwnB
      rw [List.length_set, List.map_set]
      exact hst.1
    have ecb : cb (UInt8.ofNat m) = .int .u8 (m : Int) := by unfold cb; rw [← byte_of m (by omega)]
    have hbs : Below w.heap.size w (w7.setCell ⟨q, y, none⟩ (cb (UInt8.ofNat m))) := hB7.setCell (p := ⟨q, y, none⟩) (show w.heap.size ≤ q by omega) _
    rw [ecb] at hrow hbs
    have HRow := hide (OwnB.rd hrow)
    have HBs := hide hbs
    have hls : (l.set y (UInt8.ofNat m)).length ≤ 1048576 := by rw [List.length_set]; omega
    clear HO6 HB6 hc6 hg7 ho7 hB7 hst hrow hbs HI6 Hw6 hn hu ecb
    go_wp2
    go_ret
    exact ⟨_, l.set y (UInt8.ofNat m), rfl, HRow.out, hls, HBs.out⟩
  · have hxb : ((x : Int) == 0) = false := by rw [beq_eq_false_iff_ne]; omega
    by_cases hx1 : x = 1
    · subst hx1
      go_wp2_with fail
      refine (l1Below_any w w4 w.heap.size _ code (l.length : Int) hc4 hl (by omega) (by omega)).mono ?_
      rintro e w5 ⟨y, rfl, hy, -, hc5, hg5⟩
      have hy5 : (y : Int) < (l.length : Int) := hy (by omega)
      have ho5 : OwnB w2.heap.size w5 (.slice (some ⟨q, 0, none⟩) l.length cap) l := HO4.out.notg hg5 (by omega)
      have HB5 := hide (HB4.out.trans (below_grw hg5 (Nat.le_refl _) (by omega)))
      have HR := hide (RdB.cutG (OwnB.rd ho5) y (by omega))
      have hcap : l.length ≤ cap := by
        rcases OwnB.rd ho5 with ⟨a, c, e, e2, _⟩ | ⟨_, _, _, _, e, h1, _⟩
        · subst e2; exact absurd rfl h0
        · injection e with _ _ e3 <;> omega
      have hls : (l.take y).length ≤ 1048576 := by rw [List.length_take]; omega
      clear HO4 HB4 hc4 hc5 hg5 ho5 hy
      go_wp2
      go_ret
      exact ⟨_, l.take y, rfl, HR.out, hls, HB5.out⟩
    · have hxb1 : ((x : Int) == 1) = false := by rw [beq_eq_false_iff_ne]; omega
      clear hc4
      go_wp2
      go_ret
      exact ⟨_, l, rfl, OwnB.rd HO4.out, by omega, HB4.out⟩
end Go.Proofs.YtcmmdkabocfnfaaGreatDoor

namespace Go.Proofs.YtcmmdkabocfnfaaGreatDoor
open Go.RowKit
set_option linter.unusedVariables false

theorem putG_ne (f m : Nat) : putG f m ≠ [] := by
  cases f with
  | zero => simp [putG]
  | succ f => rw [putG]; split <;> simp

theorem low_byte (m : Nat) (h : m ≤ 127) : (UInt8.ofNat m).toNat = m := by rw [UInt8.toNat_ofNat']; omega
theorem high_byte (m : Nat) : (UInt8.ofNat (m % 128 + 128)).toNat = m % 128 + 128 := by rw [UInt8.toNat_ofNat']; omega

theorem sum_step (acc m k : Nat) : acc + m % 128 * 128 ^ k + m / 128 * 128 ^ (k + 1) = acc + m * 128 ^ k := by
  have e : m = m % 128 + 128 * (m / 128) := (Nat.mod_add_div m 128).symm
  rw [Nat.pow_succ, Nat.mul_comm (128 ^ k) 128, ← Nat.mul_assoc, Nat.add_assoc, ← Nat.add_mul]
  congr 2
  omega

theorem gr_put : ∀ (f F m acc k : Nat) (rest : List UInt8), F ≤ f + 1 → 0 < F → m < 128 ^ F →
    ∃ C, gr F (putG f m ++ rest) acc k = some (acc + m * 128 ^ k, k + ((putG f m).length - 1), C) ∧ (C = 0 → m = 0) ∧ (127 < m → 1 < (putG f m).length) ∧ (m ≤ 127 → (putG f m).length = 1) := by
  intro f
  induction f with
  | zero =>
    intro F m acc k rest hF hF0 hm
    cases F with
    | zero => omega
    | succ F =>
      have : F = 0 := by omega
      subst this
      simp at hm
      refine ⟨m, ?_, id, fun h => by omega, fun _ => by simp [putG]⟩
      simp only [putG, List.singleton_append, gr, low_byte m (by omega)]
      rw [if_neg (by omega), Nat.mod_eq_of_lt (by omega)]
      simp
  | succ f ih =>
    intro F m acc k rest hF hF0 hm
    by_cases h : m ≤ 127
    · rw [putG_last _ m h]
      cases F with
      | zero => omega
      | succ F =>
        refine ⟨m, ?_, id, fun h => by omega, fun _ => by simp⟩
        simp only [List.singleton_append, gr, low_byte m h]
        rw [if_neg (by omega), Nat.mod_eq_of_lt (by omega)]
        simp
    · rw [putG_more f m h]
      cases F with
      | zero => omega
      | succ F =>
        have hm' : m / 128 < 128 ^ F := by
          rw [Nat.pow_succ] at hm
          exact Nat.div_lt_of_lt_mul (by rw [Nat.mul_comm]; exact hm)
        obtain ⟨C, hg, hC, hl1, hl2⟩ := ih F (m / 128) (acc + m % 128 * 128 ^ k) (k + 1) rest (by omega) (by
          cases F with
          | zero => simp at hm'; omega
          | succ F => omega) hm'
        refine ⟨C, ?_, fun h0 => by have := hC h0; omega, fun _ => ?_, fun h' => by omega⟩
        · simp only [List.cons_append, gr, high_byte]
          rw [if_pos (by omega), show (m % 128 + 128) % 128 = m % 128 from by omega, hg, sum_step]
          have hne : (putG f (m / 128)).length ≠ 0 := by rw [Ne, List.length_eq_zero_iff]; exact putG_ne _ _
          simp only [List.length_cons]
          congr 3
          omega
        · have hne : (putG f (m / 128)).length ≠ 0 := by rw [Ne, List.length_eq_zero_iff]; exact putG_ne _ _
          simp only [List.length_cons]; omega

theorem gr_cut : ∀ (f F m acc k : Nat), gr F ((putG f m).dropLast) acc k = none := by
  intro f
  induction f with
  | zero => intro F m acc k; cases F <;> simp [putG, gr]
  | succ f ih =>
    intro F m acc k
    by_cases h : m ≤ 127
    · rw [putG_last _ m h]; cases F <;> simp [gr]
    · rw [putG_more f m h, List.dropLast_cons_of_ne_nil (putG_ne _ _)]
      cases F with
      | zero => rfl
      | succ F =>
        rw [gr, high_byte, if_pos (by omega)]
        exact ih _ _ _ _

def clampN (n : Int) : Int := if 1000000000 < n then 1000000000 else if n < -1000000000 then -1000000000 else n

theorem unfold_fold (n : Int) : (if foldN n % 2 = 1 then -((foldN n : Int) / 2) - 1 else (foldN n : Int) / 2) = clampN n := by
  unfold foldN clampN
  split <;> split <;> split <;> omega

theorem getN_put (l rest : List UInt8) (n : Int) : getN (l ++ (numB n ++ rest)) (l.length : Int) = (clampN n, (l.length : Int) + (numB n).length, true) := by
  have hM := foldN_le n
  obtain ⟨C, hg, hC, hl1, hl2⟩ := gr_put 5 5 (foldN n) 0 0 rest (by omega) (by omega) (by
    have : (128 : Nat) ^ 5 = 34359738368 := by decide
    omega)
  have hne : (putG 5 (foldN n)).length ≠ 0 := by rw [Ne, List.length_eq_zero_iff]; exact putG_ne _ _
  have hlen : 0 < (numB n).length := by unfold numB; omega
  unfold getN
  rw [if_pos (by simp; omega)]
  rw [Int.toNat_natCast, List.drop_left]
  unfold numB
  rw [hg]
  simp only [Nat.zero_add, Nat.pow_zero, Nat.mul_one]
  rw [if_neg (by omega), unfold_fold]
  congr 2
  omega

theorem getN_cut (l : List UInt8) (n : Int) : getN (l ++ (numB n).dropLast) (l.length : Int) = (0, 0, false) := by
  unfold getN
  split
  · rw [Int.toNat_natCast, List.drop_left]
    unfold numB
    rw [gr_cut]
  · rfl
end Go.Proofs.YtcmmdkabocfnfaaGreatDoor
