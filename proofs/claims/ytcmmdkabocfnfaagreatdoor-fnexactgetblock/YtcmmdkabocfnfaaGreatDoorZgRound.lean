/- The bytes of a block, by the model. A number comes back of its bytes; cut it does not. -/
import Derived.Test.YtcmmdkabocfnfaaGreatDoorZgBkPut
import Derived.Test.YtcmmdkabocfnfaaGreatDoorZgBkOk
import Derived.Test.YtcmmdkabocfnfaaGreatDoorZgPutPure
namespace Go.Proofs.YtcmmdkabocfnfaaGreatDoor
open Go.RowKit
set_option linter.unusedVariables false

/-- A block's bytes, part behind part. -/
def h9P (b : Bk) : List UInt8 := [] ++ numB b.id ++ numB b.ep ++ numB b.rd ++ textB b.md
def q9P (b : Bk) : List UInt8 := h9P b ++ numB b.qr ++ numB b.qb ++ namesB b.qw
def t9P (b : Bk) : List UInt8 := q9P b ++ numB b.tr ++ namesB b.tw ++ hisP b.th
def x9P (b : Bk) (k : Nat) : List UInt8 := t9P b ++ numB (b.ts.length : Int) ++ (b.ts.take k).flatMap txP
def e9P (b : Bk) : List UInt8 := x9P b b.ts.length ++ numB (if b.en = true then 1 else 0) ++ numB (b.nx.length : Int)
def n9P (b : Bk) (k : Nat) : List UInt8 := e9P b ++ (b.nx.take k).flatMap (fun p => textB p.1 ++ numB p.2)
/-- What PutBlock answers. -/
def blP (b : Bk) : List UInt8 := if blB b = true then n9P b b.nx.length ++ textB b.rt else []
theorem x9P_zero (b : Bk) : t9P b ++ numB (b.ts.length : Int) = x9P b 0 := by simp [x9P]
theorem x9P_snoc (b : Bk) (k : Nat) (h : k < b.ts.length) : x9P b (k + 1) = x9P b k ++ txP b.ts[k] := by
  unfold x9P; rw [List.take_succ_eq_append_getElem h]; simp only [List.flatMap_append, List.flatMap_cons, List.flatMap_nil, List.append_nil, List.append_assoc]
theorem n9P_zero (b : Bk) : e9P b = n9P b 0 := by simp [n9P]
theorem n9P_snoc (b : Bk) (k : Nat) (h : k < b.nx.length) : n9P b (k + 1) = n9P b k ++ textB b.nx[k].1 ++ numB b.nx[k].2 := by
  unfold n9P; rw [List.take_succ_eq_append_getElem h]; simp only [List.flatMap_append, List.flatMap_cons, List.flatMap_nil, List.append_nil, List.append_assoc]
theorem nm_le9 {s : ByteArray} (h : nmB s = true) : s.size ≤ 8 := by
  unfold nmB inB at h
  simp only [Bool.and_eq_true, decide_eq_true_eq] at h
  omega
theorem tot_le9 : ∀ ls : List ByteArray, (∀ s ∈ ls, s.size ≤ 8) → tot ls ≤ 8 * ls.length
  | [], _ => by simp [tot]
  | s :: t, h => by
    have h1 := h s List.mem_cons_self
    have h2 := tot_le9 t (fun x hx => h x (List.mem_cons_of_mem _ hx))
    simp only [tot, List.map_cons, List.sum_cons, List.length_cons] at h2 ⊢
    omega
theorem nms_small {ls : List ByteArray} (h : nmsB ls = true) : ls.length ≤ 20 ∧ tot ls ≤ 160 := by
  unfold nmsB at h
  simp only [Bool.and_eq_true, decide_eq_true_eq, List.all_eq_true, List.mem_range] at h
  have h8 : ∀ s ∈ ls, s.size ≤ 8 := fun s hs => by
    obtain ⟨j, hj, rfl⟩ := List.mem_iff_getElem.1 hs
    have := h.1 j hj
    unfold okAt at this
    simp only [Bool.and_eq_true] at this
    have h1 := this.1
    rw [List.getD_eq_getElem?_getD, List.getElem?_eq_getElem hj] at h1
    exact nm_le9 h1
  have := tot_le9 ls h8
  omega
/-- What a block that is right keeps to. -/
structure PutK (b : Bk) : Prop where
  id : 0 ≤ b.id ∧ b.id ≤ 100000
  ep : 0 ≤ b.ep ∧ b.ep ≤ 900
  rd : 1 ≤ b.rd ∧ b.rd ≤ 10000
  md : b.md.size ≤ 8
  qr : 0 ≤ b.qr ∧ b.qr ≤ 10000
  qb : -1 ≤ b.qb ∧ b.qb ≤ 100000
  qw : b.qw.length ≤ 20 ∧ tot b.qw ≤ 160
  tr : 0 ≤ b.tr ∧ b.tr ≤ 10000
  tw : b.tw.length ≤ 20 ∧ tot b.tw ≤ 160
  th : b.th.length ≤ 20
  hb : ∀ x ∈ b.th, 0 ≤ x ∧ x ≤ 10000
  ts : b.ts.length ≤ 4
  tb : ∀ t ∈ b.ts, t.2.1.size ≤ 8 ∧ t.2.2.1.size ≤ 8 ∧ (1 ≤ t.1 ∧ t.1 ≤ 3) ∧ (1 ≤ t.2.2.2.1 ∧ t.2.2.2.1 ≤ 1000000) ∧ (0 ≤ t.2.2.2.2 ∧ t.2.2.2.2 ≤ 10000)
  nx : b.nx.length ≤ 12
  nb : ∀ p ∈ b.nx, p.1.size ≤ 8 ∧ (1 ≤ p.2 ∧ p.2 ≤ 1000000)
  rt : b.rt.size ≤ 32
theorem tx_small {t : Tx5} (h : txB t = true) : t.2.1.size ≤ 8 ∧ t.2.2.1.size ≤ 8 ∧ (1 ≤ t.1 ∧ t.1 ≤ 3) ∧ (1 ≤ t.2.2.2.1 ∧ t.2.2.2.1 ≤ 1000000) ∧ (0 ≤ t.2.2.2.2 ∧ t.2.2.2.2 ≤ 10000) := by
  unfold txB inB at h
  simp only [Bool.and_eq_true, decide_eq_true_eq] at h
  obtain ⟨h1, h2, h3, h4⟩ := h
  have h1 := nm_le9 h1
  split at h4
  · have h5 := nm_le9 h4
    exact ⟨h1, h5, by omega, h2, h3⟩
  · simp only [Bool.and_eq_true, decide_eq_true_eq] at h4
    refine ⟨h1, ?_, by omega, h2, h3⟩
    rw [h4.2]
    show 0 ≤ 8
    omega
theorem set_small {l : List Vl} (h : setB l = true) : l.length ≤ 12 ∧ ∀ p ∈ l, p.1.size ≤ 8 ∧ (1 ≤ p.2 ∧ p.2 ≤ 1000000) := by
  unfold setB inB at h
  simp only [Bool.and_eq_true, decide_eq_true_eq, List.all_eq_true, List.mem_range] at h
  refine ⟨by omega, fun p hp => ?_⟩
  obtain ⟨j, hj, rfl⟩ := List.mem_iff_getElem.1 hp
  have h1 := h.1 j hj
  unfold vlAt valB inB at h1
  simp only [Bool.and_eq_true, decide_eq_true_eq] at h1
  rw [List.getD_eq_getElem?_getD, List.getElem?_eq_getElem hj] at h1
  exact ⟨nm_le9 h1.1.1, h1.1.2⟩
theorem bl_put {b : Bk} (h : blB b = true) : PutK b := by
  unfold blB at h
  simp only [Bool.and_eq_true, decide_eq_true_eq] at h
  obtain ⟨h1, h2, h3, h4, h5, h6, h7, h8, h9⟩ := h
  unfold inB at h1 h2 h3
  simp only [decide_eq_true_eq] at h1 h2 h3
  have w1 : wrap64 (b.rd - 1) = b.rd - 1 := by unfold wrap64; omega
  have w2 : wrap64 (b.id - 1) = b.id - 1 := by unfold wrap64; omega
  have hq : (0 ≤ b.qr ∧ b.qr ≤ 10000) ∧ (-1 ≤ b.qb ∧ b.qb ≤ 100000) ∧ b.qw.length ≤ 20 ∧ tot b.qw ≤ 160 := by
    unfold q9B at h5
    rw [w1, w2] at h5
    simp only [Bool.or_eq_true, Bool.and_eq_true] at h5
    rcases h5 with h5 | h5
    · unfold rootB at h5
      simp only [Bool.and_eq_true, decide_eq_true_eq] at h5
      have e : b.qw = [] := List.length_eq_zero_iff.1 h5.2.2
      rw [e]
      exact ⟨by omega, by omega, by simp, by simp [tot]⟩
    · unfold inB at h5
      simp only [decide_eq_true_eq] at h5
      have := nms_small h5.2.2
      exact ⟨by omega, by omega, this⟩
  have ht : (0 ≤ b.tr ∧ b.tr ≤ 10000) ∧ (b.tw.length ≤ 20 ∧ tot b.tw ≤ 160) ∧ b.th.length ≤ 20 ∧ ∀ x ∈ b.th, 0 ≤ x ∧ x ≤ 10000 := by
    unfold t9B at h6
    rw [w1] at h6
    simp only [Bool.or_eq_true, Bool.and_eq_true] at h6
    rcases h6 with h6 | h6
    · unfold noneB at h6
      simp only [Bool.and_eq_true, decide_eq_true_eq] at h6
      have e : b.tw = [] := List.length_eq_zero_iff.1 h6.2.1
      have e2 : b.th = [] := List.length_eq_zero_iff.1 h6.2.2
      rw [e, e2]
      exact ⟨by omega, ⟨by simp, by simp [tot]⟩, by simp, by simp⟩
    · unfold inB hisB inB at h6
      simp only [decide_eq_true_eq, List.all_eq_true] at h6
      have hn := nms_small h6.2.1
      exact ⟨by omega, hn, by have := h6.2.2.1; omega, fun x hx => by have := h6.2.2.2 x hx; omega⟩
  have he : (b.nx.length ≤ 12 ∧ ∀ p ∈ b.nx, p.1.size ≤ 8 ∧ (1 ≤ p.2 ∧ p.2 ≤ 1000000)) ∧ b.rt.size ≤ 32 := by
    unfold e9B at h9
    split at h9
    · simp only [Bool.and_eq_true, decide_eq_true_eq] at h9
      exact ⟨set_small h9.1, by omega⟩
    · simp only [Bool.and_eq_true, decide_eq_true_eq] at h9
      have e : b.nx = [] := List.length_eq_zero_iff.1 h9.1
      rw [e, h9.2]
      exact ⟨⟨by simp, by simp⟩, by show 0 ≤ 32; omega⟩
  exact ⟨h1, h2, h3, nm_le9 h4, hq.1, hq.2.1, hq.2.2, ht.1, ht.2.1, ht.2.2.1, ht.2.2.2, h7, fun t htm => tx_small (by rw [List.all_eq_true] at h8; exact h8 t htm), he.1.1, he.1.2, he.2⟩
end Go.Proofs.YtcmmdkabocfnfaaGreatDoor

namespace Go.Proofs.YtcmmdkabocfnfaaGreatDoor
open Go.RowKit
set_option linter.unusedVariables false

theorem putG_ne (f m : Nat) : putG f m ≠ [] := by
  cases f with
  | zero => simp [putG]
  | succ f => rw [putG]; split <;> simp

theorem low_byte (m : Nat) (h : m ≤ 127) : (UInt8.ofNat m).toNat = m := by rw [UInt8.toNat_ofNat']; omega
theorem high_byte (m : Nat) : (UInt8.ofNat (m % 128 + 128)).toNat = m % 128 + 128 := by rw [UInt8.toNat_ofNat']; omega

theorem sum_step (acc m k : Nat) : acc + m % 128 * 128 ^ k + m / 128 * 128 ^ (k + 1) = acc + m * 128 ^ k := by
  have e : m = m % 128 + 128 * (m / 128) := (Nat.mod_add_div m 128).symm
  rw [Nat.pow_succ, Nat.mul_comm (128 ^ k) 128, ← Nat.mul_assoc, Nat.add_assoc, ← Nat.add_mul]
  congr 2
  omega

theorem gr_put : ∀ (f F m acc k : Nat) (rest : List UInt8), F ≤ f + 1 → 0 < F → m < 128 ^ F →
    ∃ C, gr F (putG f m ++ rest) acc k = some (acc + m * 128 ^ k, k + ((putG f m).length - 1), C) ∧ (C = 0 → m = 0) ∧ (127 < m → 1 < (putG f m).length) ∧ (m ≤ 127 → (putG f m).length = 1) := by
  intro f
  induction f with
  | zero =>
    intro F m acc k rest hF hF0 hm
    cases F with
    | zero => omega
    | succ F =>
      have : F = 0 := by omega
      subst this
      simp at hm
      refine ⟨m, ?_, id, fun h => by omega, fun _ => by simp [putG]⟩
      simp only [putG, List.singleton_append, gr, low_byte m (by omega)]
      rw [if_neg (by omega), Nat.mod_eq_of_lt (by omega)]
      simp
  | succ f ih =>
    intro F m acc k rest hF hF0 hm
    by_cases h : m ≤ 127
    · rw [putG_last _ m h]
      cases F with
      | zero => omega
      | succ F =>
        refine ⟨m, ?_, id, fun h => by omega, fun _ => by simp⟩
        simp only [List.singleton_append, gr, low_byte m h]
        rw [if_neg (by omega), Nat.mod_eq_of_lt (by omega)]
        simp
    · rw [putG_more f m h]
      cases F with
      | zero => omega
      | succ F =>
        have hm' : m / 128 < 128 ^ F := by
          rw [Nat.pow_succ] at hm
          exact Nat.div_lt_of_lt_mul (by rw [Nat.mul_comm]; exact hm)
        obtain ⟨C, hg, hC, hl1, hl2⟩ := ih F (m / 128) (acc + m % 128 * 128 ^ k) (k + 1) rest (by omega) (by
          cases F with
          | zero => simp at hm'; omega
          | succ F => omega) hm'
        refine ⟨C, ?_, fun h0 => by have := hC h0; omega, fun _ => ?_, fun h' => by omega⟩
        · simp only [List.cons_append, gr, high_byte]
          rw [if_pos (by omega), show (m % 128 + 128) % 128 = m % 128 from by omega, hg, sum_step]
          have hne : (putG f (m / 128)).length ≠ 0 := by rw [Ne, List.length_eq_zero_iff]; exact putG_ne _ _
          simp only [List.length_cons]
          congr 3
          omega
        · have hne : (putG f (m / 128)).length ≠ 0 := by rw [Ne, List.length_eq_zero_iff]; exact putG_ne _ _
          simp only [List.length_cons]; omega

theorem gr_cut : ∀ (f F m acc k : Nat), gr F ((putG f m).dropLast) acc k = none := by
  intro f
  induction f with
  | zero => intro F m acc k; cases F <;> simp [putG, gr]
  | succ f ih =>
    intro F m acc k
    by_cases h : m ≤ 127
    · rw [putG_last _ m h]; cases F <;> simp [gr]
    · rw [putG_more f m h, List.dropLast_cons_of_ne_nil (putG_ne _ _)]
      cases F with
      | zero => rfl
      | succ F =>
        rw [gr, high_byte, if_pos (by omega)]
        exact ih _ _ _ _

def clampN (n : Int) : Int := if 1000000000 < n then 1000000000 else if n < -1000000000 then -1000000000 else n

theorem unfold_fold (n : Int) : (if foldN n % 2 = 1 then -((foldN n : Int) / 2) - 1 else (foldN n : Int) / 2) = clampN n := by
  unfold foldN clampN
  split <;> split <;> split <;> omega

theorem getN_put (l rest : List UInt8) (n : Int) : getN (l ++ (numB n ++ rest)) (l.length : Int) = (clampN n, (l.length : Int) + (numB n).length, true) := by
  have hM := foldN_le n
  obtain ⟨C, hg, hC, hl1, hl2⟩ := gr_put 5 5 (foldN n) 0 0 rest (by omega) (by omega) (by
    have : (128 : Nat) ^ 5 = 34359738368 := by decide
    omega)
  have hne : (putG 5 (foldN n)).length ≠ 0 := by rw [Ne, List.length_eq_zero_iff]; exact putG_ne _ _
  have hlen : 0 < (numB n).length := by unfold numB; omega
  unfold getN
  rw [if_pos (by simp; omega)]
  rw [Int.toNat_natCast, List.drop_left]
  unfold numB
  rw [hg]
  simp only [Nat.zero_add, Nat.pow_zero, Nat.mul_one]
  rw [if_neg (by omega), unfold_fold]
  congr 2
  omega

theorem getN_cut (l : List UInt8) (n : Int) : getN (l ++ (numB n).dropLast) (l.length : Int) = (0, 0, false) := by
  unfold getN
  split
  · rw [Int.toNat_natCast, List.drop_left]
    unfold numB
    rw [gr_cut]
  · rfl
end Go.Proofs.YtcmmdkabocfnfaaGreatDoor
