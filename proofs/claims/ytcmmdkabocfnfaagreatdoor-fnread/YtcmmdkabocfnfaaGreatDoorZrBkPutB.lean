/- The bytes of a block, by the model. -/
import Derived.Test.YtcmmdkabocfnfaaGreatDoorZrBkSpec
import Derived.Test.YtcmmdkabocfnfaaGreatDoorZrBkOk
namespace Go.Proofs.YtcmmdkabocfnfaaGreatDoor
open Go.RowKit
set_option linter.unusedVariables false

/-- A block's bytes, part behind part. -/
def h9P (b : Bk) : List UInt8 := [] ++ numB b.id ++ numB b.ep ++ numB b.rd ++ textB b.md
def q9P (b : Bk) : List UInt8 := h9P b ++ numB b.qr ++ numB b.qb ++ namesB b.qw
def t9P (b : Bk) : List UInt8 := q9P b ++ numB b.tr ++ namesB b.tw ++ hisP b.th
def x9P (b : Bk) (k : Nat) : List UInt8 := t9P b ++ numB (b.ts.length : Int) ++ (b.ts.take k).flatMap txP
def e9P (b : Bk) : List UInt8 := x9P b b.ts.length ++ numB (if b.en = true then 1 else 0) ++ numB (b.nx.length : Int)
def n9P (b : Bk) (k : Nat) : List UInt8 := e9P b ++ (b.nx.take k).flatMap (fun p => textB p.1 ++ numB p.2)
/-- What PutBlock answers. -/
def blP (b : Bk) : List UInt8 := if blB b = true then n9P b b.nx.length ++ textB b.rt else []
theorem x9P_zero (b : Bk) : t9P b ++ numB (b.ts.length : Int) = x9P b 0 := by simp [x9P]
theorem x9P_snoc (b : Bk) (k : Nat) (h : k < b.ts.length) : x9P b (k + 1) = x9P b k ++ txP b.ts[k] := by
  unfold x9P; rw [List.take_succ_eq_append_getElem h]; simp only [List.flatMap_append, List.flatMap_cons, List.flatMap_nil, List.append_nil, List.append_assoc]
theorem n9P_zero (b : Bk) : e9P b = n9P b 0 := by simp [n9P]
theorem n9P_snoc (b : Bk) (k : Nat) (h : k < b.nx.length) : n9P b (k + 1) = n9P b k ++ textB b.nx[k].1 ++ numB b.nx[k].2 := by
  unfold n9P; rw [List.take_succ_eq_append_getElem h]; simp only [List.flatMap_append, List.flatMap_cons, List.flatMap_nil, List.append_nil, List.append_assoc]
theorem nm_le9 {s : ByteArray} (h : nmB s = true) : s.size ≤ 8 := by
  unfold nmB inB at h
  simp only [Bool.and_eq_true, decide_eq_true_eq] at h
  omega
theorem tot_le9 : ∀ ls : List ByteArray, (∀ s ∈ ls, s.size ≤ 8) → tot ls ≤ 8 * ls.length
  | [], _ => by simp [tot]
  | s :: t, h => by
    have h1 := h s List.mem_cons_self
    have h2 := tot_le9 t (fun x hx => h x (List.mem_cons_of_mem _ hx))
    simp only [tot, List.map_cons, List.sum_cons, List.length_cons] at h2 ⊢
    omega
theorem nms_small {ls : List ByteArray} (h : nmsB ls = true) : ls.length ≤ 20 ∧ tot ls ≤ 160 := by
  unfold nmsB at h
  simp only [Bool.and_eq_true, decide_eq_true_eq, List.all_eq_true, List.mem_range] at h
  have h8 : ∀ s ∈ ls, s.size ≤ 8 := fun s hs => by
    obtain ⟨j, hj, rfl⟩ := List.mem_iff_getElem.1 hs
    have := h.1 j hj
    unfold okAt at this
    simp only [Bool.and_eq_true] at this
    have h1 := this.1
    rw [List.getD_eq_getElem?_getD, List.getElem?_eq_getElem hj] at h1
    exact nm_le9 h1
  have := tot_le9 ls h8
  omega
/-- What a block that is right keeps to. -/
structure PutK (b : Bk) : Prop where
  id : 0 ≤ b.id ∧ b.id ≤ 100000
  ep : 0 ≤ b.ep ∧ b.ep ≤ 900
  rd : 1 ≤ b.rd ∧ b.rd ≤ 10000
  md : b.md.size ≤ 8
  qr : 0 ≤ b.qr ∧ b.qr ≤ 10000
  qb : -1 ≤ b.qb ∧ b.qb ≤ 100000
  qw : b.qw.length ≤ 20 ∧ tot b.qw ≤ 160
  tr : 0 ≤ b.tr ∧ b.tr ≤ 10000
  tw : b.tw.length ≤ 20 ∧ tot b.tw ≤ 160
  th : b.th.length ≤ 20
  hb : ∀ x ∈ b.th, 0 ≤ x ∧ x ≤ 10000
  ts : b.ts.length ≤ 4
  tb : ∀ t ∈ b.ts, t.2.1.size ≤ 8 ∧ t.2.2.1.size ≤ 8 ∧ (1 ≤ t.1 ∧ t.1 ≤ 3) ∧ (1 ≤ t.2.2.2.1 ∧ t.2.2.2.1 ≤ 1000000) ∧ (0 ≤ t.2.2.2.2 ∧ t.2.2.2.2 ≤ 10000)
  nx : b.nx.length ≤ 12
  nb : ∀ p ∈ b.nx, p.1.size ≤ 8 ∧ (1 ≤ p.2 ∧ p.2 ≤ 1000000)
  rt : b.rt.size ≤ 32
theorem tx_small {t : Tx5} (h : txB t = true) : t.2.1.size ≤ 8 ∧ t.2.2.1.size ≤ 8 ∧ (1 ≤ t.1 ∧ t.1 ≤ 3) ∧ (1 ≤ t.2.2.2.1 ∧ t.2.2.2.1 ≤ 1000000) ∧ (0 ≤ t.2.2.2.2 ∧ t.2.2.2.2 ≤ 10000) := by
  unfold txB inB at h
  simp only [Bool.and_eq_true, decide_eq_true_eq] at h
  obtain ⟨h1, h2, h3, h4⟩ := h
  have h1 := nm_le9 h1
  split at h4
  · have h5 := nm_le9 h4
    exact ⟨h1, h5, by omega, h2, h3⟩
  · simp only [Bool.and_eq_true, decide_eq_true_eq] at h4
    refine ⟨h1, ?_, by omega, h2, h3⟩
    rw [h4.2]
    show 0 ≤ 8
    omega
theorem set_small {l : List Vl} (h : setB l = true) : l.length ≤ 12 ∧ ∀ p ∈ l, p.1.size ≤ 8 ∧ (1 ≤ p.2 ∧ p.2 ≤ 1000000) := by
  unfold setB inB at h
  simp only [Bool.and_eq_true, decide_eq_true_eq, List.all_eq_true, List.mem_range] at h
  refine ⟨by omega, fun p hp => ?_⟩
  obtain ⟨j, hj, rfl⟩ := List.mem_iff_getElem.1 hp
  have h1 := h.1 j hj
  unfold vlAt valB inB at h1
  simp only [Bool.and_eq_true, decide_eq_true_eq] at h1
  rw [List.getD_eq_getElem?_getD, List.getElem?_eq_getElem hj] at h1
  exact ⟨nm_le9 h1.1.1, h1.1.2⟩
theorem bl_put {b : Bk} (h : blB b = true) : PutK b := by
  unfold blB at h
  simp only [Bool.and_eq_true, decide_eq_true_eq] at h
  obtain ⟨h1, h2, h3, h4, h5, h6, h7, h8, h9⟩ := h
  unfold inB at h1 h2 h3
  simp only [decide_eq_true_eq] at h1 h2 h3
  have w1 : wrap64 (b.rd - 1) = b.rd - 1 := by unfold wrap64; omega
  have w2 : wrap64 (b.id - 1) = b.id - 1 := by unfold wrap64; omega
  have hq : (0 ≤ b.qr ∧ b.qr ≤ 10000) ∧ (-1 ≤ b.qb ∧ b.qb ≤ 100000) ∧ b.qw.length ≤ 20 ∧ tot b.qw ≤ 160 := by
    unfold q9B at h5
    rw [w1, w2] at h5
    simp only [Bool.or_eq_true, Bool.and_eq_true] at h5
    rcases h5 with h5 | h5
    · unfold rootB at h5
      simp only [Bool.and_eq_true, decide_eq_true_eq] at h5
      have e : b.qw = [] := List.length_eq_zero_iff.1 h5.2.2
      rw [e]
      exact ⟨by omega, by omega, by simp, by simp [tot]⟩
    · unfold inB at h5
      simp only [decide_eq_true_eq] at h5
      have := nms_small h5.2.2
      exact ⟨by omega, by omega, this⟩
  have ht : (0 ≤ b.tr ∧ b.tr ≤ 10000) ∧ (b.tw.length ≤ 20 ∧ tot b.tw ≤ 160) ∧ b.th.length ≤ 20 ∧ ∀ x ∈ b.th, 0 ≤ x ∧ x ≤ 10000 := by
    unfold t9B at h6
    rw [w1] at h6
    simp only [Bool.or_eq_true, Bool.and_eq_true] at h6
    rcases h6 with h6 | h6
    · unfold noneB at h6
      simp only [Bool.and_eq_true, decide_eq_true_eq] at h6
      have e : b.tw = [] := List.length_eq_zero_iff.1 h6.2.1
      have e2 : b.th = [] := List.length_eq_zero_iff.1 h6.2.2
      rw [e, e2]
      exact ⟨by omega, ⟨by simp, by simp [tot]⟩, by simp, by simp⟩
    · unfold inB hisB inB at h6
      simp only [decide_eq_true_eq, List.all_eq_true] at h6
      have hn := nms_small h6.2.1
      exact ⟨by omega, hn, by have := h6.2.2.1; omega, fun x hx => by have := h6.2.2.2 x hx; omega⟩
  have he : (b.nx.length ≤ 12 ∧ ∀ p ∈ b.nx, p.1.size ≤ 8 ∧ (1 ≤ p.2 ∧ p.2 ≤ 1000000)) ∧ b.rt.size ≤ 32 := by
    unfold e9B at h9
    split at h9
    · simp only [Bool.and_eq_true, decide_eq_true_eq] at h9
      exact ⟨set_small h9.1, by omega⟩
    · simp only [Bool.and_eq_true, decide_eq_true_eq] at h9
      have e : b.nx = [] := List.length_eq_zero_iff.1 h9.1
      rw [e, h9.2]
      exact ⟨⟨by simp, by simp⟩, by show 0 ≤ 32; omega⟩
  exact ⟨h1, h2, h3, nm_le9 h4, hq.1, hq.2.1, hq.2.2, ht.1, ht.2.1, ht.2.2.1, ht.2.2.2, h7, fun t htm => tx_small (by rw [List.all_eq_true] at h8; exact h8 t htm), he.1.1, he.1.2, he.2⟩
end Go.Proofs.YtcmmdkabocfnfaaGreatDoor
