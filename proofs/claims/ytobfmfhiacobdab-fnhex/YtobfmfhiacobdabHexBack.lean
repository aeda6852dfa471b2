/- A text comes back of its hex digits, and hex digits of the text that comes of them. -/
import Derived.Test.YtobfmfhiacobdabHex
import Derived.Test.YtobfmfhiacobdabUnHex
namespace Go.Proofs.Ytobfmfhiacobdab
open Go.RowKit
set_option linter.unusedVariables false

theorem hx_all : ∀ n : Fin 16, dg (hx n.val).toNat = some n.val := by decide
theorem hx_dg (n : Nat) (h : n < 16) : dg (hx n).toNat = some n := hx_all ⟨n, h⟩
theorem hx_isD (n : Nat) (h : n < 16) : isD (hx n) = true := by unfold isD; rw [hx_dg n h]; rfl
theorem hx_dv (n : Nat) (h : n < 16) : dv (hx n) = n := by unfold dv; rw [hx_dg n h]; rfl
theorem dv_hx (a : UInt8) (h : isD a = true) : hx (dv a) = a := by
  have hd := dg_of h
  have hlt := a.toNat_lt
  unfold dg at hd
  split at hd
  · rename_i hr
    have e : dv a = a.toNat - 48 := by simpa using hd.symm
    rw [e, hx, if_pos (by omega)]
    apply UInt8.toNat_inj.1
    rw [UInt8.toNat_ofNat', Nat.mod_eq_of_lt (by omega)]
    omega
  · split at hd
    · rename_i h0 hr
      have e : dv a = a.toNat - 87 := by simpa using hd.symm
      rw [e, hx, if_neg (by omega)]
      apply UInt8.toNat_inj.1
      rw [UInt8.toNat_ofNat', Nat.mod_eq_of_lt (by omega)]
      omega
    · cases hd
theorem dec_cons (a b : UInt8) (t : List UInt8) (n : Nat) : dec (a :: b :: t) (n + 1) = UInt8.ofNat (dv a * 16 + dv b) :: dec t n := by
  unfold dec
  rw [List.range_succ_eq_map, List.map_cons, List.map_map]
  congr 1
theorem hexB_cons (c : UInt8) (t : List UInt8) : hexB (c :: t) = hx (c.toNat / 16) :: hx (c.toNat % 16) :: hexB t := rfl
theorem dec_hex (l : List UInt8) : dec (hexB l) l.length = l := by
  induction l with
  | nil => rfl
  | cons c t ih =>
    have hlt := c.toNat_lt
    rw [hexB_cons, List.length_cons, dec_cons, ih, hx_dv _ (by omega), hx_dv _ (by omega)]
    congr 1
    apply UInt8.toNat_inj.1
    rw [UInt8.toNat_ofNat', Nat.mod_eq_of_lt (by omega)]
    omega
theorem all_hex (l : List UInt8) : (hexB l).all isD = true := by
  induction l with
  | nil => rfl
  | cons c t ih =>
    have hlt := c.toNat_lt
    rw [hexB_cons, List.all_cons, List.all_cons, hx_isD _ (by omega), hx_isD _ (by omega), ih]
    rfl
theorem good_hex (l : List UInt8) : good (hexB l) = true := by
  unfold good
  rw [all_hex, hexB_len, Bool.and_true]
  simp
theorem un_hex (l : List UInt8) : unB (hexB l) = l := by
  unfold unB
  rw [if_pos (good_hex l), hexB_len, show 2 * l.length / 2 = l.length from by omega, dec_hex]
theorem hex_dec : ∀ (n : Nat) (l : List UInt8), l.length = 2 * n → l.all isD = true → hexB (dec l n) = l
  | 0, l, hl, _ => by rw [List.length_eq_zero_iff.1 (by omega : l.length = 0)]; rfl
  | n + 1, [], hl, _ => by simp at hl
  | n + 1, [_], hl, _ => by simp at hl; omega
  | n + 1, a :: b :: t, hl, ha => by
    simp only [List.all_cons, Bool.and_eq_true] at ha
    have h1 := dv_lt a
    have h2 := dv_lt b
    rw [dec_cons, hexB_cons, hex_dec n t (by simp at hl; omega) ha.2.2]
    rw [UInt8.toNat_ofNat', Nat.mod_eq_of_lt (by omega), show (dv a * 16 + dv b) / 16 = dv a from by omega, show (dv a * 16 + dv b) % 16 = dv b from by omega, dv_hx a ha.1, dv_hx b ha.2.1]
theorem hex_un (l : List UInt8) (h : good l = true) : hexB (unB l) = l := by
  unfold unB
  rw [if_pos h]
  unfold good at h
  simp only [Bool.and_eq_true, beq_iff_eq] at h
  exact hex_dec _ l (by omega) h.2
theorem dec_le (l : List UInt8) : (unB l).length ≤ l.length := by
  unfold unB
  split
  · rw [dec_len]; omega
  · simp
end Go.Proofs.Ytobfmfhiacobdab
