/- Hex digits: HexOf of the model and of the landed code. -/
import Derived.Test.YtobfmfhiacobdabStrOwn
import Derived.Deep.RegionHeldLaw
namespace Go.Proofs.Ytobfmfhiacobdab
open Go.RowKit
set_option linter.unusedVariables false

def hx (n : Nat) : UInt8 := UInt8.ofNat (if n < 10 then 48 + n else 87 + n)
def hexB (l : List UInt8) : List UInt8 := l.flatMap (fun c => [hx (c.toNat / 16), hx (c.toNat % 16)])
def hexS : ByteArray := ⟨#[48, 49, 50, 51, 52, 53, 54, 55, 56, 57, 97, 98, 99, 100, 101, 102]⟩
theorem hexS_all : ∀ n : Fin 16, hexS[n.val]'(n.isLt) = hx n.val := by decide
theorem hexS_at (n : Nat) (h : n < hexS.size) : (hexS[n]'h).toNat = (hx n).toNat := congrArg UInt8.toNat (hexS_all ⟨n, h⟩)

theorem hexS_int (i : Int) (n : Nat) (h : i.toNat < hexS.size) (hn : i = (n : Int)) : (((hexS[i.toNat]'h).toNat : Nat) : Int) = ((hx n).toNat : Int) := by
  subst hn
  have := hexS_at ((n : Int).toNat) h
  rw [this]
  simp
theorem hexS_nat (n : Nat) (h : n < hexS.size) : (((hexS[n]'h).toNat : Nat) : Int) = ((hx n).toNat : Int) := congrArg (fun x : Nat => (x : Int)) (hexS_at n h)
theorem and15 (a : Nat) (h : a < 256) : bits .and .u8 (a : Int) 15 = ((a % 16 : Nat) : Int) := by
  have := u8_and_nat a 15 h (by omega)
  rw [show ((15 : Nat) : Int) = 15 from rfl] at this
  rw [this, show (15 : Nat) = 2 ^ 4 - 1 from rfl, Nat.and_two_pow_sub_one_eq_mod]

theorem hexB_snoc (s : ByteArray) (k : Nat) (h : k < s.size) : hexB (s.data.toList.take (k + 1)) = hexB (s.data.toList.take k) ++ [hx (s[k].toNat / 16), hx (s[k].toNat % 16)] := by
  have e : s.data.toList.take (k + 1) = s.data.toList.take k ++ [s[k]] := by
    rw [List.take_succ_eq_append_getElem (by simpa using h)]; rfl
  rw [e]
  simp only [hexB, List.flatMap_append, List.flatMap_cons, List.flatMap_nil, List.append_nil]
theorem hexB_len (l : List UInt8) : (hexB l).length = 2 * l.length := by
  induction l with
  | nil => rfl
  | cons c t ih => simp only [hexB, List.flatMap_cons, List.length_append, List.length_cons, List.length_nil] at ih ⊢; omega

theorem rd_drew {w : World} {v : Value} {l : List UInt8} (h : RdB w v l) : RdB w.drew v l := h.below ((Below.refl w.heap.size w).drew) (Nat.le_refl _)

set_option maxRecDepth 20000 in
set_option maxHeartbeats 1000000 in
theorem specHexOf_any (s : ByteArray) (w : World) (hs : s.size ≤ 4000000) :
    Calls Try.prog 12 #[.string s] w fun e w' => e = .returned (.string ⟨(hexB s.data.toList).toArray⟩) ∧ Below w.heap.size w w' := by
  have hb0 : Below w.heap.size w (w.alloc (.cells #[] 5)) := (Below.refl _ _).alloc (Nat.le_refl _) _
  have Ho := hide (own_nil w w.heap.size (Nat.le_refl _))
  have Hb := hide hb0
  clear hb0
  go_enter Try.func12, Try.ntmps12
  go_wp2
  go_loopw [3, 4] (fun ov iv wr => ∃ (k g n c : Nat), k ≤ s.size ∧ iv = .int .i64 (k : Int) ∧ ov = .slice (some ⟨g, 0, none⟩) n c ∧ OwnB w.heap.size wr ov (hexB (s.data.toList.take k)) ∧ Below w.heap.size w wr) (fun _ iv _ => s.size - (intOf iv).toNat)
  case atStart => exact ⟨0, w.heap.size, 0, 0, Nat.zero_le _, rfl, rfl, Ho.out, Hb.out⟩
  case round =>
    obtain ⟨k, g, n, c, hk, rfl, rfl, ho, hb⟩ := hrel
    have hsz := hb.size
    have Hor := hide ho
    have Hbr := hide hb
    clear ho hb
    by_cases hlt : k < s.size
    · have Hsn := hide (hexB_snoc s k hlt)
      have hTl : (hexB (s.data.toList.take k)).length ≤ 8000000 := by rw [hexB_len]; simp; omega
      have hcb : s[k].toNat < 256 := s[k].toNat_lt
      have hki : (k : Int) < (s.size : Int) := by omega
      obtain ⟨Dh, hDh, hDh2⟩ : ∃ D : Nat, s[k].toNat / 16 = D ∧ D < 16 := ⟨_, rfl, by omega⟩
      have e16 : (s[k].toNat : Int) / 16 = (Dh : Int) := by omega
      obtain ⟨D, hD, hD2⟩ : ∃ D : Nat, s[k].toNat % 16 = D ∧ D < 16 := ⟨_, rfl, Nat.mod_lt _ (by omega)⟩
      have e15 : bits .and .u8 (s[k].toNat : Int) 15 = (D : Int) := by rw [and15 _ hcb, hD]
      rw [hD, hDh] at Hsn
      have hDi : (D : Int) < 16 := by omega
      have hDhi : (Dh : Int) < 16 := by omega
      generalize hT : hexB (s.data.toList.take k) = T at Hor Hsn hTl
      clear hD hDh hT
      go_wp2
      go_region_held_law (fun w' => True) (trivial) ((refine step_app_own rfl _ _ rfl w.heap.size (.slice (some ⟨g, 0, none⟩) n c) _ T [hx Dh, hx D] (by rfl) (by rfl) (Hor.out.alloc _).drew (rd_drew (rd_two wr _ _ _ _ _ (hexS_nat Dh _) (hexS_nat D _) rfl)) (by simp) (by simp; omega) (by simp; omega) ?_; intro v3 w3 ho3 hb3; obtain ⟨g3, c3, rfl, _, _⟩ := ho3.shape (by simp)))
      all_goals
        go_wp2
        go_roundw
        case rel => exact ⟨k + 1, g3, _, c3, by omega, by go_num, rfl, by rw [Hsn.out]; rw [List.length_append] at ho3; exact ho3, Hbr.out.trans ((((Below.refl _ wr).alloc hsz _).drew).trans hb3)⟩
        case measure => simp [intOf]; omega
    · have ek : k = s.size := by omega
      have ho := Hor.out
      rw [ek, List.take_of_length_le (by simp)] at ho
      have hcv := str_own _ _ _ ho.rd ⟨_, _, _, rfl⟩
      clear ho
      go_wp2
      go_ret
      exact ⟨rfl, Hbr.out⟩

set_option maxRecDepth 20000 in
set_option maxHeartbeats 1000000 in
theorem implHexOf_any (s : ByteArray) (w : World) (hs : s.size ≤ 4000000) :
    Calls Try.prog 6 #[.string s] w fun e w' => e = .returned (.string ⟨(hexB s.data.toList).toArray⟩) ∧ Below w.heap.size w w' := by
  obtain ⟨i0, hi, hz0, hz1, hz2⟩ := info_parts Try.infoU8
  go_enter Try.func6, Try.ntmps6
  go_wp2_with (refine wpList_make_own _ rfl _ _ 22 rfl w.heap.size 5 i0 (.int .u8 0) 1 Try.underlying22 hi hz0 hz1 .i64 .i64 _ (2 * s.size) rfl rfl (by omega) (by rw [hz2]; omega) (by unfold maxLen; omega) (Nat.le_refl _) ?_; intro w1 hown hgrow; have Ho : Hid (OwnB w.heap.size w1 (.slice (some ⟨w.heap.size, 0, none⟩) 0 (2 * s.size)) []) := hide hown; have Hb : Hid (Below w.heap.size w w1) := hide ((Below.refl _ _).grown hgrow (Nat.le_refl _) (by intro k hk; cases hk)); clear hown hgrow)
  go_loopw [3, 11] (fun ov iv wr => ∃ (k g n c : Nat), k ≤ s.size ∧ iv = .int .i64 (k : Int) ∧ ov = .slice (some ⟨g, 0, none⟩) n c ∧ OwnB w.heap.size wr ov (hexB (s.data.toList.take k)) ∧ Below w.heap.size w wr) (fun _ iv _ => s.size - (intOf iv).toNat)
  case atStart => exact ⟨0, w.heap.size, 0, 2 * s.size, Nat.zero_le _, rfl, rfl, Ho.out, Hb.out⟩
  case round =>
    obtain ⟨k, g, n, c, hk, rfl, rfl, ho, hb⟩ := hrel
    have hsz := hb.size
    have Hor := hide ho
    have Hbr := hide hb
    clear ho hb
    by_cases hlt : k < s.size
    · have Hsn := hide (hexB_snoc s k hlt)
      have hTl : (hexB (s.data.toList.take k)).length ≤ 8000000 := by rw [hexB_len]; simp; omega
      have hcb : s[k].toNat < 256 := s[k].toNat_lt
      have hki : (k : Int) < (s.size : Int) := by omega
      obtain ⟨Dh, hDh, hDh2⟩ : ∃ D : Nat, s[k].toNat / 16 = D ∧ D < 16 := ⟨_, rfl, by omega⟩
      have e16 : (s[k].toNat : Int) / 16 = (Dh : Int) := by omega
      obtain ⟨D, hD, hD2⟩ : ∃ D : Nat, s[k].toNat % 16 = D ∧ D < 16 := ⟨_, rfl, Nat.mod_lt _ (by omega)⟩
      have e15 : bits .and .u8 (s[k].toNat : Int) 15 = (D : Int) := by rw [and15 _ hcb, hD]
      rw [hD, hDh] at Hsn
      have hDi : (D : Int) < 16 := by omega
      have hDhi : (Dh : Int) < 16 := by omega
      generalize hT : hexB (s.data.toList.take k) = T at Hor Hsn hTl
      clear hD hDh hT
      go_wp2
      go_region_held_law (fun w' => True) (trivial) ((refine step_app_own rfl _ _ rfl w.heap.size (.slice (some ⟨g, 0, none⟩) n c) _ T [hx Dh, hx D] (by rfl) (by rfl) (Hor.out.alloc _).drew (rd_drew (rd_two wr _ _ _ _ _ (hexS_nat Dh _) (hexS_nat D _) rfl)) (by simp) (by simp; omega) (by simp; omega) ?_; intro v3 w3 ho3 hb3; obtain ⟨g3, c3, rfl, _, _⟩ := ho3.shape (by simp)))
      all_goals
        go_wp2
        go_roundw
        case rel => exact ⟨k + 1, g3, _, c3, by omega, by go_num, rfl, by rw [Hsn.out]; rw [List.length_append] at ho3; exact ho3, Hbr.out.trans ((((Below.refl _ wr).alloc hsz _).drew).trans hb3)⟩
        case measure => simp [intOf]; omega
    · have ek : k = s.size := by omega
      have ho := Hor.out
      rw [ek, List.take_of_length_le (by simp)] at ho
      have hcv := str_own _ _ _ ho.rd ⟨_, _, _, rfl⟩
      clear ho
      go_wp2
      go_ret
      exact ⟨rfl, Hbr.out⟩
end Go.Proofs.Ytobfmfhiacobdab
