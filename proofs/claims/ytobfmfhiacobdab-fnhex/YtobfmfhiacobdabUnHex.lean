/- A text back of its hex digits: UnHex of the model and of the landed code. -/
import Derived.Test.YtobfmfhiacobdabDigit
import Derived.Test.YtobfmfhiacobdabStrOwn
namespace Go.Proofs.Ytobfmfhiacobdab
open Go.RowKit
set_option linter.unusedVariables false

def dv (c : UInt8) : Nat := (dg c.toNat).getD 0
def isD (c : UInt8) : Bool := (dg c.toNat).isSome
theorem dv_lt (c : UInt8) : dv c < 16 := by
  unfold dv
  cases h : dg c.toNat with
  | none => simp
  | some d => simpa using dg_lt h
theorem dg_of {c : UInt8} (h : isD c = true) : dg c.toNat = some (dv c) := by
  unfold isD at h
  unfold dv
  cases e : dg c.toNat with
  | none => rw [e] at h; simp at h
  | some d => rfl
theorem dg_no {c : UInt8} (h : isD c = false) : dg c.toNat = none := by
  unfold isD at h
  cases e : dg c.toNat with
  | none => rfl
  | some d => rw [e] at h; simp at h

def pr (l : List UInt8) (j : Nat) : UInt8 := UInt8.ofNat (dv (l.getD (2 * j) 0) * 16 + dv (l.getD (2 * j + 1) 0))
def dec (l : List UInt8) (n : Nat) : List UInt8 := (List.range n).map (pr l)
def good (l : List UInt8) : Bool := l.length % 2 == 0 && l.all isD
def unB (l : List UInt8) : List UInt8 := if good l then dec l (l.length / 2) else []
theorem dec_len (l : List UInt8) (n : Nat) : (dec l n).length = n := by simp [dec]
theorem dec_snoc (l : List UInt8) (n : Nat) : dec l (n + 1) = dec l n ++ [pr l n] := by simp [dec, List.range_succ]
theorem pr_at (s : ByteArray) (j : Nat) (h : 2 * j + 1 < s.size) : pr s.data.toList j = UInt8.ofNat (dv (s[2 * j]'(by omega)) * 16 + dv (s[2 * j + 1]'h)) := by
  unfold pr
  have e1 : s.data.toList.getD (2 * j) 0 = s[2 * j]'(by omega) := by
    rw [List.getD_eq_getElem?_getD, List.getElem?_eq_getElem (show 2 * j < s.data.toList.length by simpa using (by omega : 2 * j < s.size))]; rfl
  have e2 : s.data.toList.getD (2 * j + 1) 0 = s[2 * j + 1]'h := by
    rw [List.getD_eq_getElem?_getD, List.getElem?_eq_getElem (show 2 * j + 1 < s.data.toList.length by simpa using h)]; rfl
  rw [e1, e2]
theorem pr_val (a b : UInt8) : ((UInt8.ofNat (dv a * 16 + dv b)).toNat : Int) = (dv a : Int) * 16 + (dv b : Int) := by
  have h1 := dv_lt a
  have h2 := dv_lt b
  rw [UInt8.toNat_ofNat', Nat.mod_eq_of_lt (by omega)]
  omega
theorem all_take (s : ByteArray) (j : Nat) (h : 2 * j + 1 < s.size) (ha : (s.data.toList.take (2 * j)).all isD = true) (h1 : isD (s[2 * j]'(by omega)) = true) (h2 : isD (s[2 * j + 1]'h) = true) : (s.data.toList.take (2 * (j + 1))).all isD = true := by
  rw [show 2 * (j + 1) = 2 * j + 1 + 1 from by omega, List.take_succ_eq_append_getElem (show 2 * j + 1 < s.data.toList.length by simpa using h), List.take_succ_eq_append_getElem (show 2 * j < s.data.toList.length by simpa using (by omega : 2 * j < s.size))]
  rw [List.all_append, List.all_append, ha]
  simp only [List.all_cons, List.all_nil, Bool.and_true, Bool.true_and]
  rw [show isD (s.data.toList[2 * j]'(by simpa using (by omega : 2 * j < s.size))) = true from h1, show isD (s.data.toList[2 * j + 1]'(by simpa using h)) = true from h2]
  rfl
theorem not_good (s : ByteArray) (j : Nat) (h : j < s.size) (hd : isD (s[j]'h) = false) : good s.data.toList = false := by
  unfold good
  have : s.data.toList.all isD = false := by
    rw [List.all_eq_false]
    exact ⟨s.data.toList[j]'(by simpa using h), List.getElem_mem _, by rw [show isD (s.data.toList[j]'(by simpa using h)) = false from hd]; simp⟩
  rw [this, Bool.and_false]
theorem not_even (s : ByteArray) (h : s.size % 2 = 1) : good s.data.toList = false := by
  unfold good
  have : (s.data.toList.length % 2 == 0) = false := by simp; omega
  rw [this, Bool.false_and]
theorem is_good (s : ByteArray) (j : Nat) (h : s.size = 2 * j) (ha : (s.data.toList.take (2 * j)).all isD = true) : good s.data.toList = true ∧ unB s.data.toList = dec s.data.toList j := by
  rw [List.take_of_length_le (by simp; omega)] at ha
  have hg : good s.data.toList = true := by
    unfold good
    rw [ha, Bool.and_true]
    simp; omega
  refine ⟨hg, ?_⟩
  unfold unB
  rw [if_pos hg]
  congr 1
  simp; omega
theorem un_bad {l : List UInt8} (h : good l = false) : unB l = [] := by unfold unB; rw [h]; rfl
theorem u8_pair (a b : Nat) (ha : a < 16) (hb : b < 16) : bits .or .u8 ((a : Int) * 16 % 256) (b : Int) = (a : Int) * 16 + (b : Int) := by
  rw [show (a : Int) * 16 % 256 = ((a * 2 ^ 4 : Nat) : Int) from by omega, u8_or_nat _ _ (by omega) (by omega), Nat.or_comm, or_high b a 4 (by omega)]
  omega
theorem u8_pair' (a b : Nat) (ha : a < 16) (hb : b < 16) : bits .or .u8 ((a : Int) * 16) (b : Int) = (a : Int) * 16 + (b : Int) := by
  have := u8_pair a b ha hb
  rwa [show (a : Int) * 16 % 256 = (a : Int) * 16 from by omega] at this

set_option maxRecDepth 20000 in
set_option maxHeartbeats 1000000 in
theorem implUnHex_any (s : ByteArray) (w : World) (hs : s.size ≤ 4000000) :
    Calls Try.prog 7 #[.string s] w fun e w' => e = .returned (.tuple #[.string ⟨(unB s.data.toList).toArray⟩, .bool (good s.data.toList)]) ∧ Below w.heap.size w w' := by
  cases hodd : decide (s.size % 2 = 1) with
  | true =>
    have ho1 : s.size % 2 = 1 := by simpa using hodd
    have Hgf := hide (not_even s ho1)
    have hoi : ((s.size : Int) % 2 != 0) = true := by rw [bne_iff_ne]; omega
    clear hodd ho1
    go_enter Try.func7, Try.ntmps7
    go_wp2
    go_ret2
    exact ⟨by rw [un_bad Hgf.out, Hgf.out]; rfl, Below.refl _ _⟩
  | false =>
    have ho1 : ¬ s.size % 2 = 1 := by simpa using hodd
    have heven : ∃ m, s.size = 2 * m := ⟨s.size / 2, by omega⟩
    obtain ⟨m, hm⟩ := heven
    have hoi : ((s.size : Int) % 2 != 0) = false := by rw [bne_eq_false_iff_eq]; omega
    have hquo : (s.size : Int) / 2 = (m : Int) := by omega
    have hm2 : m ≤ 4000000 := by omega
    have Hm := hide hm
    clear hodd ho1 hm
    obtain ⟨i0, hi, hz0, hz1, hz2⟩ := info_parts Try.infoU8
    go_enter Try.func7, Try.ntmps7
    go_wp2_with (refine wpList_make_own _ rfl _ _ 22 rfl w.heap.size 5 i0 (.int .u8 0) 1 Try.underlying22 hi hz0 hz1 .i64 .i64 _ m rfl rfl (by omega) (by rw [hz2]; omega) (by unfold maxLen; omega) (Nat.le_refl _) ?_; intro w1 hown hgrow; have Ho : Hid (OwnB w.heap.size w1 (.slice (some ⟨w.heap.size, 0, none⟩) 0 m) []) := hide hown; have Hb : Hid (Below w.heap.size w w1) := hide ((Below.refl _ _).grown hgrow (Nat.le_refl _) (by intro k hk; cases hk)); clear hown hgrow)
    go_loopw [4, 5] (fun ov iv wr => ∃ (j g n c k : Nat), k = 2 * j ∧ k ≤ s.size ∧ iv = .int .i64 (k : Int) ∧ ov = .slice (some ⟨g, 0, none⟩) n c ∧ (s.data.toList.take (2 * j)).all isD = true ∧ OwnB w.heap.size wr ov (dec s.data.toList j) ∧ Below w.heap.size w wr) (fun _ iv _ => s.size - (intOf iv).toNat)
    case atStart => exact ⟨0, w.heap.size, 0, m, 0, rfl, Nat.zero_le _, rfl, rfl, rfl, Ho.out, Hb.out⟩
    case round =>
      clear Ho Hb
      obtain ⟨j, g, n, c, k, hkj, hk, rfl, rfl, hal, ho, hb⟩ := hrel
      have hsz := hb.size
      have Hor := hide ho
      have Hbr := hide hb
      have Hal := hide hal
      have hol := ho
      clear ho hb hal
      by_cases hk1 : k < s.size
      · have hlt : k + 1 < s.size := by have := Hm.out; omega
        have hki : (k : Int) < (s.size : Int) := by omega
        have hki1 : (k : Int) + 1 < (s.size : Int) := by omega
        have hcA : s[k].toNat < 256 := s[k].toNat_lt
        have hcB : s[k + 1].toNat < 256 := s[k + 1].toNat_lt
        have Hpr : Hid (pr s.data.toList j = UInt8.ofNat (dv s[k] * 16 + dv s[k + 1])) := hide (by subst hkj; exact pr_at s j hlt)
        have Hsn := hide (dec_snoc s.data.toList j)
        have Hat : Hid (isD s[k] = true → isD s[k + 1] = true → (s.data.toList.take (2 * (j + 1))).all isD = true) := hide (by subst hkj; exact all_take s j hlt Hal.out)
        have Hng := hide (not_good s k (by omega))
        have Hng1 := hide (not_good s (k + 1) hlt)
        have Hpv := hide (pr_val s[k] s[k + 1])
        have hTl : (dec s.data.toList j).length ≤ 4000000 := by rw [dec_len]; omega
        have Hj := hide hkj
        have qA := dv_lt s[k]
        have qB := dv_lt s[k + 1]
        generalize hT : dec s.data.toList j = T at Hor Hsn hTl
        clear hkj hT
        cases hA : isD s[k] with
        | false =>
          have hdA := dg_no hA
          have Hgf := hide (Hng.out hA)
          cases hB : isD s[k + 1] with
          | false =>
            have hdB := dg_no hB
            go_wp2_with fail
            refine (hexDigit_none _ hcA hdA _).mono ?_
            rintro e w1 ⟨rfl, hw1⟩
            subst hw1
            go_wp2_with fail
            refine (hexDigit_none _ hcB hdB _).mono ?_
            rintro e w1 ⟨rfl, hw1⟩
            subst hw1
            go_wp2
            go_ret2
            exact ⟨by rw [un_bad Hgf.out, Hgf.out]; rfl, Hbr.out⟩
          | true =>
            have hdB := dg_of hB
            go_wp2_with fail
            refine (hexDigit_none _ hcA hdA _).mono ?_
            rintro e w1 ⟨rfl, hw1⟩
            subst hw1
            go_wp2_with fail
            refine (hexDigit_some _ _ hcB hdB _).mono ?_
            rintro e w1 ⟨rfl, hw1⟩
            subst hw1
            go_wp2
            go_ret2
            exact ⟨by rw [un_bad Hgf.out, Hgf.out]; rfl, Hbr.out⟩
        | true =>
          have hdA := dg_of hA
          cases hB : isD s[k + 1] with
          | false =>
            have hdB := dg_no hB
            have Hgf := hide (Hng1.out hB)
            go_wp2_with fail
            refine (hexDigit_some _ _ hcA hdA _).mono ?_
            rintro e w1 ⟨rfl, hw1⟩
            subst hw1
            go_wp2_with fail
            refine (hexDigit_none _ hcB hdB _).mono ?_
            rintro e w1 ⟨rfl, hw1⟩
            subst hw1
            go_wp2
            go_ret2
            exact ⟨by rw [un_bad Hgf.out, Hgf.out]; rfl, Hbr.out⟩
          | true =>
            have hdB := dg_of hB
            have Hal2 := hide (Hat.out hA hB)
            rw [Hpr.out] at Hsn
            generalize UInt8.ofNat (dv s[k] * 16 + dv s[k + 1]) = C at Hsn Hpv
            generalize dv s[k] = dA at hdA qA Hpv
            generalize dv s[k + 1] = dB at hdB qB Hpv
            have hp1 := u8_pair dA dB qA qB
            have hp2 := u8_pair' dA dB qA qB
            go_wp2_with fail
            refine (hexDigit_some _ _ hcA hdA _).mono ?_
            rintro e w1 ⟨rfl, hw1⟩
            subst hw1
            go_wp2_with fail
            refine (hexDigit_some _ _ hcB hdB _).mono ?_
            rintro e w1 ⟨rfl, hw1⟩
            subst hw1
            go_wp2_with (at_builtin; refine app_own _ rfl _ _ rfl w.heap.size _ _ T [C] rfl rfl (Hor.out.alloc _) (rd_one _ _ _ (by have h := Hpv.out; omega)) (by simp; omega) (by simp; omega) ?_; intro v3 w3 ho3 hb3; obtain ⟨g3, c3, rfl, _, _⟩ := ho3.shape (by simp))
            go_roundw
            case rel => exact ⟨j + 1, g3, _, c3, k + 2, by have := Hj.out; omega, by omega, by go_num, rfl, Hal2.out, by rw [Hsn.out]; first | exact ho3 | (rw [List.length_append] at ho3; exact ho3), (Hbr.out.alloc hsz _).trans hb3⟩
            case measure => simp [intOf]; omega
      · have hse : s.size = 2 * j := by omega
        have Hgg := hide (is_good s j hse Hal.out)
        have hcv := str_own _ _ _ hol.rd ⟨_, _, _, rfl⟩
        clear hol hse
        go_wp2
        go_ret2
        exact ⟨by rw [Hgg.out.2, Hgg.out.1]; rfl, Hbr.out⟩
end Go.Proofs.Ytobfmfhiacobdab
