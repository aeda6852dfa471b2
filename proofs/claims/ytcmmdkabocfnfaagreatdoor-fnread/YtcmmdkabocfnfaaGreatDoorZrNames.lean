/- Drawn names: one of some, one that may be none. Whether a number lies between two others: the model's helper. What is a name: the two functions NameOk (the program's and the model's) answer alike at every text. -/
import Derived.Test.YtcmmdkabocfnfaaGreatDoorZrDrawTx
import Derived.Test.YtcmmdkabocfnfaaGreatDoorZrDraw
namespace Go.Proofs.YtcmmdkabocfnfaaGreatDoor
open Go.RowKit
set_option linter.unusedVariables false

/-- The texts ss lie at the head of block b. -/
def StrsAt (w : World) (b : Nat) (ss : List ByteArray) : Prop := b < w.heap.size ∧ ∀ j (h : j < ss.length), w.cell? ⟨b, j, none⟩ = some (.string ss[j])
theorem strs_new (w : World) (ss : List ByteArray) (t : TypeId) : StrsAt (w.alloc (.cells (ss.map Value.string).toArray t)) w.heap.size ss := by
  refine ⟨by simp, fun j hj => ?_⟩
  rw [World.cell?_alloc_at _ _ _ _ rfl]
  simp [hj]
theorem StrsAt.grw {w w' : World} {b g : Nat} {ss : List ByteArray} (h : StrsAt w b ss) (hg : w.grownBy w' (some g)) (hne : b ≠ g) : StrsAt w' b ss :=
  ⟨by have := hg.size; have := h.1; omega, fun j hj => hg.cell (a := ⟨b, j, none⟩) (h.2 j hj) (by simp [hne])⟩

set_option maxRecDepth 20000 in
theorem l1Str_any (w0 w : World) (g b : Nat) (cv : Value) (code : List UInt8) (ss : List ByteArray) (hc : Cur w0 w g cv code) (hl : code.length ≤ 1048576) (hi : StrsAt w b ss) (hne : b ≠ g) (hn : 0 < ss.length) (hn2 : ss.length ≤ 1000) (cap : Nat) :
    Calls Tryz.prog 127 #[.pointer (some ⟨g, 0, none⟩), .slice (some ⟨b, 0, none⟩) ss.length cap] w fun e w' => ∃ s : ByteArray, e = .returned (.string s) ∧ s ∈ ss ∧ Cur w0 w' g cv code ∧ w.grownBy w' (some g) := by
  have Hc := hide hc
  have Hi := hide hi
  clear hc hi
  go_enter Tryz.func127, Tryz.ntmps127
  go_wp2_with fail
  refine (l1Below_any _ _ _ _ _ _ Hc.out hl (by omega) (by omega)).mono ?_
  rintro e w1 ⟨x, rfl, hx1, hx2, hc1, hg1⟩
  have hxl : x < ss.length := by have := hx1 (by omega); omega
  have hcell := (Hi.out.grw hg1 hne).2 x hxl
  have hmem := hide (List.getElem_mem hxl)
  generalize ss[x] = n at hcell hmem
  clear hx1 hx2
  go_wp2
  go_ret
  exact ⟨n, rfl, hmem.out, hc1, hg1⟩

def sixL : List ByteArray := [⟨#[97]⟩, ⟨#[98]⟩, ⟨#[99]⟩, ⟨#[100]⟩, ⟨#[101]⟩, ⟨#[97, 49]⟩]
def oddL : List ByteArray := [⟨#[]⟩, ⟨#[65]⟩, ⟨#[116, 111, 111, 108, 111, 110, 103, 57, 57]⟩, ⟨#[97, 32, 98]⟩, ⟨#[101, 105, 103, 104, 116, 108, 101, 116]⟩]
theorem six_small : ∀ s ∈ sixL, s.size ≤ 9 := by decide
theorem odd_small : ∀ s ∈ oddL, s.size ≤ 9 := by decide

set_option maxRecDepth 20000 in
theorem l1Name_any (w0 w : World) (g : Nat) (cv : Value) (code : List UInt8) (hc : Cur w0 w g cv code) (hl : code.length ≤ 1048576) :
    Calls Tryz.prog 93 #[.pointer (some ⟨g, 0, none⟩)] w fun e w' => ∃ s : ByteArray, e = .returned (.string s) ∧ s.size ≤ 9 ∧ Cur w0 w' g cv code ∧ w.grownBy w' (some g) := by
  have hgl := hc.lt
  have hb0 : ∀ o, Below w.heap.size w (w.alloc o) := fun o => (Below.refl _ _).alloc (Nat.le_refl _) _
  have Hs := hide (l1Str_any w0 _ g w.heap.size cv code sixL (hc.below (hb0 _) hgl) hl (strs_new w sixL 9) (by omega) (by decide) (by decide) 6)
  have Hg := hide (grw_of_below (some g) (hb0 (.cells (sixL.map Value.string).toArray 9)) (Nat.le_refl _))
  clear hb0 hc
  go_enter Tryz.func93, Tryz.ntmps93
  go_wp2_with fail
  refine Hs.out.mono ?_
  rintro e w1 ⟨s, rfl, hs, hc1, hg1⟩
  have hs9 := six_small s hs
  clear hs
  go_wp2
  go_ret
  exact ⟨s, rfl, hs9, hc1, grw_trans Hg.out hg1⟩

set_option maxRecDepth 20000 in
theorem l1NameAny_any (w0 w : World) (g : Nat) (cv : Value) (code : List UInt8) (hc : Cur w0 w g cv code) (hl : code.length ≤ 1048576) :
    Calls Tryz.prog 136 #[.pointer (some ⟨g, 0, none⟩)] w fun e w' => ∃ s : ByteArray, e = .returned (.string s) ∧ s.size ≤ 9 ∧ Cur w0 w' g cv code ∧ w.grownBy w' (some g) := by
  have hgl := hc.lt
  have Hc := hide hc
  clear hc
  go_enter Tryz.func136, Tryz.ntmps136
  go_wp2_with fail
  refine (l1Once_any _ _ _ _ _ _ Hc.out hl (by omega) (by omega)).mono ?_
  rintro e w1 ⟨bb, rfl, hc1, hg1⟩
  have hs1 := hg1.size
  cases bb
  · have Hn := hide (l1Name_any _ _ _ _ _ hc1 hl)
    go_wp2_with fail
    refine Hn.out.mono ?_
    rintro e w2 ⟨s, rfl, hs, hc2, hg2⟩
    go_wp2
    go_ret
    exact ⟨s, rfl, hs, hc2, grw_trans hg1 hg2⟩
  · have hb0 : ∀ o, Below w1.heap.size w1 (w1.alloc o) := fun o => (Below.refl _ _).alloc (Nat.le_refl _) _
    have Hs := hide (l1Str_any w0 _ g w1.heap.size cv code oddL (hc1.below (hb0 _) (by omega)) hl (strs_new w1 oddL 9) (by omega) (by decide) (by decide) 5)
    have Hg := hide (grw_below hg1 (hb0 (.cells (oddL.map Value.string).toArray 9)) (by omega))
    clear hb0
    go_wp2_with fail
    refine Hs.out.mono ?_
    rintro e w2 ⟨s, rfl, hs, hc2, hg2⟩
    have hs9 := odd_small s hs
    clear hs
    go_wp2
    go_ret
    exact ⟨s, rfl, hs9, hc2, grw_trans Hg.out hg2⟩
end Go.Proofs.YtcmmdkabocfnfaaGreatDoor

namespace Go.Proofs.YtcmmdkabocfnfaaGreatDoor
open Go.RowKit
set_option linter.unusedVariables false

def inB (x a b : Int) : Bool := decide (a ≤ x ∧ x ≤ b)

theorem l1In_any (x a b : Int) (w : World) :
    Calls Tryz.prog 58 #[.int .i64 x, .int .i64 a, .int .i64 b] w fun e w' => e = .returned (.bool (inB x a b)) ∧ w' = w := by
  by_cases h1 : a ≤ x
  · by_cases h2 : x ≤ b
    · have e : Hid (inB x a b = true) := hide (by simp [inB, h1, h2])
      go_enter Tryz.func58, Tryz.ntmps58
      go_wp2
      go_ret
      rw [e.out]; exact ⟨rfl, rfl⟩
    · have e : Hid (inB x a b = false) := hide (by simp [inB, h1, h2])
      go_enter Tryz.func58, Tryz.ntmps58
      go_wp2
      go_ret
      rw [e.out]; exact ⟨rfl, rfl⟩
  · have e : Hid (inB x a b = false) := hide (by simp [inB, h1])
    go_enter Tryz.func58, Tryz.ntmps58
    go_wp2
    go_ret
    rw [e.out]; exact ⟨rfl, rfl⟩
end Go.Proofs.YtcmmdkabocfnfaaGreatDoor

namespace Go.Proofs.YtcmmdkabocfnfaaGreatDoor
open Go.RowKit
set_option linter.unusedVariables false

def nbB (x : Int) : Bool := inB x 97 122 || inB x 48 57
def nmB (s : ByteArray) : Bool := s.data.toList.all (fun c => nbB (c.toNat : Int)) && inB s.size 1 8

theorem take_snoc (s : ByteArray) (k : Nat) (h : k < s.size) : s.data.toList.take (k + 1) = s.data.toList.take k ++ [s[k]] := by
  rw [List.take_succ_eq_append_getElem (by simpa using h)]; rfl

theorem all_snoc (s : ByteArray) (k : Nat) (h : k < s.size) (p : UInt8 → Bool) (h1 : (s.data.toList.take k).all p = true) (h2 : p s[k] = true) : (s.data.toList.take (k + 1)).all p = true := by
  rw [take_snoc s k h, List.all_append, h1]; simp [h2]

theorem all_not (s : ByteArray) (k : Nat) (h : k < s.size) (p : UInt8 → Bool) (h2 : p s[k] = false) : s.data.toList.all p = false := by
  rw [Bool.eq_false_iff]; intro ha
  rw [List.all_eq_true] at ha
  have := ha s[k] (by simp [ByteArray.getElem_eq_getElem_data])
  rw [h2] at this; cases this

theorem all_whole (s : ByteArray) (p : UInt8 → Bool) (h : (s.data.toList.take s.size).all p = true) : s.data.toList.all p = true := by
  rwa [List.take_of_length_le (by simp)] at h

theorem isNameByte_any (x : Int) (w : World) :
    Calls Tryz.prog 133 #[.int .u8 x] w fun e w' => e = .returned (.bool (nbB x)) ∧ w' = w := by
  rcases (show (97 ≤ x ∧ x ≤ 122) ∨ (122 < x) ∨ (57 < x ∧ x < 97) ∨ (48 ≤ x ∧ x ≤ 57) ∨ x < 48 from by omega) with h | h | h | h | h
  all_goals
    have e : Hid (nbB x = decide ((97 ≤ x ∧ x ≤ 122) ∨ (48 ≤ x ∧ x ≤ 57))) := hide (by simp only [nbB, inB, Bool.or_eq_decide]; simp)
    go_enter Tryz.func133, Tryz.ntmps133
    go_wp2
    go_ret
    exact ⟨ret_bool (by rw [e.out, Bool.eq_iff_iff]; simp only [Bool.or_eq_true, decide_eq_true_eq, Bool.false_eq_true, true_iff, false_iff]; omega), rfl⟩

set_option maxHeartbeats 400000 in
theorem specNameOk_any (s : ByteArray) (w : World) (hs : s.size ≤ maxLen) :
    Calls Tryz.prog 59 #[.string s] w fun e w' => e = .returned (.bool (nmB s)) ∧ w' = w := by
  unfold maxLen at hs
  go_enter Tryz.func59, Tryz.ntmps59
  go_wp2
  go_loop [3] (fun i => ∃ k : Nat, k ≤ s.size ∧ i = .int .i64 k ∧ (s.data.toList.take k).all (fun c => nbB (c.toNat : Int)) = true) (fun i => s.size - (intOf i).toNat)
  case atStart => exact ⟨0, Nat.zero_le _, rfl, rfl⟩
  case round =>
    obtain ⟨k, hk, rfl, hall⟩ := hrel
    by_cases hlt : k < s.size
    · have Hall := hide hall
      clear hall
      have hb : (s[k].toNat : Int) < 256 := by have := s[k].toNat_lt; omega
      cases h1 : inB (s[k].toNat : Int) 97 122
      · cases h2 : inB (s[k].toNat : Int) 48 57
        · have hf : Hid (nmB s = false) := hide (by unfold nmB; rw [all_not s k hlt _ (by simp only [nbB, h1, h2]; rfl)]; rfl)
          go_wp2_with (go_at_call 58; refine (l1In_any _ _ _ _).mono ?_; rintro e w' ⟨rfl, rfl⟩)
          go_ret
          rw [hf.out]; exact ⟨rfl, rfl⟩
        · have hn : Hid (nbB (s[k].toNat : Int) = true) := hide (by simp [nbB, h1, h2])
          go_wp2_with (go_at_call 58; refine (l1In_any _ _ _ _).mono ?_; rintro e w' ⟨rfl, rfl⟩)
          go_round
          case rel => exact ⟨k + 1, by omega, by go_num, all_snoc s k hlt _ Hall.out hn.out⟩
          case measure => simp [intOf]; omega
      · have hn : Hid (nbB (s[k].toNat : Int) = true) := hide (by simp [nbB, h1])
        go_wp2_with (go_at_call 58; refine (l1In_any _ _ _ _).mono ?_; rintro e w' ⟨rfl, rfl⟩)
        go_round
        case rel => exact ⟨k + 1, by omega, by go_num, all_snoc s k hlt _ Hall.out hn.out⟩
        case measure => simp [intOf]; omega
    · have hf : Hid (nmB s = inB s.size 1 8) := hide (by
        have : k = s.size := by omega
        subst this
        unfold nmB; rw [all_whole s _ hall]; rfl)
      clear hall
      go_wp2_with (go_at_call 58; refine (l1In_any _ _ _ _).mono ?_; rintro e w' ⟨rfl, rfl⟩)
      go_ret
      rw [hf.out]; exact ⟨rfl, rfl⟩

set_option maxHeartbeats 400000 in
theorem implNameOk_any (s : ByteArray) (w : World) (hs : s.size ≤ maxLen) :
    Calls Tryz.prog 107 #[.string s] w fun e w' => e = .returned (.bool (nmB s)) ∧ w' = w := by
  unfold maxLen at hs
  rcases (show s.size < 1 ∨ 8 < s.size ∨ (1 ≤ s.size ∧ s.size ≤ 8) from by omega) with h | h | h
  · have hf : Hid (nmB s = false) := hide (by unfold nmB inB; rw [decide_eq_false (by omega)]; simp)
    go_enter Tryz.func107, Tryz.ntmps107
    go_wp2
    go_ret
    rw [hf.out]; exact ⟨rfl, rfl⟩
  · have hf : Hid (nmB s = false) := hide (by unfold nmB inB; rw [decide_eq_false (by omega)]; simp)
    have h' : ¬ s.size < 1 := by omega
    go_enter Tryz.func107, Tryz.ntmps107
    go_wp2
    go_ret
    rw [hf.out]; exact ⟨rfl, rfl⟩
  · have hin : inB s.size 1 8 = true := by unfold inB; rw [decide_eq_true (by omega)]
    have Hin := hide hin
    clear hin
    go_enter Tryz.func107, Tryz.ntmps107
    go_wp2
    go_loop [14] (fun i => ∃ k : Nat, k ≤ s.size ∧ i = .int .i64 k ∧ (s.data.toList.take k).all (fun c => nbB (c.toNat : Int)) = true) (fun i => s.size - (intOf i).toNat)
    case atStart => exact ⟨0, Nat.zero_le _, rfl, rfl⟩
    case round =>
      obtain ⟨k, hk, rfl, hall⟩ := hrel
      by_cases hlt : k < s.size
      · have Hall := hide hall
        clear hall
        cases h1 : nbB (s[k].toNat : Int)
        · have hf : Hid (nmB s = false) := hide (by unfold nmB; rw [all_not s k hlt _ h1]; rfl)
          go_wp2_with (go_at_call 133; refine (isNameByte_any _ _).mono ?_; rintro e w' ⟨rfl, rfl⟩)
          go_ret
          rw [hf.out]; exact ⟨rfl, rfl⟩
        · have hn := hide h1
          go_wp2_with (go_at_call 133; refine (isNameByte_any _ _).mono ?_; rintro e w' ⟨rfl, rfl⟩)
          go_round
          case rel => exact ⟨k + 1, by omega, by go_num, all_snoc s k hlt _ Hall.out hn.out⟩
          case measure => simp [intOf]; omega
      · have hf : Hid (nmB s = true) := hide (by
          have : k = s.size := by omega
          subst this
          unfold nmB; rw [all_whole s _ hall, Hin.out]; rfl)
        clear hall
        go_wp2
        go_ret
        rw [hf.out]; exact ⟨rfl, rfl⟩
end Go.Proofs.YtcmmdkabocfnfaaGreatDoor
