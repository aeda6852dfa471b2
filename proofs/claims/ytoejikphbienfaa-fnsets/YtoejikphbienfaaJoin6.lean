/- The laws' own look-ups, and what is drawn for them. Drawn names: one of some, one that may be none. -/
import Derived.Test.YtoejikphbienfaaDrawVs
import Derived.Test.YtoejikphbienfaaVsSum
import Derived.Test.YtoejikphbienfaaDrawTx
namespace Go.Proofs.Ytoejikphbienfaa
open Go.RowKit
set_option linter.unusedVariables false

set_option maxRecDepth 20000 in
set_option maxHeartbeats 1000000 in
theorem lawAmong_any (v : Value) (ns : List ByteArray) (s : ByteArray) (w : World) (hr : RdS w v ns) (hl : ns.length ≤ 4000000) :
    Calls Try.prog 16 #[v, .string s] w fun e w' => e = .returned (.bool (hasN ns s)) ∧ Below w.heap.size w w' := by
  rcases hr with ⟨a, cap, rfl, rfl, -⟩ | ⟨b, off, cap, h0, rfl, h1, h2, h3, h4⟩
  · go_enter Try.func16, Try.ntmps16
    go_wp2
    refine wp_loop_rounds 1 ?_
    rw [rounds_succ]
    go_wp2
    go_ret
    exact ⟨rfl, Below.refl _ _⟩
  · have H4 := hide h4
    clear h4
    go_enter Try.func16, Try.ntmps16
    go_wp2
    go_loopw [5] (fun i wr => ∃ k : Nat, k ≤ ns.length ∧ i = .int .i64 k ∧ s ∉ ns.take k ∧ Below w.heap.size w wr) (fun i _ => ns.length - (intOf i).toNat)
    case atStart => exact ⟨0, Nat.zero_le _, rfl, by simp, Below.refl _ _⟩
    case round =>
      obtain ⟨k, hk, rfl, hno, hb⟩ := hrel
      have Hno := hide hno
      clear hno
      by_cases hlt : k < ns.length
      · have hc := (hb.cell (p := ⟨b, off + k, none⟩) h3).trans (H4.out k hlt)
        have hli : (k : Int) < (ns.length : Int) := by omega
        by_cases he : ns[k] = s
        · have Hr : Hid (hasN ns s = true) := hide (hasN_yes (by rw [← he]; exact List.getElem_mem _))
          rw [he] at hc
          clear he
          go_wp2
          go_ret
          exact ⟨ret_bool Hr.out.symm, hb⟩
        · have Hn2 := hide (mem_next hlt Hno.out he)
          have hq := bytes_ne he
          clear he Hno
          generalize ns[k] = t at hc hq
          go_wp2
          go_roundw
          case rel => exact ⟨k + 1, by omega, by go_num, Hn2.out, hb⟩
          case measure => simp [intOf]; omega
      · have Hr : Hid (hasN ns s = false) := hide (hasN_no (by have := Hno.out; rwa [List.take_of_length_le (by omega)] at this))
        go_wp2
        go_ret
        exact ⟨ret_bool Hr.out.symm, hb⟩
set_option maxRecDepth 20000 in
set_option maxHeartbeats 1000000 in
theorem lawInSet_any (v : Value) (l : List Vl) (s : ByteArray) (w : World) (hr : RdV w v l) (hl : l.length ≤ 4000000) :
    Calls Try.prog 12 #[v, .string s] w fun e w' => e = .returned (.bool (hasN (l.map (·.1)) s)) ∧ Below w.heap.size w w' := by
  rcases hr with ⟨a, cap, rfl, rfl, -⟩ | ⟨b, off, cap, h0, rfl, h1, h2, h3, h4⟩
  · go_enter Try.func12, Try.ntmps12
    go_wp2
    refine wp_loop_rounds 1 ?_
    rw [rounds_succ]
    go_wp2
    go_ret
    exact ⟨rfl, Below.refl _ _⟩
  · have H4 := hide h4
    clear h4
    go_enter Try.func12, Try.ntmps12
    go_wp2
    go_loopw [5] (fun i wr => ∃ k : Nat, k ≤ l.length ∧ i = .int .i64 k ∧ s ∉ (l.map (·.1)).take k ∧ Below w.heap.size w wr) (fun i _ => l.length - (intOf i).toNat)
    case atStart => exact ⟨0, Nat.zero_le _, rfl, by simp, Below.refl _ _⟩
    case round =>
      obtain ⟨k, hk, rfl, hno, hb⟩ := hrel
      have Hno := hide hno
      clear hno
      by_cases hlt : k < l.length
      · have hc := (hb.cell (p := ⟨b, off + k * 2, none⟩) h3).trans (H4.out k hlt).1
        have hli : (k : Int) < (l.length : Int) := by omega
        have hlm : k < (l.map (·.1)).length := by simpa using hlt
        by_cases he : l[k].1 = s
        · have Hr : Hid (hasN (l.map (·.1)) s = true) := hide (hasN_yes (by rw [← he]; exact List.mem_map_of_mem (List.getElem_mem _)))
          rw [he] at hc
          clear he
          go_wp2
          go_ret
          exact ⟨ret_bool Hr.out.symm, hb⟩
        · have Hn2 := hide (mem_next hlm Hno.out (by simpa using he))
          have hq := bytes_ne he
          clear he Hno
          generalize l[k].1 = t at hc hq
          go_wp2
          go_roundw
          case rel => exact ⟨k + 1, by omega, by go_num, Hn2.out, hb⟩
          case measure => simp [intOf]; omega
      · have Hr : Hid (hasN (l.map (·.1)) s = false) := hide (hasN_no (by have := Hno.out; rwa [List.take_of_length_le (by simp; omega)] at this))
        go_wp2
        go_ret
        exact ⟨ret_bool Hr.out.symm, hb⟩
set_option maxRecDepth 20000 in
set_option maxHeartbeats 1000000 in
theorem lawAt_any (v : Value) (l : List UInt8) (w : World) (hr : RdB w v l) (hl : l.length ≤ 1048576) :
    Calls Try.prog 20 #[v, .int .i64 2] w fun e w' => ∃ n : Nat, e = .returned (.int .i64 (n : Int)) ∧ n ≤ 255 ∧ Below w.heap.size w w' := by
  rcases hr with ⟨a, cap, rfl, rfl, -⟩ | ⟨b, off, cap, h0, rfl, h1, h2, h3, h4⟩
  · go_enter Try.func20, Try.ntmps20
    go_wp2
    go_ret
    exact ⟨62, rfl, by omega, Below.refl _ _⟩
  · by_cases h : 2 < l.length
    · have hc := h4 2 h
      have hli : (2 : Int) < (l.length : Int) := by omega
      obtain ⟨x, hx, hx2⟩ : ∃ x : Nat, l[2].toNat = x ∧ x ≤ 255 := ⟨_, rfl, by have := l[2].toNat_lt; omega⟩
      rw [hx] at hc
      clear h4 hx
      go_enter Try.func20, Try.ntmps20
      go_wp2
      go_ret
      exact ⟨x, rfl, hx2, Below.refl _ _⟩
    · have hli : ¬ (2 : Int) < (l.length : Int) := by omega
      obtain ⟨n, hn⟩ : ∃ n, l.length = n := ⟨_, rfl⟩
      have hn3 : n ≤ 2 := by omega
      clear h4
      rw [hn] at hli ⊢
      have hle : 62 + n * 7 ≤ 255 := by omega
      have w1 : IntKind.i64.wrap ((n : Int) * 7) = (n : Int) * 7 := by rw [IntKind.wrap_i64]; omega
      have w2 : IntKind.i64.wrap (62 + (n : Int) * 7) = 62 + (n : Int) * 7 := by rw [IntKind.wrap_i64]; omega
      go_enter Try.func20, Try.ntmps20
      go_wp2
      go_ret
      exact ⟨62 + n * 7, ret_int (by omega), hle, Below.refl _ _⟩
set_option maxRecDepth 20000 in
set_option maxHeartbeats 1000000 in
theorem drawTwo_any (w : World) (cv : Value) (code : List UInt8) (hr : RdB w cv code) (hl : code.length ≤ 1048576) :
    Calls Try.prog 15 #[cv] w fun e w' => ∃ (v1 v2 v3 : Value) (l : List Vl) (a b : List ByteArray), e = .returned (.tuple #[v1, v2, v3]) ∧ RdV w' v1 l ∧ RdS w' v2 a ∧ RdS w' v3 b ∧ l ≠ [] ∧ FewV l ∧ Letters 5 a ∧ Letters 5 b ∧ Below w.heap.size w w' := by
  have Hn := hide (l1New_any w cv code hr hl)
  clear hr
  go_enter Try.func15, Try.ntmps15
  go_wp2_with fail
  refine Hn.out.mono ?_
  rintro e w1 ⟨rfl, hc1, hb1⟩
  have hg := hc1.lt
  go_wp2_with fail
  refine (l7Draw_any w w1 w.heap.size cv code hc1 hl).mono ?_
  rintro e w2 ⟨v2, l, rfl, o2, hnil, hfew, hc2, hg2⟩
  clear hc1
  go_wp2_with fail
  refine (l1NamesD_any w w2 w.heap.size cv code hc2 hl).mono ?_
  rintro e w3 ⟨v3, a, rfl, o3, ha, hc3, hg3⟩
  have o2 := o2.notg hg3 hg
  clear hc2
  go_wp2_with fail
  refine (l1NamesD_any w w3 w.heap.size cv code hc3 hl).mono ?_
  rintro e w4 ⟨v4, b, rfl, o4, hb, hc4, hg4⟩
  have o2 := o2.notg hg4 hg
  have o3 := o3.notg hg4 (by have := hg2.size; omega)
  have hB := hc4.bel
  have H2 := hide o2.rd
  have H3 := hide o3.rd
  have H4 := hide o4.rd
  have HB := hide hB
  have Hf := hide hfew
  have Hnil := hide hnil
  have Ha := hide ha
  have Hb := hide hb
  clear hc3 hc4 o2 o3 o4 hB hfew hnil ha hb hg2 hg3 hg4 hb1
  go_wp2
  go_ret3
  exact ⟨_, _, _, l, a, b, rfl, H2.out, H3.out, H4.out, Hnil.out, Hf.out, Ha.out, Hb.out, HB.out⟩
end Go.Proofs.Ytoejikphbienfaa

namespace Go.Proofs.Ytoejikphbienfaa
open Go.RowKit
set_option linter.unusedVariables false

/-- The texts ss lie at the head of block b. -/
def StrsAt (w : World) (b : Nat) (ss : List ByteArray) : Prop := b < w.heap.size ∧ ∀ j (h : j < ss.length), w.cell? ⟨b, j, none⟩ = some (.string ss[j])
theorem strs_new (w : World) (ss : List ByteArray) (t : TypeId) : StrsAt (w.alloc (.cells (ss.map Value.string).toArray t)) w.heap.size ss := by
  refine ⟨by simp, fun j hj => ?_⟩
  rw [World.cell?_alloc_at _ _ _ _ rfl]
  simp [hj]
theorem StrsAt.grw {w w' : World} {b g : Nat} {ss : List ByteArray} (h : StrsAt w b ss) (hg : w.grownBy w' (some g)) (hne : b ≠ g) : StrsAt w' b ss :=
  ⟨by have := hg.size; have := h.1; omega, fun j hj => hg.cell (a := ⟨b, j, none⟩) (h.2 j hj) (by simp [hne])⟩

set_option maxRecDepth 20000 in
theorem l1Str_any (w0 w : World) (g b : Nat) (cv : Value) (code : List UInt8) (ss : List ByteArray) (hc : Cur w0 w g cv code) (hl : code.length ≤ 1048576) (hi : StrsAt w b ss) (hne : b ≠ g) (hn : 0 < ss.length) (hn2 : ss.length ≤ 1000) (cap : Nat) :
    Calls Try.prog 84 #[.pointer (some ⟨g, 0, none⟩), .slice (some ⟨b, 0, none⟩) ss.length cap] w fun e w' => ∃ s : ByteArray, e = .returned (.string s) ∧ s ∈ ss ∧ Cur w0 w' g cv code ∧ w.grownBy w' (some g) := by
  have Hc := hide hc
  have Hi := hide hi
  clear hc hi
  go_enter Try.func84, Try.ntmps84
  go_wp2_with fail
  refine (l1Below_any _ _ _ _ _ _ Hc.out hl (by omega) (by omega)).mono ?_
  rintro e w1 ⟨x, rfl, hx1, hx2, hc1, hg1⟩
  have hxl : x < ss.length := by have := hx1 (by omega); omega
  have hcell := (Hi.out.grw hg1 hne).2 x hxl
  have hmem := hide (List.getElem_mem hxl)
  generalize ss[x] = n at hcell hmem
  clear hx1 hx2
  go_wp2
  go_ret
  exact ⟨n, rfl, hmem.out, hc1, hg1⟩

def sixL : List ByteArray := [⟨#[97]⟩, ⟨#[98]⟩, ⟨#[99]⟩, ⟨#[100]⟩, ⟨#[101]⟩, ⟨#[97, 49]⟩]
def oddL : List ByteArray := [⟨#[]⟩, ⟨#[65]⟩, ⟨#[116, 111, 111, 108, 111, 110, 103, 57, 57]⟩, ⟨#[97, 32, 98]⟩, ⟨#[101, 105, 103, 104, 116, 108, 101, 116]⟩]
theorem six_small : ∀ s ∈ sixL, s.size ≤ 9 := by decide
theorem odd_small : ∀ s ∈ oddL, s.size ≤ 9 := by decide

set_option maxRecDepth 20000 in
theorem l1Name_any (w0 w : World) (g : Nat) (cv : Value) (code : List UInt8) (hc : Cur w0 w g cv code) (hl : code.length ≤ 1048576) :
    Calls Try.prog 85 #[.pointer (some ⟨g, 0, none⟩)] w fun e w' => ∃ s : ByteArray, e = .returned (.string s) ∧ s.size ≤ 9 ∧ Cur w0 w' g cv code ∧ w.grownBy w' (some g) := by
  have hgl := hc.lt
  have hb0 : ∀ o, Below w.heap.size w (w.alloc o) := fun o => (Below.refl _ _).alloc (Nat.le_refl _) _
  have Hs := hide (l1Str_any w0 _ g w.heap.size cv code sixL (hc.below (hb0 _) hgl) hl (strs_new w sixL 9) (by omega) (by decide) (by decide) 6)
  have Hg := hide (grw_of_below (some g) (hb0 (.cells (sixL.map Value.string).toArray 9)) (Nat.le_refl _))
  clear hb0 hc
  go_enter Try.func85, Try.ntmps85
  go_wp2_with fail
  refine Hs.out.mono ?_
  rintro e w1 ⟨s, rfl, hs, hc1, hg1⟩
  have hs9 := six_small s hs
  clear hs
  go_wp2
  go_ret
  exact ⟨s, rfl, hs9, hc1, grw_trans Hg.out hg1⟩

set_option maxRecDepth 20000 in
theorem l1NameAny_any (w0 w : World) (g : Nat) (cv : Value) (code : List UInt8) (hc : Cur w0 w g cv code) (hl : code.length ≤ 1048576) :
    Calls Try.prog 77 #[.pointer (some ⟨g, 0, none⟩)] w fun e w' => ∃ s : ByteArray, e = .returned (.string s) ∧ s.size ≤ 9 ∧ Cur w0 w' g cv code ∧ w.grownBy w' (some g) := by
  have hgl := hc.lt
  have Hc := hide hc
  clear hc
  go_enter Try.func77, Try.ntmps77
  go_wp2_with fail
  refine (l1Once_any _ _ _ _ _ _ Hc.out hl (by omega) (by omega)).mono ?_
  rintro e w1 ⟨bb, rfl, hc1, hg1⟩
  have hs1 := hg1.size
  cases bb
  · have Hn := hide (l1Name_any _ _ _ _ _ hc1 hl)
    go_wp2_with fail
    refine Hn.out.mono ?_
    rintro e w2 ⟨s, rfl, hs, hc2, hg2⟩
    go_wp2
    go_ret
    exact ⟨s, rfl, hs, hc2, grw_trans hg1 hg2⟩
  · have hb0 : ∀ o, Below w1.heap.size w1 (w1.alloc o) := fun o => (Below.refl _ _).alloc (Nat.le_refl _) _
    have Hs := hide (l1Str_any w0 _ g w1.heap.size cv code oddL (hc1.below (hb0 _) (by omega)) hl (strs_new w1 oddL 9) (by omega) (by decide) (by decide) 5)
    have Hg := hide (grw_below hg1 (hb0 (.cells (oddL.map Value.string).toArray 9)) (by omega))
    clear hb0
    go_wp2_with fail
    refine Hs.out.mono ?_
    rintro e w2 ⟨s, rfl, hs, hc2, hg2⟩
    have hs9 := odd_small s hs
    clear hs
    go_wp2
    go_ret
    exact ⟨s, rfl, hs9, hc2, grw_trans Hg.out hg2⟩
end Go.Proofs.Ytoejikphbienfaa
