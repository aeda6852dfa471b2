/- What is drawn for NamesOk: a list of short texts, whatever the code. -/
import Derived.Test.YtemmindofiecjaaDrawText
namespace Go.Proofs.Ytemmindofiecjaa
open Go.RowKit
set_option linter.unusedVariables false

/-- The texts ss lie at the head of block b. -/
def StrsAt (w : World) (b : Nat) (ss : List ByteArray) : Prop := b < w.heap.size ∧ ∀ j (h : j < ss.length), w.cell? ⟨b, j, none⟩ = some (.string ss[j])
theorem strs_new (w : World) (ss : List ByteArray) (t : TypeId) : StrsAt (w.alloc (.cells (ss.map Value.string).toArray t)) w.heap.size ss := by
  refine ⟨by simp, fun j hj => ?_⟩
  rw [World.cell?_alloc_at _ _ _ _ rfl]
  simp [hj]
theorem StrsAt.grw {w w' : World} {b g : Nat} {ss : List ByteArray} (h : StrsAt w b ss) (hg : w.grownBy w' (some g)) (hne : b ≠ g) : StrsAt w' b ss :=
  ⟨by have := hg.size; have := h.1; omega, fun j hj => hg.cell (a := ⟨b, j, none⟩) (h.2 j hj) (by simp [hne])⟩

set_option maxRecDepth 20000 in
theorem l1Str_any (w0 w : World) (g b : Nat) (cv : Value) (code : List UInt8) (ss : List ByteArray) (hc : Cur w0 w g cv code) (hl : code.length ≤ 1048576) (hi : StrsAt w b ss) (hne : b ≠ g) (hn : 0 < ss.length) (hn2 : ss.length ≤ 1000) (cap : Nat) :
    Calls Try.prog 38 #[.pointer (some ⟨g, 0, none⟩), .slice (some ⟨b, 0, none⟩) ss.length cap] w fun e w' => ∃ s : ByteArray, e = .returned (.string s) ∧ s ∈ ss ∧ Cur w0 w' g cv code ∧ w.grownBy w' (some g) := by
  have Hc := hide hc
  have Hi := hide hi
  clear hc hi
  go_enter Try.func38, Try.ntmps38
  go_wp2_with fail
  refine (l1Below_any _ _ _ _ _ _ Hc.out hl (by omega) (by omega)).mono ?_
  rintro e w1 ⟨x, rfl, hx1, hx2, hc1, hg1⟩
  have hxl : x < ss.length := by have := hx1 (by omega); omega
  have hcell := (Hi.out.grw hg1 hne).2 x hxl
  have hmem := hide (List.getElem_mem hxl)
  generalize ss[x] = n at hcell hmem
  clear hx1 hx2
  go_wp2
  go_ret
  exact ⟨n, rfl, hmem.out, hc1, hg1⟩

def sixL : List ByteArray := [⟨#[97]⟩, ⟨#[98]⟩, ⟨#[99]⟩, ⟨#[100]⟩, ⟨#[101]⟩, ⟨#[97, 49]⟩]
def oddL : List ByteArray := [⟨#[]⟩, ⟨#[65]⟩, ⟨#[116, 111, 111, 108, 111, 110, 103, 57, 57]⟩, ⟨#[97, 32, 98]⟩, ⟨#[101, 105, 103, 104, 116, 108, 101, 116]⟩]
theorem six_small : ∀ s ∈ sixL, s.size ≤ 9 := by decide
theorem odd_small : ∀ s ∈ oddL, s.size ≤ 9 := by decide

set_option maxRecDepth 20000 in
theorem l1Name_any (w0 w : World) (g : Nat) (cv : Value) (code : List UInt8) (hc : Cur w0 w g cv code) (hl : code.length ≤ 1048576) :
    Calls Try.prog 39 #[.pointer (some ⟨g, 0, none⟩)] w fun e w' => ∃ s : ByteArray, e = .returned (.string s) ∧ s.size ≤ 9 ∧ Cur w0 w' g cv code ∧ w.grownBy w' (some g) := by
  have hgl := hc.lt
  have hb0 : ∀ o, Below w.heap.size w (w.alloc o) := fun o => (Below.refl _ _).alloc (Nat.le_refl _) _
  have Hs := hide (l1Str_any w0 _ g w.heap.size cv code sixL (hc.below (hb0 _) hgl) hl (strs_new w sixL 9) (by omega) (by decide) (by decide) 6)
  have Hg := hide (grw_of_below (some g) (hb0 (.cells (sixL.map Value.string).toArray 9)) (Nat.le_refl _))
  clear hb0 hc
  go_enter Try.func39, Try.ntmps39
  go_wp2_with fail
  refine Hs.out.mono ?_
  rintro e w1 ⟨s, rfl, hs, hc1, hg1⟩
  have hs9 := six_small s hs
  clear hs
  go_wp2
  go_ret
  exact ⟨s, rfl, hs9, hc1, grw_trans Hg.out hg1⟩

set_option maxRecDepth 20000 in
theorem l1NameAny_any (w0 w : World) (g : Nat) (cv : Value) (code : List UInt8) (hc : Cur w0 w g cv code) (hl : code.length ≤ 1048576) :
    Calls Try.prog 31 #[.pointer (some ⟨g, 0, none⟩)] w fun e w' => ∃ s : ByteArray, e = .returned (.string s) ∧ s.size ≤ 9 ∧ Cur w0 w' g cv code ∧ w.grownBy w' (some g) := by
  have hgl := hc.lt
  have Hc := hide hc
  clear hc
  go_enter Try.func31, Try.ntmps31
  go_wp2_with fail
  refine (l1Once_any _ _ _ _ _ _ Hc.out hl (by omega) (by omega)).mono ?_
  rintro e w1 ⟨bb, rfl, hc1, hg1⟩
  have hs1 := hg1.size
  cases bb
  · have Hn := hide (l1Name_any _ _ _ _ _ hc1 hl)
    go_wp2_with fail
    refine Hn.out.mono ?_
    rintro e w2 ⟨s, rfl, hs, hc2, hg2⟩
    go_wp2
    go_ret
    exact ⟨s, rfl, hs, hc2, grw_trans hg1 hg2⟩
  · have hb0 : ∀ o, Below w1.heap.size w1 (w1.alloc o) := fun o => (Below.refl _ _).alloc (Nat.le_refl _) _
    have Hs := hide (l1Str_any w0 _ g w1.heap.size cv code oddL (hc1.below (hb0 _) (by omega)) hl (strs_new w1 oddL 9) (by omega) (by decide) (by decide) 5)
    have Hg := hide (grw_below hg1 (hb0 (.cells (oddL.map Value.string).toArray 9)) (by omega))
    clear hb0
    go_wp2_with fail
    refine Hs.out.mono ?_
    rintro e w2 ⟨s, rfl, hs, hc2, hg2⟩
    have hs9 := odd_small s hs
    clear hs
    go_wp2
    go_ret
    exact ⟨s, rfl, hs9, hc2, grw_trans Hg.out hg2⟩
theorem str_two (w : World) (x : Int) (c : UInt8) (h : x = (c.toNat : Int)) : (convert 22 9 (.slice (some ⟨w.heap.size, 0, none⟩) 2 2)).run Try.prog (w.alloc (.cells #[.int .u8 97, .int .u8 x] 5)) = .ok (.string ⟨#[97, c]⟩) (w.alloc (.cells #[.int .u8 97, .int .u8 x] 5)) := by
  have := run_convert_bytes_back (P := Try.prog) (w.alloc (.cells #[.int .u8 97, .int .u8 x] 5)) 22 9 5 ⟨w.heap.size, 0, none⟩ 2 [97, c] Try.underlying22 Try.underlying5 Try.underlying9 (by
    intro j hj
    simp only [List.length_cons, List.length_nil] at hj
    rcases (show j = 0 ∨ j = 1 from by omega) with rfl | rfl
    · simp [Addr.add, World.cell?_alloc_at]
    · simp [Addr.add, World.cell?_alloc_at, h])
  simpa using this

set_option maxRecDepth 20000 in
set_option maxHeartbeats 2000000 in
theorem drawNamesOk_any (w : World) (cv : Value) (code : List UInt8) (hr : RdB w cv code) (hl : code.length ≤ 1048576) :
    Calls Try.prog 17 #[cv] w fun e w' => ∃ (v' : Value) (ls : List ByteArray), e = .returned v' ∧ OwnS w.heap.size w' v' ls ∧ ls.length ≤ 21 ∧ (∀ s ∈ ls, s.size ≤ 9) ∧ Below w.heap.size w w' := by
  have Hn := hide (l1New_any w cv code hr hl)
  clear hr
  go_enter Try.func17, Try.ntmps17
  go_wp2_with fail
  refine Hn.out.mono ?_
  rintro e w1 ⟨rfl, hc1, hb1⟩
  have hgl := hc1.lt
  have hs1 := hb1.size
  go_wp2_with fail
  refine (l1Names_any _ _ _ _ _ hc1 hl).mono ?_
  rintro e w2 ⟨v2, lsX, rfl, ho2, hl5, hsz, hc2, hg2⟩
  have hs2 := hg2.size
  have hsX : ∀ s ∈ lsX, s.size ≤ 9 := fun s hs => by rw [hsz s hs]; omega
  clear hsz
  have HsX0 := hide hsX
  clear hsX
  go_wp2_with fail
  refine (l1Once_any _ _ _ _ _ _ hc2 hl (by omega) (by omega)).mono ?_
  rintro e w3 ⟨bb, rfl, hcX, hg3⟩
  have hs3 := hg3.size
  have hoX := ho2.notg hg3 hgl
  have hgX := grw_trans hg2 hg3
  clear ho2 hc2
  have hlX : lsX.length ≤ 6 := by omega
  cases bb
  · have hsX := HsX0.out
    clear HsX0 hg3 hg2 hc1
    go_wp2_with fail
    refine (l1Once_any _ _ _ _ _ _ hcX hl (by omega) (by omega)).mono ?_
    rintro e wY ⟨b2, rfl, hcY, hgY⟩
    have hsY := hgY.size
    have HoY := hide (hoX.notg hgY (by omega))
    have HgY := hide (grw_trans hgX hgY)
    have HcY := hide hcY
    have HsX := hide hsX
    clear hoX hcX hcY hgY hgX hsX
    cases b2
    · have hB : Below w.heap.size w wY := hb1.grown HgY.out (by omega) (fun k hk => by cases hk; omega)
      go_wp2
      go_ret
      exact ⟨_, lsX, rfl, HoY.out.mono (by omega), by omega, HsX.out, hB⟩
    · have hb0 : Below w1.heap.size wY (wY.alloc (.cells #[] 9)) := (Below.refl _ _).alloc (by omega) _
      have Ho0 := hide (own_nilS wY w1.heap.size (by omega))
      have Hc0 := hide (HcY.out.below hb0 hgl)
      have Hg0 := hide (grw_below HgY.out hb0 (Nat.le_refl _))
      clear hb0 HoY HsX
      go_wp2
      go_loopw [4, 5] (fun bv iv wr => ∃ (k : Nat) (ls : List ByteArray), k ≤ 21 ∧ iv = .int .i64 (k : Int) ∧ OwnS w1.heap.size wr bv ls ∧ ls.length = k ∧ (∀ s ∈ ls, s.size ≤ 9) ∧ Cur w wr w.heap.size cv code ∧ w1.grownBy wr (some w.heap.size)) (fun _ iv _ => 21 - (intOf iv).toNat)
      case atStart => exact ⟨0, [], Nat.zero_le _, rfl, Ho0.out, rfl, by simp, Hc0.out, Hg0.out⟩
      case round =>
        obtain ⟨k, ls, hk, rfl, ho, hlk, hss, hc, hg⟩ := hrel
        have Hlk := hide hlk
        have hl21 : ls.length ≤ 21 := by omega
        have Hss := hide hss
        have Ho := hide ho
        have Hc := hide hc
        have Hg := hide hg
        have hsr := hg.size
        clear ho hc hg hss hlk
        go_wp2_with fail
        refine (l1Below_any _ _ _ _ _ _ Hc.out hl (by omega) (by omega)).mono ?_
        rintro e wz ⟨x, rfl, hx1, _, hcz, hgz⟩
        have hx2 : (x : Int) < 2 := hx1 (by omega)
        have Hoz := hide (Ho.out.notg hgz hgl)
        have Hcz := hide hcz
        have Hgz := hide (grw_trans Hg.out hgz)
        have hsz := hgz.size
        clear hx1 hcz hgz
        by_cases hlt : k < 20 + x
        · obtain ⟨C, hC, hC2⟩ : ∃ C : Nat, 97 + k = C ∧ C < 256 := ⟨_, rfl, by omega⟩
          have k1 := str_two wz (97 + (k : Int)) (UInt8.ofNat C) (by have := byte_of C hC2; omega)
          obtain ⟨s, hs, hs2⟩ : ∃ s : ByteArray, (⟨#[97, UInt8.ofNat C]⟩ : ByteArray) = s ∧ s.size ≤ 9 := ⟨_, rfl, by show 2 ≤ 9; omega⟩
          rw [hs] at k1
          clear hs
          go_wp2_with (at_builtin; refine app_ownS _ rfl _ _ rfl w1.heap.size _ _ ls [s] rfl rfl ((Hoz.out.alloc _).alloc _) (rd_one_str' _ _ _ (by simp)) (by simp; omega) (by simp; omega) ?_; intro v5 w5 ho5 hb5)
          have hb5' : Below w1.heap.size wz w5 := (((Below.refl _ _).alloc (by omega) _).alloc (by simp; omega) _).trans hb5
          have Hc5 := hide (Hcz.out.below hb5' hgl)
          have Hg5 := hide (grw_below Hgz.out hb5' (Nat.le_refl _))
          go_roundw
          case rel => exact ⟨k + 1, ls ++ [s], by omega, by go_num, ho5, by have := Hlk.out; simp; omega, fun u hu => by
                        rcases List.mem_append.1 hu with hu | hu
                        · exact Hss.out u hu
                        · simp at hu; rw [hu]; exact hs2, Hc5.out, Hg5.out⟩
          case measure => simp [intOf]; omega
        · have hB : Below w.heap.size w wz := hb1.grown Hgz.out (by omega) (fun k hk => by cases hk; omega)
          go_wp2
          go_ret
          exact ⟨_, ls, rfl, Hoz.out.mono (by omega), hl21, Hss.out, hB⟩
  · clear hg3 hg2 hc1
    have HoX := hide hoX
    have HgX := hide hgX
    clear hoX hgX
    go_wp2_with fail
    refine (l1NameAny_any _ _ _ _ _ hcX hl).mono ?_
    rintro e w4 ⟨s4, rfl, hs4, hc4, hg4⟩
    have hsz4 := hg4.size
    have Ho4 := hide (HoX.out.notg hg4 hgl)
    have Hc4 := hide hc4
    have Hg4 := hide (grw_trans HgX.out hg4)
    clear hc4 hg4 hcX HoX HgX
    go_wp2_with (at_builtin; refine app_ownS _ rfl _ _ rfl w1.heap.size _ _ lsX [s4] rfl rfl (Ho4.out.alloc _) (rd_one_str' _ _ _ (by simp)) (by simp; omega) (by simp; omega) ?_; intro v5 w5 hoX hb5)
    have hb5' : Below w1.heap.size w4 w5 := ((Below.refl _ _).alloc (by omega) _).trans hb5
    have hcX := Hc4.out.below hb5' hgl
    have hgX := grw_below Hg4.out hb5' (Nat.le_refl _)
    have hsz5 := hb5'.size
    have hsX : ∀ s ∈ lsX ++ [s4], s.size ≤ 9 := fun u hu => by
      rcases List.mem_append.1 hu with hu | hu
      · exact HsX0.out u hu
      · simp at hu; rw [hu]; exact hs4
    have hlX' : (lsX ++ [s4]).length ≤ 6 := by simp; omega
    clear hlX HsX0 Ho4 Hc4 Hg4 hb5 hb5' hl5
    generalize lsX ++ [s4] = lsX at hoX hsX hlX'
    go_wp2_with fail
    refine (l1Once_any _ _ _ _ _ _ hcX hl (by omega) (by omega)).mono ?_
    rintro e wY ⟨b2, rfl, hcY, hgY⟩
    have hsY := hgY.size
    have HoY := hide (hoX.notg hgY (by omega))
    have HgY := hide (grw_trans hgX hgY)
    have HcY := hide hcY
    have HsX := hide hsX
    clear hoX hcX hcY hgY hgX hsX
    cases b2
    · have hB : Below w.heap.size w wY := hb1.grown HgY.out (by omega) (fun k hk => by cases hk; omega)
      go_wp2
      go_ret
      exact ⟨_, lsX, rfl, HoY.out.mono (by omega), by omega, HsX.out, hB⟩
    · have hb0 : Below w1.heap.size wY (wY.alloc (.cells #[] 9)) := (Below.refl _ _).alloc (by omega) _
      have Ho0 := hide (own_nilS wY w1.heap.size (by omega))
      have Hc0 := hide (HcY.out.below hb0 hgl)
      have Hg0 := hide (grw_below HgY.out hb0 (Nat.le_refl _))
      clear hb0 HoY HsX
      go_wp2
      go_loopw [4, 5] (fun bv iv wr => ∃ (k : Nat) (ls : List ByteArray), k ≤ 21 ∧ iv = .int .i64 (k : Int) ∧ OwnS w1.heap.size wr bv ls ∧ ls.length = k ∧ (∀ s ∈ ls, s.size ≤ 9) ∧ Cur w wr w.heap.size cv code ∧ w1.grownBy wr (some w.heap.size)) (fun _ iv _ => 21 - (intOf iv).toNat)
      case atStart => exact ⟨0, [], Nat.zero_le _, rfl, Ho0.out, rfl, by simp, Hc0.out, Hg0.out⟩
      case round =>
        obtain ⟨k, ls, hk, rfl, ho, hlk, hss, hc, hg⟩ := hrel
        have Hlk := hide hlk
        have hl21 : ls.length ≤ 21 := by omega
        have Hss := hide hss
        have Ho := hide ho
        have Hc := hide hc
        have Hg := hide hg
        have hsr := hg.size
        clear ho hc hg hss hlk
        go_wp2_with fail
        refine (l1Below_any _ _ _ _ _ _ Hc.out hl (by omega) (by omega)).mono ?_
        rintro e wz ⟨x, rfl, hx1, _, hcz, hgz⟩
        have hx2 : (x : Int) < 2 := hx1 (by omega)
        have Hoz := hide (Ho.out.notg hgz hgl)
        have Hcz := hide hcz
        have Hgz := hide (grw_trans Hg.out hgz)
        have hsz := hgz.size
        clear hx1 hcz hgz
        by_cases hlt : k < 20 + x
        · obtain ⟨C, hC, hC2⟩ : ∃ C : Nat, 97 + k = C ∧ C < 256 := ⟨_, rfl, by omega⟩
          have k1 := str_two wz (97 + (k : Int)) (UInt8.ofNat C) (by have := byte_of C hC2; omega)
          obtain ⟨s, hs, hs2⟩ : ∃ s : ByteArray, (⟨#[97, UInt8.ofNat C]⟩ : ByteArray) = s ∧ s.size ≤ 9 := ⟨_, rfl, by show 2 ≤ 9; omega⟩
          rw [hs] at k1
          clear hs
          go_wp2_with (at_builtin; refine app_ownS _ rfl _ _ rfl w1.heap.size _ _ ls [s] rfl rfl ((Hoz.out.alloc _).alloc _) (rd_one_str' _ _ _ (by simp)) (by simp; omega) (by simp; omega) ?_; intro v5 w5 ho5 hb5)
          have hb5' : Below w1.heap.size wz w5 := (((Below.refl _ _).alloc (by omega) _).alloc (by simp; omega) _).trans hb5
          have Hc5 := hide (Hcz.out.below hb5' hgl)
          have Hg5 := hide (grw_below Hgz.out hb5' (Nat.le_refl _))
          go_roundw
          case rel => exact ⟨k + 1, ls ++ [s], by omega, by go_num, ho5, by have := Hlk.out; simp; omega, fun u hu => by
                        rcases List.mem_append.1 hu with hu | hu
                        · exact Hss.out u hu
                        · simp at hu; rw [hu]; exact hs2, Hc5.out, Hg5.out⟩
          case measure => simp [intOf]; omega
        · have hB : Below w.heap.size w wz := hb1.grown Hgz.out (by omega) (fun k hk => by cases hk; omega)
          go_wp2
          go_ret
          exact ⟨_, ls, rfl, Hoz.out.mono (by omega), hl21, Hss.out, hB⟩
end Go.Proofs.Ytemmindofiecjaa
