/- Drawn names: one of some, one that may be none. Drawn accounts: one of a name. -/
import Derived.Test.YtbbkeebfginlfaaGreatDoorZgDrawTx
import Derived.Test.YtbbkeebfginlfaaGreatDoorZgAcPut
import Derived.Deep.RegionLaw
namespace Go.Proofs.YtbbkeebfginlfaaGreatDoor
open Go.RowKit
set_option linter.unusedVariables false

/-- The texts ss lie at the head of block b. -/
def StrsAt (w : World) (b : Nat) (ss : List ByteArray) : Prop := b < w.heap.size ∧ ∀ j (h : j < ss.length), w.cell? ⟨b, j, none⟩ = some (.string ss[j])
theorem strs_new (w : World) (ss : List ByteArray) (t : TypeId) : StrsAt (w.alloc (.cells (ss.map Value.string).toArray t)) w.heap.size ss := by
  refine ⟨by simp, fun j hj => ?_⟩
  rw [World.cell?_alloc_at _ _ _ _ rfl]
  simp [hj]
theorem StrsAt.grw {w w' : World} {b g : Nat} {ss : List ByteArray} (h : StrsAt w b ss) (hg : w.grownBy w' (some g)) (hne : b ≠ g) : StrsAt w' b ss :=
  ⟨by have := hg.size; have := h.1; omega, fun j hj => hg.cell (a := ⟨b, j, none⟩) (h.2 j hj) (by simp [hne])⟩

set_option maxRecDepth 20000 in
theorem l1Str_any (w0 w : World) (g b : Nat) (cv : Value) (code : List UInt8) (ss : List ByteArray) (hc : Cur w0 w g cv code) (hl : code.length ≤ 1048576) (hi : StrsAt w b ss) (hne : b ≠ g) (hn : 0 < ss.length) (hn2 : ss.length ≤ 1000) (cap : Nat) :
    Calls Tryz.prog 88 #[.pointer (some ⟨g, 0, none⟩), .slice (some ⟨b, 0, none⟩) ss.length cap] w fun e w' => ∃ s : ByteArray, e = .returned (.string s) ∧ s ∈ ss ∧ Cur w0 w' g cv code ∧ w.grownBy w' (some g) := by
  have Hc := hide hc
  have Hi := hide hi
  clear hc hi
  go_enter Tryz.func88, Tryz.ntmps88
  go_wp2_with fail
  refine (l1Below_any _ _ _ _ _ _ Hc.out hl (by omega) (by omega)).mono ?_
  rintro e w1 ⟨x, rfl, hx1, hx2, hc1, hg1⟩
  have hxl : x < ss.length := by have := hx1 (by omega); omega
  have hcell := (Hi.out.grw hg1 hne).2 x hxl
  have hmem := hide (List.getElem_mem hxl)
  generalize ss[x] = n at hcell hmem
  clear hx1 hx2
  go_wp2
  go_ret
  exact ⟨n, rfl, hmem.out, hc1, hg1⟩

def sixL : List ByteArray := [⟨#[97]⟩, ⟨#[98]⟩, ⟨#[99]⟩, ⟨#[100]⟩, ⟨#[101]⟩, ⟨#[97, 49]⟩]
def oddL : List ByteArray := [⟨#[]⟩, ⟨#[65]⟩, ⟨#[116, 111, 111, 108, 111, 110, 103, 57, 57]⟩, ⟨#[97, 32, 98]⟩, ⟨#[101, 105, 103, 104, 116, 108, 101, 116]⟩]
theorem six_small : ∀ s ∈ sixL, s.size ≤ 9 := by decide
theorem odd_small : ∀ s ∈ oddL, s.size ≤ 9 := by decide

set_option maxRecDepth 20000 in
theorem l1Name_any (w0 w : World) (g : Nat) (cv : Value) (code : List UInt8) (hc : Cur w0 w g cv code) (hl : code.length ≤ 1048576) :
    Calls Tryz.prog 89 #[.pointer (some ⟨g, 0, none⟩)] w fun e w' => ∃ s : ByteArray, e = .returned (.string s) ∧ s.size ≤ 9 ∧ Cur w0 w' g cv code ∧ w.grownBy w' (some g) := by
  have hgl := hc.lt
  have hb0 : ∀ o, Below w.heap.size w (w.alloc o) := fun o => (Below.refl _ _).alloc (Nat.le_refl _) _
  have Hs := hide (l1Str_any w0 _ g w.heap.size cv code sixL (hc.below (hb0 _) hgl) hl (strs_new w sixL 9) (by omega) (by decide) (by decide) 6)
  have Hg := hide (grw_of_below (some g) (hb0 (.cells (sixL.map Value.string).toArray 9)) (Nat.le_refl _))
  clear hb0 hc
  go_enter Tryz.func89, Tryz.ntmps89
  go_wp2_with fail
  refine Hs.out.mono ?_
  rintro e w1 ⟨s, rfl, hs, hc1, hg1⟩
  have hs9 := six_small s hs
  clear hs
  go_wp2
  go_ret
  exact ⟨s, rfl, hs9, hc1, grw_trans Hg.out hg1⟩

set_option maxRecDepth 20000 in
theorem l1NameAny_any (w0 w : World) (g : Nat) (cv : Value) (code : List UInt8) (hc : Cur w0 w g cv code) (hl : code.length ≤ 1048576) :
    Calls Tryz.prog 71 #[.pointer (some ⟨g, 0, none⟩)] w fun e w' => ∃ s : ByteArray, e = .returned (.string s) ∧ s.size ≤ 9 ∧ Cur w0 w' g cv code ∧ w.grownBy w' (some g) := by
  have hgl := hc.lt
  have Hc := hide hc
  clear hc
  go_enter Tryz.func71, Tryz.ntmps71
  go_wp2_with fail
  refine (l1Once_any _ _ _ _ _ _ Hc.out hl (by omega) (by omega)).mono ?_
  rintro e w1 ⟨bb, rfl, hc1, hg1⟩
  have hs1 := hg1.size
  cases bb
  · have Hn := hide (l1Name_any _ _ _ _ _ hc1 hl)
    go_wp2_with fail
    refine Hn.out.mono ?_
    rintro e w2 ⟨s, rfl, hs, hc2, hg2⟩
    go_wp2
    go_ret
    exact ⟨s, rfl, hs, hc2, grw_trans hg1 hg2⟩
  · have hb0 : ∀ o, Below w1.heap.size w1 (w1.alloc o) := fun o => (Below.refl _ _).alloc (Nat.le_refl _) _
    have Hs := hide (l1Str_any w0 _ g w1.heap.size cv code oddL (hc1.below (hb0 _) (by omega)) hl (strs_new w1 oddL 9) (by omega) (by decide) (by decide) 5)
    have Hg := hide (grw_below hg1 (hb0 (.cells (oddL.map Value.string).toArray 9)) (by omega))
    clear hb0
    go_wp2_with fail
    refine Hs.out.mono ?_
    rintro e w2 ⟨s, rfl, hs, hc2, hg2⟩
    have hs9 := odd_small s hs
    clear hs
    go_wp2
    go_ret
    exact ⟨s, rfl, hs9, hc2, grw_trans Hg.out hg2⟩
end Go.Proofs.YtbbkeebfginlfaaGreatDoor

namespace Go.Proofs.YtbbkeebfginlfaaGreatDoor
open Go.RowKit
set_option linter.unusedVariables false

theorem step_appL {ops : Array Oper} {o : Oper} {a : Act} {w : World} {K : Act → World → Prop} {Q : Exit → Act → World → Prop} {E : Prop} (hgd : o.guard = none) (s x : Operand)
    (ho : o.op = .call { callee := .builtin .append, args := #[s, x], argTypes := #[49, 49] })
    (base : Nat) (v : Value) (B : Nat) (l : List (Int × Int)) (p : Int × Int) (hs : a.eval s = v) (hx : a.eval x = .slice (some ⟨B, 0, none⟩) 1 1) (hown : OwnL base w v l) (hblk : Blk w B 108 (lvC p))
    (hlen : l.length ≤ 100000000) (hbase : base ≤ w.heap.size)
    (h : ∀ v' w', OwnL base w' v' (l ++ [p]) → w.grownBy w' v.ownBlock → K (a.put o.dst v') w') : if Region.wanted o (yielded ops a.tmps) = true then Oper.wp Tryz.prog o a w K Q else E := by
  have hw : Region.wanted o (yielded ops a.tmps) = true := by simp [Region.wanted, hgd]
  rw [if_pos hw]
  obtain ⟨i0, hi, hz0, hz1, hz2⟩ := info_parts Tryz.infoLv
  refine wp_append_own w s x 49 ho base 108 i0 (.agg #[.int .i64 0, .int .i64 0]) 2 16 Tryz.underlying49 hi hz0 hz1 hz2 rfl (by decide) v l.length (l.map lvC).flatten hs hown ⟨B, 0, none⟩ 1 1 (lvC p) hx rfl ?_ ?_ (by unfold maxLen; omega) (by omega) hbase ?_
  · intro j u hj
    rw [add_flat, Nat.zero_add, hblk.cell j]
    exact hj
  · intro u hu
    simp only [lvC, List.mem_cons, List.not_mem_nil, or_false] at hu
    rcases hu with rfl | rfl <;> rfl
  · intro v' w' ho' hg _
    exact h v' w' (by unfold OwnL; rw [List.length_append, List.map_append, List.flatten_append]; simpa using ho') hg
theorem OwnL.notg {base : Nat} {w w' : World} {v : Value} {l : List (Int × Int)} {g : Nat} (h : OwnL base w v l) (hg : w.grownBy w' (some g)) (hb : g < base) : OwnL base w' v l :=
  h.kept hg (.inr fun e => by have := h.ge g e; omega)
theorem Blk.notg {w w' : World} {B g : Nat} {t : TypeId} {cs : List Value} (h : Blk w B t cs) (hg : w.grownBy w' (some g)) (hne : B ≠ g) : Blk w' B t cs :=
  (hg.block B h.lt (fun e => hne (by injection e))).trans h
theorem Blk.setD {w : World} {B : Nat} {t : TypeId} {cs : List Value} (h : Blk w B t cs) (j : Nat) (u : Value) (hj : j < cs.length) : Blk (w.setCell ⟨B, j, none⟩ u) B t (cs.set j u) := by
  have e := heap_setCell_same w B j cs.toArray t u h
  unfold Blk
  rw [e]
  simp
theorem Blk.setOther {w : World} {B b : Nat} {t : TypeId} {cs : List Value} (h : Blk w B t cs) (j : Nat) (u : Value) (hne : B ≠ b) : Blk (w.setCell ⟨b, j, none⟩ u) B t cs :=
  h.notg (grown_set w b j u) hne

theorem Blk.grown {w w' : World} {B : Nat} {t : TypeId} {cs : List Value} {row : Option Nat} (h : Blk w B t cs) (hg : w.grownBy w' row) (hne : row ≠ some B) : Blk w' B t cs := (hg.block B h.lt (fun e => hne e.symm)).trans h
theorem Blk.allocD {w : World} {B : Nat} {t : TypeId} {cs : List Value} (h : Blk w B t cs) (o : Obj) : Blk (w.alloc o) B t cs := h.below ((Below.refl _ w).alloc (Nat.le_refl _) o) h.lt
theorem Blk.drew {w : World} {B : Nat} {t : TypeId} {cs : List Value} (h : Blk w B t cs) : Blk w.drew B t cs := h
theorem OwnL.shapeN {base : Nat} {w : World} {v : Value} {l : List (Int × Int)} (h : OwnL base w v l) (n : Nat) (hn : l.length = n) : ∃ a c, v = .slice a n c := by
  obtain ⟨a, c, e⟩ := h.rd.shape
  exact ⟨a, c, by rw [e, hn]⟩
set_option maxRecDepth 20000 in
set_option maxHeartbeats 2000000 in
theorem l4Acct_any (w0 w : World) (g : Nat) (cv : Value) (code : List UInt8) (s : ByteArray) (hc : Cur w0 w g cv code) (hl : code.length ≤ 1048576) :
    Calls Tryz.prog 70 #[.pointer (some ⟨g, 0, none⟩), .string s] w fun e w' => ∃ (a : Ac) (lv : Value), e = .returned (acV a lv) ∧ a.1 = s ∧ a.2.2.2.2.length ≤ 3 ∧ OwnL w.heap.size w' lv a.2.2.2.2 ∧ Cur w0 w' g cv code ∧ w.grownBy w' (some g) := by
  have hgl := hc.lt
  obtain ⟨w1, hw1⟩ : ∃ w1, w.alloc (.cells #[.string { data := #[] }, .int .i64 0, .int .i64 0, .int .i64 0, .slice none 0 0] 51) = w1 := ⟨_, rfl⟩
  have hs1 : w1.heap.size = w.heap.size + 1 := by rw [← hw1]; simp
  have hb1 : Below w.heap.size w w1 := by rw [← hw1]; exact (Below.refl _ w).alloc (Nat.le_refl _) _
  have k1 : Blk w1 w.heap.size 51 acZ := by rw [← hw1]; exact Blk.new w _ _
  obtain ⟨w2, hw2⟩ : ∃ w2, w1.alloc (.cells #[.int .i64 0, .int .i64 10, .int .i64 100, .int .i64 5] 3) = w2 := ⟨_, rfl⟩
  have hs2 : w2.heap.size = w.heap.size + 2 := by rw [← hw2]; simp; omega
  have hb2 : Below w1.heap.size w1 w2 := by rw [← hw2]; exact (Below.refl _ w1).alloc (Nat.le_refl _) _
  have HI2 : Hid (IntsAt w2 (w.heap.size + 1) [0, 10, 100, 5]) := hide (by rw [← hw2, ← hs1]; exact ints_new w1 [0, 10, 100, 5] 3)
  have Hc2 := hide ((hc.below hb1 hgl).below hb2 (by omega))
  have K2 := hide (k1.below hb2 (by omega))
  have HG2 := hide (grw_of_below (some g) (hb1.trans (hb2.mono (by omega))) (Nat.le_refl _))
  clear hc k1 hb1 hb2
  go_enter Tryz.func70, Tryz.ntmps70
  go_wp2_with fail
  refine (l1Int_any w0 _ g (w.heap.size + 1) cv code [0, 10, 100, 5] Hc2.out hl HI2.out (by omega) (by simp) (by simp) 4).mono ?_
  rintro e w3 ⟨fr, rfl, -, hc3, hg3⟩
  have K3 := hide (K2.out.notg hg3 (by omega))
  have HG3 := hide (grw_trans HG2.out hg3)
  have hs3 := hg3.size
  clear hg3 HI2 Hc2 K2 HG2
  go_wp2_with fail
  refine (l1Below_any _ _ _ _ _ _ hc3 hl (by omega) (by omega)).mono ?_
  rintro e w4 ⟨no, rfl, -, -, hc4, hg4⟩
  have K4 := hide (K3.out.notg hg4 (by omega))
  have HG4 := hide (grw_trans HG3.out hg4)
  have hs4 := hg4.size
  obtain ⟨w5, hw5⟩ : ∃ w5, w4.alloc (.cells #[.int .i64 10, .int .i64 10, .int .i64 0, .int .i64 4, .int .i64 5, .int .i64 30] 3) = w5 := ⟨_, rfl⟩
  have hb5 : Below w4.heap.size w4 w5 := by rw [← hw5]; exact (Below.refl _ w4).alloc (Nat.le_refl _) _
  have hs5 : w5.heap.size = w4.heap.size + 1 := by rw [← hw5]; simp
  have HI5 : Hid (IntsAt w5 w4.heap.size [10, 10, 0, 4, 5, 30]) := hide (by rw [← hw5]; exact ints_new w4 [10, 10, 0, 4, 5, 30] 3)
  have Hc5 := hide (hc4.below hb5 (by omega))
  have K5 := hide (K4.out.below hb5 (by omega))
  have HG5 := hide (grw_trans HG4.out (grw_of_below (some g) hb5 (Nat.le_refl _)))
  clear hg4 hc3 hc4 K3 K4 HG3 HG4 hb5
  go_wp2_with fail
  refine (l1Int_any w0 _ g w4.heap.size cv code [10, 10, 0, 4, 5, 30] Hc5.out hl HI5.out (by omega) (by simp) (by simp) 6).mono ?_
  rintro e w6 ⟨st, rfl, -, hc6, hg6⟩
  have hs6 := hg6.size
  go_wp2
  obtain ⟨w7, hw7⟩ : ∃ w7, w6.alloc (.cells #[.string s, .int .i64 fr, .int .i64 (no : Int), .int .i64 st, .slice none 0 0] 51) = w7 := ⟨_, rfl⟩
  rw [hw7]
  have hb7 : Below w6.heap.size w6 w7 := by rw [← hw7]; exact (Below.refl _ w6).alloc (Nat.le_refl _) _
  have hs7 : w7.heap.size = w6.heap.size + 1 := by rw [← hw7]; simp
  have KA7 : Hid (Blk w7 w6.heap.size 51 [.string s, .int .i64 fr, .int .i64 (no : Int), .int .i64 st, .slice none 0 0]) := hide (by rw [← hw7]; exact Blk.new w6 _ _)
  have K7 := hide ((K5.out.notg hg6 (by omega)).below hb7 (by omega))
  have HG7 := hide (grw_trans (grw_trans HG5.out hg6) (grw_of_below (some g) hb7 (Nat.le_refl _)))
  have Hc7 := hide (hc6.below hb7 (by omega))
  clear hg6 hc6 K5 HG5 HI5 Hc5 hb7
  go_loopw [6] (fun iv wr => ∃ (k : Nat) (a' : Option Addr) (c' : Nat) (ls : List (Int × Int)), k ≤ 3 ∧ iv = .int .i64 (k : Int) ∧ ls.length ≤ k ∧ Blk wr w6.heap.size 51 [.string s, .int .i64 fr, .int .i64 (no : Int), .int .i64 st, .slice a' ls.length c'] ∧ OwnL (w6.heap.size + 1) wr (.slice a' ls.length c') ls ∧ Blk wr w.heap.size 51 acZ ∧ Cur w0 wr g cv code ∧ w.grownBy wr (some g)) (fun iv _ => 3 - (intOf iv).toNat)
  case atStart => exact ⟨0, none, 0, [], Nat.zero_le _, rfl, Nat.le_refl _, KA7.out, own_noneL _ _, K7.out, Hc7.out, HG7.out⟩
  case round =>
    obtain ⟨k, a', c', ls, hk, rfl, hll, hkA, hoL, hkR, hcr, hgr⟩ := hrel
    clear KA7 K7 Hc7 HG7
    have HkA := hide hkA
    have HoL := hide hoL
    have HkR := hide hkR
    have Hcr := hide hcr
    have Hgr := hide hgr
    have hAl := hkA.lt
    clear hkA hoL hkR hcr hgr
    by_cases hlt : k < 3
    · go_wp2_with fail
      refine (l1Once_any _ _ _ _ _ _ Hcr.out hl (by omega) (by omega)).mono ?_
      rintro e w8 ⟨bb, rfl, hc8, hg8⟩
      have hkA8 := HkA.out.notg hg8 (by omega)
      have hkR8 := HkR.out.notg hg8 (by omega)
      have hoL8 := HoL.out.notg hg8 (by omega)
      have hgr8 := grw_trans Hgr.out hg8
      have hs8 := hg8.size
      clear hg8 HkA HkR HoL Hgr Hcr
      cases bb
      · have HkA := hide hkA8
        have HkR := hide hkR8
        have HoL := hide hoL8
        have Hgr := hide hgr8
        have Hcr := hide hc8
        clear hkA8 hkR8 hoL8 hgr8 hc8
        go_wp2
        go_roundw
        case rel => exact ⟨k + 1, a', c', ls, by omega, by go_num, by omega, HkA.out, HoL.out, HkR.out, Hcr.out, Hgr.out⟩
        case measure => simp [intOf]; omega
      · have HoLd := hide (hoL8.below (below_drewN (Below.refl w8.heap.size w8) 1) (Nat.le_refl _))
        have e4 := hkA8.cell 4
        have f4 := hkA8.frozen 4
        simp only [List.getElem?_cons_zero, List.getElem?_cons_succ] at e4
        have HkA := hide hkA8
        have HkR := hide hkR8
        have HoL := hide hoL8
        have Hgr := hide hgr8
        have Hcr := hide hc8
        clear hkA8 hkR8 hoL8 hgr8 hc8
        go_wp2_with fail
        go_region_law (first
          | (refine step_appL rfl _ _ rfl (w6.heap.size + 1) (.slice a' ls.length c') _ ls (_, _) rfl rfl (OwnL.alloc (OwnL.notg HoLd.out hg9 (by omega)) _) (Blk.new' _ _ (lvC (_, _)) _ (by simp)) (by omega) (by have := hg9.size; simp at this ⊢; omega) ?_; intro v10 w10 ho10x hg10; obtain ⟨L10, hL10, ho10⟩ : ∃ L : List (Int × Int), L.length = ls.length + 1 ∧ OwnL (w6.heap.size + 1) w10 v10 L := ⟨_, by simp, ho10x⟩; clear ho10x; obtain ⟨a10, c10, rfl⟩ := ho10.shapeN (ls.length + 1) hL10; have kA10 := hide (Blk.grown (Blk.allocD (Blk.notg (Blk.drew HkA.out) hg9 (by omega)) _) hg10 (fun e => by have := HoL.out.ge _ e; omega)); have q4 := kA10.out.cell 4; have g4 := kA10.out.frozen 4; simp only [List.getElem?_cons_zero, List.getElem?_cons_succ] at q4)
          | (go_simp; go_at_call 50; refine (l1Below_any w0 _ g cv code 9 (by first | exact Hcr.out.drew | exact Hcr.out) hl (by omega) (by omega)).mono ?_; rintro e w9 ⟨x9, rfl, hx9, -, hc9, hg9⟩; have hx9' : x9 < 9 := (by have := hx9 (by omega); omega); have k9 := hide (Blk.notg (Blk.drew HkA.out) hg9 (by omega)); have q9 := k9.out.cell 4; simp only [List.getElem?_cons_zero, List.getElem?_cons_succ] at q9; have hA9 := k9.out.lt))
        all_goals
          have hA9 : w6.heap.size < w9.heap.size := (Blk.notg (Blk.drew HkA.out) hg9 (by omega)).lt
          have hb11 : Below w6.heap.size w9 (w10.setCell ⟨w6.heap.size, 4, none⟩ (.slice a10 (ls.length + 1) c10)) := (((Below.refl w6.heap.size w9).alloc (by omega) _).grown hg10 (by simp; omega) (fun j hj => by have := HoL.out.ge j hj; omega)).setCell (p := ⟨w6.heap.size, 4, none⟩) (Nat.le_refl _) _
          have HkA11 := hide (kA10.out.setD 4 (.slice a10 (ls.length + 1) c10) (by simp))
          have HoL11 := hide (row_set ho10 w6.heap.size 4 (.slice a10 (ls.length + 1) c10) (fun j hj => by have := OwnL.ge ho10 j hj; omega))
          have HkR11 := hide ((HkR.out.drew.notg hg9 (by omega)).below hb11 (by omega))
          have Hc11 := hide (hc9.below hb11 (by omega))
          have Hgr11 := hide (grw_below (grw_trans (grw_drewN Hgr.out 1) hg9) hb11 (by omega))
          clear hb11 ho10 kA10 hg10 hg9 hc9 q4 g4
          go_wp2
          go_roundw
          case rel => exact ⟨k + 1, a10, c10, L10, by omega, by go_num, by omega, by rw [hL10]; exact HkA11.out, by rw [hL10]; exact HoL11.out, HkR11.out, Hc11.out, Hgr11.out⟩
          case measure => simp [intOf]; omega
    · have c0 := HkA.out.cell 0
      have c1 := HkA.out.cell 1
      have c2 := HkA.out.cell 2
      have c3 := HkA.out.cell 3
      have c4 := HkA.out.cell 4
      have d0 := HkR.out.cell 0
      have d1 := HkR.out.cell 1
      have d2 := HkR.out.cell 2
      have d3 := HkR.out.cell 3
      have d4 := HkR.out.cell 4
      have f0 := HkR.out.frozen 0
      have f1 := HkR.out.frozen 1
      have f2 := HkR.out.frozen 2
      have f3 := HkR.out.frozen 3
      have f4 := HkR.out.frozen 4
      simp only [acZ, List.getElem?_cons_zero, List.getElem?_cons_succ] at c0 c1 c2 c3 c4 d0 d1 d2 d3 d4
      have hRl := HkR.out.lt
      have hne : w.heap.size < w6.heap.size := by omega
      go_wp2
      refine bodyPost_ret (v := .agg #[.string s, .int .i64 fr, .int .i64 (no : Int), .int .i64 st, .slice a' ls.length c']) (by simp [results, Tryz.f70, go_sem, d0, d1, d2, d3, d4]) rfl ?_
      have n1 : ∀ j, (Value.slice a' ls.length c').ownBlock = some j → j ≠ w.heap.size := fun j hj => by have := HoL.out.ge j hj; omega
      have hbR : Below w.heap.size wr (((((wr.setCell ⟨w.heap.size, 0, none⟩ (.string s)).setCell ⟨w.heap.size, 1, none⟩ (.int .i64 fr)).setCell ⟨w.heap.size, 2, none⟩ (.int .i64 (no : Int))).setCell ⟨w.heap.size, 3, none⟩ (.int .i64 st)).setCell ⟨w.heap.size, 4, none⟩ (.slice a' ls.length c')) :=
        (((((Below.refl _ wr).setCell (p := ⟨w.heap.size, 0, none⟩) (Nat.le_refl _) _).setCell (p := ⟨w.heap.size, 1, none⟩) (Nat.le_refl _) _).setCell (p := ⟨w.heap.size, 2, none⟩) (Nat.le_refl _) _).setCell (p := ⟨w.heap.size, 3, none⟩) (Nat.le_refl _) _).setCell (p := ⟨w.heap.size, 4, none⟩) (Nat.le_refl _) _
      refine ⟨(s, fr, (no : Int), st, ls),   .slice a' ls.length c', rfl, rfl, (show ls.length ≤ 3 by omega), ?_, Hcr.out.below hbR hgl, grw_below Hgr.out hbR (Nat.le_refl _)⟩
      exact row_set (row_set (row_set (row_set (row_set (HoL.out.mono (show w.heap.size ≤ w6.heap.size + 1 by omega)) _ _ _ n1) _ _ _ n1) _ _ _ n1) _ _ _ n1) _ _ _ n1
end Go.Proofs.YtbbkeebfginlfaaGreatDoor
