/- Drawn accounts: one of a name. Drawn accounts: lists of them. Drawn accounts that may be wrong, and what is drawn for Credit. Ledgers drawn. -/
import Derived.Test.YtocaednkhcjkcaaGreatDoorZaDr
import Derived.Test.YtocaednkhcjkcaaGreatDoorAcApp
import Derived.Deep.RegionLaw
import Derived.Test.YtocaednkhcjkcaaGreatDoorAcWith
import Derived.Test.YtocaednkhcjkcaaGreatDoorLgRow
import Derived.Deep.RegionHeldLaw
namespace Go.Proofs.YtocaednkhcjkcaaGreatDoor
open Go.RowKit
set_option linter.unusedVariables false

theorem step_appL {ops : Array Oper} {o : Oper} {a : Act} {w : World} {K : Act → World → Prop} {Q : Exit → Act → World → Prop} {E : Prop} (hgd : o.guard = none) (s x : Operand)
    (ho : o.op = .call { callee := .builtin .append, args := #[s, x], argTypes := #[34, 34] })
    (base : Nat) (v : Value) (B : Nat) (l : List (Int × Int)) (p : Int × Int) (hs : a.eval s = v) (hx : a.eval x = .slice (some ⟨B, 0, none⟩) 1 1) (hown : OwnL base w v l) (hblk : Blk w B 85 (lvC p))
    (hlen : l.length ≤ 100000000) (hbase : base ≤ w.heap.size)
    (h : ∀ v' w', OwnL base w' v' (l ++ [p]) → w.grownBy w' v.ownBlock → K (a.put o.dst v') w') : if Region.wanted o (yielded ops a.tmps) = true then Oper.wp Tryz.prog o a w K Q else E := by
  have hw : Region.wanted o (yielded ops a.tmps) = true := by simp [Region.wanted, hgd]
  rw [if_pos hw]
  obtain ⟨i0, hi, hz0, hz1, hz2⟩ := info_parts Tryz.infoLv
  refine wp_append_own w s x 34 ho base 85 i0 (.agg #[.int .i64 0, .int .i64 0]) 2 16 Tryz.underlying34 hi hz0 hz1 hz2 rfl (by decide) v l.length (l.map lvC).flatten hs hown ⟨B, 0, none⟩ 1 1 (lvC p) hx rfl ?_ ?_ (by unfold maxLen; omega) (by omega) hbase ?_
  · intro j u hj
    rw [add_flat, Nat.zero_add, hblk.cell j]
    exact hj
  · intro u hu
    simp only [lvC, List.mem_cons, List.not_mem_nil, or_false] at hu
    rcases hu with rfl | rfl <;> rfl
  · intro v' w' ho' hg _
    exact h v' w' (by unfold OwnL; rw [List.length_append, List.map_append, List.flatten_append]; simpa using ho') hg
theorem OwnL.notg {base : Nat} {w w' : World} {v : Value} {l : List (Int × Int)} {g : Nat} (h : OwnL base w v l) (hg : w.grownBy w' (some g)) (hb : g < base) : OwnL base w' v l :=
  h.kept hg (.inr fun e => by have := h.ge g e; omega)
theorem Blk.notg {w w' : World} {B g : Nat} {t : TypeId} {cs : List Value} (h : Blk w B t cs) (hg : w.grownBy w' (some g)) (hne : B ≠ g) : Blk w' B t cs :=
  (hg.block B h.lt (fun e => hne (by injection e))).trans h
theorem Blk.setD {w : World} {B : Nat} {t : TypeId} {cs : List Value} (h : Blk w B t cs) (j : Nat) (u : Value) (hj : j < cs.length) : Blk (w.setCell ⟨B, j, none⟩ u) B t (cs.set j u) := by
  have e := heap_setCell_same w B j cs.toArray t u h
  unfold Blk
  rw [e]
  simp
theorem Blk.setOther {w : World} {B b : Nat} {t : TypeId} {cs : List Value} (h : Blk w B t cs) (j : Nat) (u : Value) (hne : B ≠ b) : Blk (w.setCell ⟨b, j, none⟩ u) B t cs :=
  h.notg (grown_set w b j u) hne

theorem Blk.grown {w w' : World} {B : Nat} {t : TypeId} {cs : List Value} {row : Option Nat} (h : Blk w B t cs) (hg : w.grownBy w' row) (hne : row ≠ some B) : Blk w' B t cs := (hg.block B h.lt (fun e => hne e.symm)).trans h
theorem Blk.allocD {w : World} {B : Nat} {t : TypeId} {cs : List Value} (h : Blk w B t cs) (o : Obj) : Blk (w.alloc o) B t cs := h.below ((Below.refl _ w).alloc (Nat.le_refl _) o) h.lt
theorem Blk.drew {w : World} {B : Nat} {t : TypeId} {cs : List Value} (h : Blk w B t cs) : Blk w.drew B t cs := h
theorem OwnL.shapeN {base : Nat} {w : World} {v : Value} {l : List (Int × Int)} (h : OwnL base w v l) (n : Nat) (hn : l.length = n) : ∃ a c, v = .slice a n c := by
  obtain ⟨a, c, e⟩ := h.rd.shape
  exact ⟨a, c, by rw [e, hn]⟩
set_option maxRecDepth 20000 in
set_option maxHeartbeats 2000000 in
theorem l4Acct_any (w0 w : World) (g : Nat) (cv : Value) (code : List UInt8) (s : ByteArray) (hc : Cur w0 w g cv code) (hl : code.length ≤ 1048576) :
    Calls Tryz.prog 108 #[.pointer (some ⟨g, 0, none⟩), .string s] w fun e w' => ∃ (a : Ac) (lv : Value), e = .returned (acV a lv) ∧ a.1 = s ∧ a.2.2.2.2.length ≤ 3 ∧ OwnL w.heap.size w' lv a.2.2.2.2 ∧ Cur w0 w' g cv code ∧ w.grownBy w' (some g) := by
  have hgl := hc.lt
  obtain ⟨w1, hw1⟩ : ∃ w1, w.alloc (.cells #[.string { data := #[] }, .int .i64 0, .int .i64 0, .int .i64 0, .slice none 0 0] 36) = w1 := ⟨_, rfl⟩
  have hs1 : w1.heap.size = w.heap.size + 1 := by rw [← hw1]; simp
  have hb1 : Below w.heap.size w w1 := by rw [← hw1]; exact (Below.refl _ w).alloc (Nat.le_refl _) _
  have k1 : Blk w1 w.heap.size 36 acZ := by rw [← hw1]; exact Blk.new w _ _
  obtain ⟨w2, hw2⟩ : ∃ w2, w1.alloc (.cells #[.int .i64 0, .int .i64 10, .int .i64 100, .int .i64 5] 3) = w2 := ⟨_, rfl⟩
  have hs2 : w2.heap.size = w.heap.size + 2 := by rw [← hw2]; simp; omega
  have hb2 : Below w1.heap.size w1 w2 := by rw [← hw2]; exact (Below.refl _ w1).alloc (Nat.le_refl _) _
  have HI2 : Hid (IntsAt w2 (w.heap.size + 1) [0, 10, 100, 5]) := hide (by rw [← hw2, ← hs1]; exact ints_new w1 [0, 10, 100, 5] 3)
  have Hc2 := hide ((hc.below hb1 hgl).below hb2 (by omega))
  have K2 := hide (k1.below hb2 (by omega))
  have HG2 := hide (grw_of_below (some g) (hb1.trans (hb2.mono (by omega))) (Nat.le_refl _))
  clear hc k1 hb1 hb2
  go_enter Tryz.func108, Tryz.ntmps108
  go_wp2_with fail
  refine (l1Int_any w0 _ g (w.heap.size + 1) cv code [0, 10, 100, 5] Hc2.out hl HI2.out (by omega) (by simp) (by simp) 4).mono ?_
  rintro e w3 ⟨fr, rfl, -, hc3, hg3⟩
  have K3 := hide (K2.out.notg hg3 (by omega))
  have HG3 := hide (grw_trans HG2.out hg3)
  have hs3 := hg3.size
  clear hg3 HI2 Hc2 K2 HG2
  go_wp2_with fail
  refine (l1Below_any _ _ _ _ _ _ hc3 hl (by omega) (by omega)).mono ?_
  rintro e w4 ⟨no, rfl, -, -, hc4, hg4⟩
  have K4 := hide (K3.out.notg hg4 (by omega))
  have HG4 := hide (grw_trans HG3.out hg4)
  have hs4 := hg4.size
  obtain ⟨w5, hw5⟩ : ∃ w5, w4.alloc (.cells #[.int .i64 10, .int .i64 10, .int .i64 0, .int .i64 4, .int .i64 5, .int .i64 30] 3) = w5 := ⟨_, rfl⟩
  have hb5 : Below w4.heap.size w4 w5 := by rw [← hw5]; exact (Below.refl _ w4).alloc (Nat.le_refl _) _
  have hs5 : w5.heap.size = w4.heap.size + 1 := by rw [← hw5]; simp
  have HI5 : Hid (IntsAt w5 w4.heap.size [10, 10, 0, 4, 5, 30]) := hide (by rw [← hw5]; exact ints_new w4 [10, 10, 0, 4, 5, 30] 3)
  have Hc5 := hide (hc4.below hb5 (by omega))
  have K5 := hide (K4.out.below hb5 (by omega))
  have HG5 := hide (grw_trans HG4.out (grw_of_below (some g) hb5 (Nat.le_refl _)))
  clear hg4 hc3 hc4 K3 K4 HG3 HG4 hb5
  go_wp2_with fail
  refine (l1Int_any w0 _ g w4.heap.size cv code [10, 10, 0, 4, 5, 30] Hc5.out hl HI5.out (by omega) (by simp) (by simp) 6).mono ?_
  rintro e w6 ⟨st, rfl, -, hc6, hg6⟩
  have hs6 := hg6.size
  go_wp2
  obtain ⟨w7, hw7⟩ : ∃ w7, w6.alloc (.cells #[.string s, .int .i64 fr, .int .i64 (no : Int), .int .i64 st, .slice none 0 0] 36) = w7 := ⟨_, rfl⟩
  rw [hw7]
  have hb7 : Below w6.heap.size w6 w7 := by rw [← hw7]; exact (Below.refl _ w6).alloc (Nat.le_refl _) _
  have hs7 : w7.heap.size = w6.heap.size + 1 := by rw [← hw7]; simp
  have KA7 : Hid (Blk w7 w6.heap.size 36 [.string s, .int .i64 fr, .int .i64 (no : Int), .int .i64 st, .slice none 0 0]) := hide (by rw [← hw7]; exact Blk.new w6 _ _)
  have K7 := hide ((K5.out.notg hg6 (by omega)).below hb7 (by omega))
  have HG7 := hide (grw_trans (grw_trans HG5.out hg6) (grw_of_below (some g) hb7 (Nat.le_refl _)))
  have Hc7 := hide (hc6.below hb7 (by omega))
  clear hg6 hc6 K5 HG5 HI5 Hc5 hb7
  go_loopw [6] (fun iv wr => ∃ (k : Nat) (a' : Option Addr) (c' : Nat) (ls : List (Int × Int)), k ≤ 3 ∧ iv = .int .i64 (k : Int) ∧ ls.length ≤ k ∧ Blk wr w6.heap.size 36 [.string s, .int .i64 fr, .int .i64 (no : Int), .int .i64 st, .slice a' ls.length c'] ∧ OwnL (w6.heap.size + 1) wr (.slice a' ls.length c') ls ∧ Blk wr w.heap.size 36 acZ ∧ Cur w0 wr g cv code ∧ w.grownBy wr (some g)) (fun iv _ => 3 - (intOf iv).toNat)
  case atStart => exact ⟨0, none, 0, [], Nat.zero_le _, rfl, Nat.le_refl _, KA7.out, own_noneL _ _, K7.out, Hc7.out, HG7.out⟩
  case round =>
    obtain ⟨k, a', c', ls, hk, rfl, hll, hkA, hoL, hkR, hcr, hgr⟩ := hrel
    clear KA7 K7 Hc7 HG7
    have HkA := hide hkA
    have HoL := hide hoL
    have HkR := hide hkR
    have Hcr := hide hcr
    have Hgr := hide hgr
    have hAl := hkA.lt
    clear hkA hoL hkR hcr hgr
    by_cases hlt : k < 3
    · go_wp2_with fail
      refine (l1Once_any _ _ _ _ _ _ Hcr.out hl (by omega) (by omega)).mono ?_
      rintro e w8 ⟨bb, rfl, hc8, hg8⟩
      have hkA8 := HkA.out.notg hg8 (by omega)
      have hkR8 := HkR.out.notg hg8 (by omega)
      have hoL8 := HoL.out.notg hg8 (by omega)
      have hgr8 := grw_trans Hgr.out hg8
      have hs8 := hg8.size
      clear hg8 HkA HkR HoL Hgr Hcr
      cases bb
      · have HkA := hide hkA8
        have HkR := hide hkR8
        have HoL := hide hoL8
        have Hgr := hide hgr8
        have Hcr := hide hc8
        clear hkA8 hkR8 hoL8 hgr8 hc8
        go_wp2
        go_roundw
        case rel => exact ⟨k + 1, a', c', ls, by omega, by go_num, by omega, HkA.out, HoL.out, HkR.out, Hcr.out, Hgr.out⟩
        case measure => simp [intOf]; omega
      · have HoLd := hide (hoL8.below (below_drewN (Below.refl w8.heap.size w8) 1) (Nat.le_refl _))
        have e4 := hkA8.cell 4
        have f4 := hkA8.frozen 4
        simp only [List.getElem?_cons_zero, List.getElem?_cons_succ] at e4
        have HkA := hide hkA8
        have HkR := hide hkR8
        have HoL := hide hoL8
        have Hgr := hide hgr8
        have Hcr := hide hc8
        clear hkA8 hkR8 hoL8 hgr8 hc8
        go_wp2_with fail
        go_region_law (first
          | (refine step_appL rfl _ _ rfl (w6.heap.size + 1) (.slice a' ls.length c') _ ls (_, _) rfl rfl (OwnL.alloc (OwnL.notg HoLd.out hg9 (by omega)) _) (Blk.new' _ _ (lvC (_, _)) _ (by simp)) (by omega) (by have := hg9.size; simp at this ⊢; omega) ?_; intro v10 w10 ho10x hg10; obtain ⟨L10, hL10, ho10⟩ : ∃ L : List (Int × Int), L.length = ls.length + 1 ∧ OwnL (w6.heap.size + 1) w10 v10 L := ⟨_, by simp, ho10x⟩; clear ho10x; obtain ⟨a10, c10, rfl⟩ := ho10.shapeN (ls.length + 1) hL10; have kA10 := hide (Blk.grown (Blk.allocD (Blk.notg (Blk.drew HkA.out) hg9 (by omega)) _) hg10 (fun e => by have := HoL.out.ge _ e; omega)); have q4 := kA10.out.cell 4; have g4 := kA10.out.frozen 4; simp only [List.getElem?_cons_zero, List.getElem?_cons_succ] at q4)
          | (go_simp; go_at_call 67; refine (l1Below_any w0 _ g cv code 9 (by first | exact Hcr.out.drew | exact Hcr.out) hl (by omega) (by omega)).mono ?_; rintro e w9 ⟨x9, rfl, hx9, -, hc9, hg9⟩; have hx9' : x9 < 9 := (by have := hx9 (by omega); omega); have k9 := hide (Blk.notg (Blk.drew HkA.out) hg9 (by omega)); have q9 := k9.out.cell 4; simp only [List.getElem?_cons_zero, List.getElem?_cons_succ] at q9; have hA9 := k9.out.lt))
        all_goals
          have hA9 : w6.heap.size < w9.heap.size := (Blk.notg (Blk.drew HkA.out) hg9 (by omega)).lt
          have hb11 : Below w6.heap.size w9 (w10.setCell ⟨w6.heap.size, 4, none⟩ (.slice a10 (ls.length + 1) c10)) := (((Below.refl w6.heap.size w9).alloc (by omega) _).grown hg10 (by simp; omega) (fun j hj => by have := HoL.out.ge j hj; omega)).setCell (p := ⟨w6.heap.size, 4, none⟩) (Nat.le_refl _) _
          have HkA11 := hide (kA10.out.setD 4 (.slice a10 (ls.length + 1) c10) (by simp))
          have HoL11 := hide (row_set ho10 w6.heap.size 4 (.slice a10 (ls.length + 1) c10) (fun j hj => by have := OwnL.ge ho10 j hj; omega))
          have HkR11 := hide ((HkR.out.drew.notg hg9 (by omega)).below hb11 (by omega))
          have Hc11 := hide (hc9.below hb11 (by omega))
          have Hgr11 := hide (grw_below (grw_trans (grw_drewN Hgr.out 1) hg9) hb11 (by omega))
          clear hb11 ho10 kA10 hg10 hg9 hc9 q4 g4
          go_wp2
          go_roundw
          case rel => exact ⟨k + 1, a10, c10, L10, by omega, by go_num, by omega, by rw [hL10]; exact HkA11.out, by rw [hL10]; exact HoL11.out, HkR11.out, Hc11.out, Hgr11.out⟩
          case measure => simp [intOf]; omega
    · have c0 := HkA.out.cell 0
      have c1 := HkA.out.cell 1
      have c2 := HkA.out.cell 2
      have c3 := HkA.out.cell 3
      have c4 := HkA.out.cell 4
      have d0 := HkR.out.cell 0
      have d1 := HkR.out.cell 1
      have d2 := HkR.out.cell 2
      have d3 := HkR.out.cell 3
      have d4 := HkR.out.cell 4
      have f0 := HkR.out.frozen 0
      have f1 := HkR.out.frozen 1
      have f2 := HkR.out.frozen 2
      have f3 := HkR.out.frozen 3
      have f4 := HkR.out.frozen 4
      simp only [acZ, List.getElem?_cons_zero, List.getElem?_cons_succ] at c0 c1 c2 c3 c4 d0 d1 d2 d3 d4
      have hRl := HkR.out.lt
      have hne : w.heap.size < w6.heap.size := by omega
      go_wp2
      refine bodyPost_ret (v := .agg #[.string s, .int .i64 fr, .int .i64 (no : Int), .int .i64 st, .slice a' ls.length c']) (by simp [results, Tryz.f108, go_sem, d0, d1, d2, d3, d4]) rfl ?_
      have n1 : ∀ j, (Value.slice a' ls.length c').ownBlock = some j → j ≠ w.heap.size := fun j hj => by have := HoL.out.ge j hj; omega
      have hbR : Below w.heap.size wr (((((wr.setCell ⟨w.heap.size, 0, none⟩ (.string s)).setCell ⟨w.heap.size, 1, none⟩ (.int .i64 fr)).setCell ⟨w.heap.size, 2, none⟩ (.int .i64 (no : Int))).setCell ⟨w.heap.size, 3, none⟩ (.int .i64 st)).setCell ⟨w.heap.size, 4, none⟩ (.slice a' ls.length c')) :=
        (((((Below.refl _ wr).setCell (p := ⟨w.heap.size, 0, none⟩) (Nat.le_refl _) _).setCell (p := ⟨w.heap.size, 1, none⟩) (Nat.le_refl _) _).setCell (p := ⟨w.heap.size, 2, none⟩) (Nat.le_refl _) _).setCell (p := ⟨w.heap.size, 3, none⟩) (Nat.le_refl _) _).setCell (p := ⟨w.heap.size, 4, none⟩) (Nat.le_refl _) _
      refine ⟨(s, fr, (no : Int), st, ls),   .slice a' ls.length c', rfl, rfl, (show ls.length ≤ 3 by omega), ?_, Hcr.out.below hbR hgl, grw_below Hgr.out hbR (Nat.le_refl _)⟩
      exact row_set (row_set (row_set (row_set (row_set (HoL.out.mono (show w.heap.size ≤ w6.heap.size + 1 by omega)) _ _ _ n1) _ _ _ n1) _ _ _ n1) _ _ _ n1) _ _ _ n1
end Go.Proofs.YtocaednkhcjkcaaGreatDoor

namespace Go.Proofs.YtocaednkhcjkcaaGreatDoor
open Go.RowKit
set_option linter.unusedVariables false

theorem RowA.notg {base : Nat} {w w' : World} {v : Value} {Z : List (Ac × Value)} {g : Nat} (h : RowA base w v Z) (hg : w.grownBy w' (some g)) (hb : g < base) : RowA base w' v Z :=
  World.ownsRow.kept h hg (.inr fun e => by have := h.ge g e; omega)
theorem Lvs.notg {base : Nat} {w w' : World} {b : Nat} {Z : List (Ac × Value)} {g : Nat} (h : Lvs base w b Z) (hg : w.grownBy w' (some g)) (hb : g < base) : Lvs base w' b Z :=
  ⟨fun i hi => (h.own i hi).notg hg hb, h.far, h.apart⟩
/-- What is drawn is small. -/
def Small (l : List Ac) : Prop := l.length ≤ 100 ∧ ∀ a ∈ l, a.1.size ≤ 9 ∧ a.2.2.2.2.length ≤ 4
theorem rd_row {base : Nat} {w : World} {g cap : Nat} {Z : List (Ac × Value)} (ho : RowA base w (.slice (some ⟨g, 0, none⟩) Z.length cap) Z) (hl : ∀ q ∈ Z, RdL w q.2 q.1.2.2.2.2) : RdA w (.slice (some ⟨g, 0, none⟩) Z.length cap) (Z.map (·.1)) := by
  by_cases hn : Z = []
  · subst hn; exact .inl ⟨_, _, rfl, rfl, fun h => by cases h⟩
  · rcases ho.2 with ⟨hv, _⟩ | ⟨g', cap', cur, hv, hb, hg, hnc, hcm, hcs, ht⟩
    · cases hv
    · simp only [Value.slice.injEq, Option.some.injEq, Addr.mk.injEq, and_true, true_and] at hv
      obtain ⟨rfl, rfl⟩ := hv
      refine .inr ⟨g, 0, cap, by simpa using hn, by simp, by simpa using hnc, hcm, (Array.getElem?_eq_some_iff.1 hg).1, fun i hi => ?_⟩
      have hi' : i < Z.length := by simpa using hi
      have e : (Z.map (·.1))[i] = Z[i].1 := by simp
      refine ⟨Z[i].2, ?_, by rw [e]; exact hl _ (List.getElem_mem hi')⟩
      have cell : ∀ j, j < 5 → w.cell? ⟨g, 0 + i * 5 + j, none⟩ = (acC Z[i])[j]? := fun j hj => by
        rw [Nat.zero_add, World.ownsRow.cellAt ho (i * 5 + j) (by omega), flat_get 5 (Z.map acC) i j (by simpa using hi') (acM_sz Z) hj]
        simp
      rw [e]
      exact ⟨by have := cell 0 (by omega); simpa [acC] using this, by have := cell 1 (by omega); simpa [acC] using this, by have := cell 2 (by omega); simpa [acC] using this, by have := cell 3 (by omega); simpa [acC] using this, by have := cell 4 (by omega); simpa [acC] using this⟩

set_option maxRecDepth 20000 in
set_option maxHeartbeats 2000000 in
theorem l4Draw_any (w0 w : World) (g : Nat) (cv : Value) (code : List UInt8) (hc : Cur w0 w g cv code) (hl : code.length ≤ 1048576) :
    Calls Tryz.prog 106 #[.pointer (some ⟨g, 0, none⟩)] w fun e w' => ∃ (G cap : Nat) (Z : List (Ac × Value)), e = .returned (.slice (some ⟨G, 0, none⟩) Z.length cap) ∧ RowA w.heap.size w' (.slice (some ⟨G, 0, none⟩) Z.length cap) Z ∧ Lvs w.heap.size w' G Z ∧ Z.length ≤ 5 ∧ (∀ q ∈ Z, q.1.1.size ≤ 9 ∧ q.1.2.2.2.2.length ≤ 3) ∧ Cur w0 w' g cv code ∧ w.grownBy w' (some g) := by
  have hgl := hc.lt
  obtain ⟨w1, hw1⟩ : ∃ w1, w.alloc (.cells #[] 36) = w1 := ⟨_, rfl⟩
  have hb1 : Below w.heap.size w w1 := by rw [← hw1]; exact (Below.refl _ w).alloc (Nat.le_refl _) _
  have hs1 : w1.heap.size = w.heap.size + 1 := by rw [← hw1]; simp
  have Ho1 : Hid (RowA w.heap.size w1 (.slice (some ⟨w.heap.size, 0, none⟩) 0 0) []) := hide (by rw [← hw1]; exact row_nilA w _ (Nat.le_refl _))
  have Hc1 := hide (hc.below hb1 hgl)
  have HG1 := hide (grw_of_below (some g) hb1 (Nat.le_refl _))
  clear hc hb1
  go_enter Tryz.func106, Tryz.ntmps106
  go_wp2_with fail
  refine (l1Names_any w0 _ g cv code Hc1.out hl).mono ?_
  rintro e w2 ⟨v2, ns, rfl, ho2, hn5, hsz, hc2, hg2⟩
  have Ho2 := hide (Ho1.out.notg hg2 hgl)
  have HG2 := hide (grw_trans HG1.out hg2)
  have Hc2 := hide hc2
  have Hns := hide ho2
  have Hsz := hide hsz
  have hs2 := hg2.size
  obtain ⟨av, cvv, hv2⟩ : ∃ a c, v2 = .slice a ns.length c := by
    rcases ho2.rd with ⟨a, cap, h1, h2, -⟩ | ⟨b, off, cap, h0, h1, _⟩
    · subst h2; exact ⟨a, cap, h1⟩
    · exact ⟨_, cap, h1⟩
  subst hv2
  clear hc2 ho2 hg2 hsz Ho1 HG1 Hc1
  go_wp2
  go_loopw [3, 5] (fun ov iv wr => ∃ (k G c : Nat) (Z : List (Ac × Value)), k ≤ ns.length ∧ iv = .int .i64 (k : Int) ∧ ov = .slice (some ⟨G, 0, none⟩) k c ∧ Z.length = k ∧ RowA w.heap.size wr ov Z ∧ Lvs w.heap.size wr G Z ∧ (∀ q ∈ Z, q.1.1.size ≤ 9 ∧ q.1.2.2.2.2.length ≤ 3) ∧ OwnS w1.heap.size wr (.slice av ns.length cvv) ns ∧ (∀ j, (Value.slice av ns.length cvv).ownBlock = some j → j ≠ G) ∧ Cur w0 wr g cv code ∧ w.grownBy wr (some g)) (fun _ iv _ => ns.length - (intOf iv).toNat)
  case atStart =>
    refine ⟨0, _, _, [], Nat.zero_le _, rfl, rfl, rfl, Ho2.out, Lvs.nil _ _ _, by simp, Hns.out, fun j hj => ?_, Hc2.out, HG2.out⟩
    have := (World.ownsRow.lt Hns.out j hj).1
    omega
  case round =>
    obtain ⟨k, G, c, Z, hk, rfl, rfl, hZk, ho, hlv, hsm, hns, hne, hcr, hgr⟩ := hrel
    clear Ho2 HG2 Hc2 Hns
    by_cases hlt : k < ns.length
    · have hs1' := Hsz.out ns[k] (List.getElem_mem _)
      have hrd := hns.rd
      rcases hrd with ⟨_, _, _, e, _⟩ | ⟨b, off, cap, h0, hv, h1, h2, h3, h4⟩
      · subst e; simp at hlt
      injection hv with ha _ hcap
      subst ha hcap
      have hc0 := h4 k hlt
      have hli : (k : Int) < (ns.length : Int) := by omega
      have hGw : w.heap.size ≤ G := ho.ge G rfl
      have hGl : G < wr.heap.size := ho.lt G rfl
      have Ho := hide ho
      have Hlv := hide hlv
      have Hsm := hide hsm
      have Hns := hide hns
      have Hne := hide hne
      have HA := hide (l4Acct_any w0 wr g cv code ns[k] hcr hl)
      have Hgr := hide hgr
      clear ho hlv hsm hns hne hcr hgr h4
      generalize ns[k] = nm at hc0 HA hs1'
      go_wp2_with fail
      refine HA.out.mono ?_
      rintro e w3 ⟨a3, lv3, rfl, ha3, hl3, ho3, hc3, hg3⟩
      have hs3 := hg3.size
      obtain ⟨⟨nm3, fr, no, st, ls⟩⟩ : Nonempty Ac := ⟨a3⟩
      obtain ⟨nm3, fr, no, st, ls⟩ := a3
      simp only at ha3 hl3
      subst ha3
      obtain ⟨a', c', rfl⟩ := OwnL.shapeN ho3 ls.length rfl
      have Ho3 := hide (Ho.out.notg hg3 hgl)
      have Hlv3 := hide (Hlv.out.notg hg3 hgl)
      have HoL3 := hide ho3
      have Hc3 := hide hc3
      have Hgr3 := hide (grw_trans Hgr.out hg3)
      have Hns3 := hide (Hns.out.notg hg3 (by omega))
      clear ho3 hc3 hg3
      simp only [acV]
      go_wp2_with (at_builtin; refine app_ownA _ rfl _ _ rfl w.heap.size (.slice (some ⟨G, 0, none⟩) k c) _ Z ((nm3, fr, no, st, ls), .slice a' ls.length c') rfl rfl (World.ownsRow.alloc Ho3.out _) (Blk.new' _ _ (acC ((nm3, fr, no, st, ls), .slice a' ls.length c')) _ (by simp)) rfl (by omega) (by simp; omega) ?_; intro v4 w4 hrow4 hgr4 hnn4 hloc4; obtain ⟨G', c'', rfl⟩ := hrow4.shapeN hnn4 (k + 1) (by simp [hZk]))
      have hlv4 : Lvs w.heap.size w4 G' (Z ++ [((nm3, fr, no, st, ls), .slice a' ls.length c')]) := by
        obtain ⟨g', cap', e, h⟩ := rowA_step (q := ((nm3, fr, no, st, ls), .slice a' ls.length c')) Hlv3.out (HoL3.out.mono (by omega)) (fun j hj => by have := HoL3.out.ge j hj; omega)
          (fun i hi j hj e => by have := (Hlv.out.own i hi).lt j hj; have := HoL3.out.ge j e; omega) ((Below.refl _ w3).alloc (Nat.le_refl _) _) hgr4 hrow4 hnn4 hloc4
        injection e with e1
        injection e1 with e2
        injection e2 with e3
        subst e3
        exact h
      have hB4 : Below w.heap.size w3 w4 := ((Below.refl _ w3).alloc (by omega) _).grown hgr4 (by simp; omega) (fun j hj => by cases hj; exact hGw)
      have hns4 : OwnS w1.heap.size w4 (.slice (some ⟨b, off, none⟩) ns.length cvv) ns := World.ownsRow.kept (World.ownsRow.alloc Hns3.out _) hgr4 (.inr fun e => Hne.out G e rfl)
      have Hc4 := hide (Hc3.out.below hB4 hgl)
      have Hgr4 := hide (grw_below Hgr3.out hB4 (Nat.le_refl _))
      have hG' : ∀ j, (Value.slice (some ⟨b, off, none⟩) ns.length cvv).ownBlock = some j → j ≠ G' := fun j hj => by
        have h1 := Hne.out j hj
        have h2 := (World.ownsRow.lt Hns3.out j hj).2
        rcases hloc4 with h | h
        · have : G' = G := by simpa [Value.ownBlock] using h
          omega
        · have : G' = w3.heap.size + 1 := by simpa [Value.ownBlock] using h
          omega
      go_roundw
      case rel =>
        refine ⟨k + 1, G', c'', _, by omega, by go_num, rfl, by simp [hZk], hrow4, hlv4, fun q hq => ?_, hns4, hG', Hc4.out, Hgr4.out⟩
        rcases List.mem_append.1 hq with hq | hq
        · exact Hsm.out q hq
        · simp at hq; subst hq; exact ⟨(show nm3.size ≤ 9 by omega), hl3⟩
      case measure => simp [intOf]; omega
    · go_wp2
      go_ret
      subst hZk
      exact ⟨G, c, Z, rfl, ho, hlv, by omega, hsm, hcr, hgr⟩
end Go.Proofs.YtocaednkhcjkcaaGreatDoor

namespace Go.Proofs.YtocaednkhcjkcaaGreatDoor
open Go.RowKit
set_option linter.unusedVariables false

theorem step_appLat {ops : Array Oper} {o : Oper} {a : Act} {w : World} {K : Act → World → Prop} {Q : Exit → Act → World → Prop} {E : Prop} (hgd : o.guard = none) (s x : Operand)
    (ho : o.op = .call { callee := .builtin .append, args := #[s, x], argTypes := #[34, 34] })
    (base : Nat) (v : Value) (B : Nat) (l : List (Int × Int)) (p : Int × Int) (hs : a.eval s = v) (hx : a.eval x = .slice (some ⟨B, 0, none⟩) 1 1) (hown : OwnL base w v l) (hblk : Blk w B 85 (lvC p))
    (hlen : l.length ≤ 100000000) (hbase : base ≤ w.heap.size)
    (h : ∀ v' w', OwnL base w' v' (l ++ [p]) → w.grownBy w' v.ownBlock → (v'.ownBlock = v.ownBlock ∨ v'.ownBlock = some w.heap.size) → K (a.put o.dst v') w') : if Region.wanted o (yielded ops a.tmps) = true then Oper.wp Tryz.prog o a w K Q else E := by
  have hw : Region.wanted o (yielded ops a.tmps) = true := by simp [Region.wanted, hgd]
  rw [if_pos hw]
  obtain ⟨i0, hi, hz0, hz1, hz2⟩ := info_parts Tryz.infoLv
  obtain ⟨v', w', hr, h2, h3, h4, h5⟩ := run_append_own_at (P := Tryz.prog) w base 34 o.type 85 i0 (.agg #[.int .i64 0, .int .i64 0]) 2 16 Tryz.underlying34 hi hz0 hz1 hz2 rfl (by decide) v l.length (l.map lvC).flatten hown ⟨B, 0, none⟩ 1 1 (lvC p) rfl (fun j u hj => by rw [add_flat, Nat.zero_add, hblk.cell j]; exact hj) (fun u hu => by
    simp only [lvC, List.mem_cons, List.not_mem_nil, or_false] at hu
    rcases hu with rfl | rfl <;> rfl) (by unfold maxLen; omega) (by omega) hbase
  unfold Oper.wp execOp
  simp only [ho, resolve, invoke, builtin, Sem.run_bind, Sem.run_pure, Result.andThen_ok, List.map_toArray, List.map_cons, List.map_nil, hs, hx, hr]
  exact h v' w' (by unfold OwnL; rw [List.length_append, List.map_append, List.flatten_append]; simpa using h2) h3 h5
/-- Accounts in a row of the call's own, each with a list of the call's own. -/
def DrA (base : Nat) (w : World) (v : Value) (Z : List (Ac × Value)) : Prop := (∃ G cap, v = .slice (some ⟨G, 0, none⟩) Z.length cap) ∧ RowA base w v Z ∧ ∀ q ∈ Z, OwnL base w q.2 q.1.2.2.2.2
theorem DrA.of {base : Nat} {w : World} {G cap : Nat} {Z : List (Ac × Value)} (h : RowA base w (.slice (some ⟨G, 0, none⟩) Z.length cap) Z) (hl : Lvs base w G Z) : DrA base w (.slice (some ⟨G, 0, none⟩) Z.length cap) Z :=
  ⟨⟨G, cap, rfl⟩, h, fun q hq => by
    obtain ⟨i, hi, rfl⟩ := List.mem_iff_getElem.1 hq
    exact hl.own i hi⟩
theorem DrA.notg {base : Nat} {w w' : World} {v : Value} {Z : List (Ac × Value)} {g : Nat} (h : DrA base w v Z) (hg : w.grownBy w' (some g)) (hb : g < base) : DrA base w' v Z :=
  ⟨h.1, h.2.1.notg hg hb, fun q hq => (h.2.2 q hq).notg hg hb⟩
theorem DrA.below {B base : Nat} {w w' : World} {v : Value} {Z : List (Ac × Value)} (h : DrA base w v Z) (hb : Below B w w') (hB : w.heap.size ≤ B) : DrA base w' v Z :=
  ⟨h.1, h.2.1.below hb hB, fun q hq => (h.2.2 q hq).below hb hB⟩
theorem DrA.rd {base : Nat} {w : World} {v : Value} {Z : List (Ac × Value)} (h : DrA base w v Z) : RdA w v (Z.map (·.1)) := by
  obtain ⟨⟨G, cap, rfl⟩, h1, h2⟩ := h
  exact rd_row h1 (fun q hq => (h2 q hq).rd)
def SmallZ (Z : List (Ac × Value)) : Prop := Z.length ≤ 6 ∧ ∀ q ∈ Z, q.1.1.size ≤ 9 ∧ q.1.2.2.2.2.length ≤ 4

/-- What is drawn: accounts of the call's own, few and small; the cursor goes on. -/
def Drawn (w0 w : World) (g : Nat) (cv : Value) (code : List UInt8) (e : Ending) (w' : World) : Prop := ∃ (v : Value) (Z : List (Ac × Value)), e = .returned v ∧ DrA w.heap.size w' v Z ∧ SmallZ Z ∧ Cur w0 w' g cv code ∧ w.grownBy w' (some g)
set_option maxRecDepth 20000 in
set_option maxHeartbeats 2000000 in
theorem l4Any_any (w0 w : World) (g : Nat) (cv : Value) (code : List UInt8) (hc : Cur w0 w g cv code) (hl : code.length ≤ 1048576) :
    Calls Tryz.prog 69 #[.pointer (some ⟨g, 0, none⟩)] w fun e w' => Drawn w0 w g cv code e w' := by
  have hgl := hc.lt
  go_enter Tryz.func69, Tryz.ntmps69
  go_wp2_with fail
  refine (l4Draw_any w0 _ g cv code hc hl).mono ?_
  rintro e w1 ⟨G, cap, Z, rfl, hrow1, hlv1, hZ5, hsm, hc1, hg1⟩
  have hs1 := hg1.size
  clear hc
  go_wp2_with fail
  refine (l1Below_any _ _ _ _ _ _ hc1 hl (by omega) (by omega)).mono ?_
  rintro e w2 ⟨x, rfl, -, -, hc2, hg2⟩
  have hs2 := hg2.size
  have hrow2 := hrow1.notg hg2 hgl
  have hlv2 := hlv1.notg hg2 hgl
  have hg2' := grw_trans hg1 hg2
  have Hsm3 := hide hsm
  have hSm : SmallZ Z := ⟨by omega, fun q hq => by have := hsm q hq; omega⟩
  have hGw : w.heap.size ≤ G := hrow2.ge G rfl
  have hGl : G < w2.heap.size := hrow2.lt G rfl
  clear hc1 hrow1 hlv1 hg1 hg2 hsm
  by_cases hx0 : x = 0
  · subst hx0
    have Hrow := hide hrow2
    have Hlv := hide hlv2
    have Hg := hide hg2'
    clear hrow2 hlv2 hg2'
    go_wp2_with fail
    refine (l1NameAny_any w0 _ g cv code hc2 hl).mono ?_
    rintro e w3 ⟨s, rfl, hs9, hc3, hg3⟩
    have hs3 := hg3.size
    have Hrow3 := hide (Hrow.out.notg hg3 hgl)
    have Hlv3 := hide (Hlv.out.notg hg3 hgl)
    have Hg3 := hide (grw_trans Hg.out hg3)
    clear hg3 hc2 Hrow Hlv Hg
    go_wp2_with fail
    refine (l4Acct_any w0 _ g cv code s hc3 hl).mono ?_
    rintro e w4 ⟨a4, lv4, rfl, ha4, hl4, ho4, hc4, hg4⟩
    have hs4 := hg4.size
    obtain ⟨nm, fr, no, st, ls⟩ := a4
    simp only at ha4 hl4
    subst ha4
    obtain ⟨a', c', rfl⟩ := OwnL.shapeN ho4 ls.length rfl
    have Hrow4 := hide (Hrow3.out.notg hg4 hgl)
    have Hlv4 := hide (Hlv3.out.notg hg4 hgl)
    have Hg4 := hide (grw_trans Hg3.out hg4)
    have Ho4 := hide ho4
    have Hc4 := hide hc4
    have HZlt := hide (fun i (hi : i < Z.length) j (hj : Z[i].2.ownBlock = some j) => (Hlv3.out.own i hi).lt j hj)
    clear hg4 hc3 hc4 ho4 Hrow3 Hlv3 Hg3
    simp only [acV]
    go_wp2_with (at_builtin; refine app_ownA _ rfl _ _ rfl w.heap.size (.slice (some ⟨G, 0, none⟩) Z.length cap) _ Z ((nm, fr, no, st, ls), .slice a' ls.length c') rfl rfl (World.ownsRow.alloc Hrow4.out _) (Blk.new' _ _ (acC ((nm, fr, no, st, ls), .slice a' ls.length c')) _ (by simp)) rfl (by omega) (by simp; omega) ?_; intro v5 w5 hrow5 hgr5 hnn5 hloc5)
    go_ret
    obtain ⟨g', cap', rfl, h⟩ := rowA_step (q := ((nm, fr, no, st, ls), .slice a' ls.length c')) Hlv4.out (Ho4.out.mono (by omega)) (fun j hj => by have := Ho4.out.ge j hj; omega)
      (fun i hi j hj e => by have := HZlt.out i hi j hj; have := Ho4.out.ge j e; omega) ((Below.refl _ w4).alloc (Nat.le_refl _) _) hgr5 hrow5 hnn5 hloc5
    have hB5 : Below w.heap.size w4 w5 := ((Below.refl _ w4).alloc (by omega) _).grown hgr5 (by simp; omega) (fun j hj => by cases hj; exact hGw)
    refine ⟨_, _, rfl, DrA.of hrow5 h, ⟨by simp; have := hSm.1; omega, fun q hq => ?_⟩, Hc4.out.below hB5 hgl, grw_below Hg4.out hB5 (Nat.le_refl _)⟩
    rcases List.mem_append.1 hq with hq | hq
    · exact hSm.2 q hq
    · simp at hq; subst hq; exact ⟨hs9, (show ls.length ≤ 4 by omega)⟩
  · by_cases hx1 : x = 1
    · subst hx1
      clear hx0
      by_cases hZ0 : Z = []
      · subst hZ0
        have HD := hide (DrA.of hrow2 hlv2)
        have Hg := hide hg2'
        have Hc := hide hc2
        clear hrow2 hlv2 hg2' hc2
        go_wp2
        go_ret
        exact ⟨_, [], rfl, HD.out, hSm, Hc.out, Hg.out⟩
      · obtain ⟨q0, Zt, rfl⟩ : ∃ q t, Z = q :: t := by
          cases Z with
          | nil => exact absurd rfl hZ0
          | cons q t => exact ⟨q, t, rfl⟩
        have hpos : (0 : Int) < (((q0 :: Zt).length : Nat) : Int) := by simp only [List.length_cons]; omega
        have hpN : 0 < (q0 :: Zt).length := by simp
        obtain ⟨w3, hw3⟩ : ∃ w3, w2.alloc (.cells #[.int .i64 (-1), .int .i64 1000000, .int .i64 1000001] 3) = w3 := ⟨_, rfl⟩
        have hb3 : Below w2.heap.size w2 w3 := by rw [← hw3]; exact (Below.refl _ w2).alloc (Nat.le_refl _) _
        have hs3 : w3.heap.size = w2.heap.size + 1 := by rw [← hw3]; simp
        have HI3 : Hid (IntsAt w3 w2.heap.size [-1, 1000000, 1000001]) := hide (by rw [← hw3]; exact ints_new w2 [-1, 1000000, 1000001] 3)
        have Hc3 := hide (hc2.below hb3 (by omega))
        have Hrow3 := hide (hrow2.below hb3 (Nat.le_refl _))
        have Hlv3 := hide (hlv2.below hb3 (Nat.le_refl _))
        have Hg3 := hide (grw_trans hg2' (grw_of_below (some g) hb3 (Nat.le_refl _)))
        clear hrow2 hlv2 hg2' hc2 hZ0 hb3
        generalize hn : (q0 :: Zt).length = n at *
        go_wp2_with fail
        refine (l1Int_any w0 _ g w2.heap.size cv code [-1, 1000000, 1000001] Hc3.out hl HI3.out (by omega) (by simp) (by simp) 3).mono ?_
        rintro e w4 ⟨y, rfl, -, hc4, hg4⟩
        have hrow4 := Hrow3.out.notg hg4 hgl
        have hlv4 := Hlv3.out.notg hg4 hgl
        have hg4' := grw_trans Hg3.out hg4
        have hs4 := hg4.size
        have hr4 : w4.ownsRow w.heap.size 36 5 (.slice (some ⟨G, 0, none⟩) n cap) n ((q0 :: Zt).map acC).flatten := by
          have := hrow4
          unfold RowA at this
          rwa [hn] at this
        have q1 := hr4.cellAt 1 (by omega)
        have f1 := hr4.frozenAt 1
        obtain ⟨⟨nm, fr, no, st, ls⟩, lv⟩ := q0
        simp only [List.map_cons, List.flatten_cons, acC, List.cons_append, List.getElem?_cons_succ, List.getElem?_cons_zero] at q1
        have hst := (hr4.stored 1 (.int .i64 y)).1
        have Hst : Hid (RowA w.heap.size (w4.setCell ⟨G, 1, none⟩ (.int .i64 y)) (.slice (some ⟨G, 0, none⟩) n cap) (((nm, y, no, st, ls), lv) :: Zt)) := hide (by
          unfold RowA
          rw [show (((nm, y, no, st, ls), lv) :: Zt : List (Ac × Value)).length = n from by rw [← hn]; rfl]
          simpa [acC] using hst)
        have Hlv5 : Hid (Lvs w.heap.size (w4.setCell ⟨G, 1, none⟩ (.int .i64 y)) G (((nm, y, no, st, ls), lv) :: Zt)) := hide ((hlv4.set 1 (.int .i64 y)).same rfl)
        have hB5 : Below w.heap.size w4 (w4.setCell ⟨G, 1, none⟩ (.int .i64 y)) := (Below.refl _ w4).setCell (p := ⟨G, 1, none⟩) hGw _
        have Hc5 := hide (hc4.below hB5 hgl)
        have Hg5 := hide (grw_below hg4' hB5 (Nat.le_refl _))
        clear hrow4 hr4 hlv4 hg4' hg4 hc4 hst hB5 Hrow3 Hlv3 Hg3 Hc3 HI3
        go_wp2
        go_ret
        have hn' : (((nm, y, no, st, ls), lv) :: Zt : List (Ac × Value)).length = n := by rw [← hn]; rfl
        refine ⟨_, ((nm, y, no, st, ls), lv) :: Zt, rfl, ?_, ⟨by rw [hn']; have := hSm.1; omega, fun q hq => ?_⟩, Hc5.out, Hg5.out⟩
        · have := DrA.of (G := G) (cap := cap) (Z := ((nm, y, no, st, ls), lv) :: Zt) (by rw [hn']; exact Hst.out) Hlv5.out
          rw [hn'] at this
          exact this
        · rcases List.mem_cons.1 hq with rfl | hq
          · exact hSm.2 ((nm, fr, no, st, ls), lv) List.mem_cons_self
          · exact hSm.2 q (List.mem_cons_of_mem _ hq)
    · by_cases hx2 : x = 2
      · subst hx2
        clear hx0 hx1
        by_cases hZ0 : Z = []
        · subst hZ0
          have HD := hide (DrA.of hrow2 hlv2)
          have Hg := hide hg2'
          have Hc := hide hc2
          clear hrow2 hlv2 hg2' hc2
          go_wp2
          go_ret
          exact ⟨_, [], rfl, HD.out, hSm, Hc.out, Hg.out⟩
        · obtain ⟨q0, Zt, rfl⟩ : ∃ q t, Z = q :: t := by
            cases Z with
            | nil => exact absurd rfl hZ0
            | cons q t => exact ⟨q, t, rfl⟩
          obtain ⟨⟨nm, fr, no, st, ls⟩, lv⟩ := q0
          have hpos : (0 : Int) < ((((((nm, fr, no, st, ls) : Ac), lv) :: Zt).length : Nat) : Int) := by simp only [List.length_cons]; omega
          have hpN : 0 < ((((nm, fr, no, st, ls) : Ac), lv) :: Zt).length := by simp
          have hls := hSm.2 _ List.mem_cons_self
          have Hl3 : Hid (ls.length ≤ 3) := hide (Hsm3.out _ List.mem_cons_self).2
          have hL0 : OwnL w.heap.size w2 lv ls := hlv2.own 0 (by simp)
          have hfar0 : ∀ k, lv.ownBlock = some k → k ≠ G := hlv2.far 0 (by simp)
          have HLt : Hid (∀ q ∈ Zt, OwnL w.heap.size w2 q.2 q.1.2.2.2.2 ∧ (∀ k, q.2.ownBlock = some k → k ≠ G) ∧ (q.2.ownBlock = none ∨ q.2.ownBlock ≠ lv.ownBlock)) := hide (fun q hq => by
            obtain ⟨i, hi, rfl⟩ := List.mem_iff_getElem.1 hq
            refine ⟨hlv2.own (i + 1) (by simp; omega), hlv2.far (i + 1) (by simp; omega), ?_⟩
            cases hb : Zt[i].2.ownBlock with
            | none => exact .inl rfl
            | some k => exact .inr (fun e => hlv2.apart 0 (i + 1) (by simp) (by simp; omega) (by omega) k e.symm hb))
          obtain ⟨a', c', rfl⟩ := OwnL.shapeN hL0 ls.length rfl
          generalize hn : ((((nm, fr, no, st, ls) : Ac), Value.slice a' ls.length c') :: Zt).length = n at *
          have hr2 : w2.ownsRow w.heap.size 36 5 (.slice (some ⟨G, 0, none⟩) n cap) n (((((nm, fr, no, st, ls) : Ac), Value.slice a' ls.length c') :: Zt).map acC).flatten := by
            have := hrow2
            unfold RowA at this
            rwa [hn] at this
          have Hcell : Hid (∀ W : World, W.ownsRow w.heap.size 36 5 (.slice (some ⟨G, 0, none⟩) n cap) n (((((nm, fr, no, st, ls) : Ac), Value.slice a' ls.length c') :: Zt).map acC).flatten → W.cell? ⟨G, 4, none⟩ = some (.slice a' ls.length c') ∧ W.frozen? ⟨G, 4, none⟩ = false ∧ G < W.heap.size) := hide (fun W h => by
            refine ⟨?_, h.frozenAt 4, (World.ownsRow.lt h G rfl).2⟩
            rw [h.cellAt 4 (by omega)]
            simp [acC])
          have q2 := (Hcell.out w2 hr2).1
          have Hr2 := hide hr2
          have HL0 := hide hL0
          have Hfar0 := hide hfar0
          have Hg := hide hg2'
          have Hc := hide hc2
          clear hrow2 hlv2 hg2' hc2 hZ0 hr2 hL0 hfar0 hZ5
          go_wp2_with fail
          go_region_law (first
            | (refine step_appLat rfl _ _ rfl w.heap.size (.slice a' ls.length c') _ ls (_, _) rfl rfl (OwnL.alloc (OwnL.notg (OwnL.notg (HL0.out.below (below_drewN (Below.refl w2.heap.size w2) 1) (Nat.le_refl _)) hgA hgl) hgB hgl) _) (Blk.new' _ _ (lvC (_, _)) _ (by simp)) (by omega) (by simp; omega) ?_; intro v10 w10 ho10x hg10 hloc10; obtain ⟨L10, hL10, ho10⟩ : ∃ L : List (Int × Int), L.length = ls.length + 1 ∧ OwnL w.heap.size w10 v10 L := ⟨_, by simp, ho10x⟩; clear ho10x; obtain ⟨a10, c10, rfl⟩ := ho10.shapeN (ls.length + 1) hL10; have hr10 := World.ownsRow.kept (World.ownsRow.alloc HrB.out (.cells #[.int .i64 (xA : Int), .int .i64 (xB : Int)] 85)) hg10 (.inr fun e => Hfar0.out G e.symm rfl); have Hr10 := hide hr10; have q10 := (Hcell.out w10 hr10).1; have f10 := (Hcell.out w10 hr10).2.1; clear hr10)
            | (go_simp; go_at_call 67; refine (l1Below_any w0 _ g cv code _ hcA hl (by omega) (by omega)).mono ?_; rintro e wB ⟨xB, rfl, -, -, hcB, hgB⟩; have HrB := hide (World.ownsRow.kept HrA.out hgB (.inr (by simp [Value.ownBlock]; omega))); have qB := (Hcell.out wB HrB.out).1; have hGB := (Hcell.out wB HrB.out).2.2; have hsB := hgB.size)
            | (go_simp; go_at_call 67; refine (l1Below_any w0 _ g cv code _ Hc.out.drew hl (by omega) (by omega)).mono ?_; rintro e wA ⟨xA, rfl, -, -, hcA, hgA⟩; have HrA := hide (World.ownsRow.kept (row_below Hr2.out (below_drewN (Below.refl w2.heap.size w2) 1) (Nat.le_refl _)) hgA (.inr (by simp [Value.ownBlock]; omega))); have qA := (Hcell.out wA HrA.out).1; have hGA := (Hcell.out wA HrA.out).2.2; have hsA := hgA.size))
          all_goals
            have hn' : ((((nm, fr, no, st, L10) : Ac), Value.slice a10 (ls.length + 1) c10) :: Zt).length = n := by rw [← hn]; rfl
            have hst := (Hr10.out.stored 4 (.slice a10 (ls.length + 1) c10)).1
            have hrow11 : RowA w.heap.size (w10.setCell ⟨G, 4, none⟩ (.slice a10 (ls.length + 1) c10)) (.slice (some ⟨G, 0, none⟩) n cap) ((((nm, fr, no, st, L10) : Ac), Value.slice a10 (ls.length + 1) c10) :: Zt) := by
              unfold RowA
              rw [hn']
              simpa [acC] using hst
            have hfar : ∀ k, (Value.slice a10 (ls.length + 1) c10).ownBlock = some k → k ≠ G := fun k hk => by
              rcases hloc10 with h | h
              · rw [h] at hk; exact Hfar0.out k hk
              · rw [h] at hk
                have : wB.heap.size + 1 = k := by simpa using hk
                omega
            have hLs : ∀ q ∈ ((((nm, fr, no, st, L10) : Ac), Value.slice a10 (ls.length + 1) c10) :: Zt), OwnL w.heap.size (w10.setCell ⟨G, 4, none⟩ (.slice a10 (ls.length + 1) c10)) q.2 q.1.2.2.2.2 := fun q hq => by
              rcases List.mem_cons.1 hq with rfl | hq
              · exact row_set ho10 G 4 _ hfar
              · obtain ⟨h1, h2, h3⟩ := HLt.out q hq
                exact row_set (OwnL.kept (OwnL.alloc (OwnL.notg (OwnL.notg (h1.below (below_drewN (Below.refl w2.heap.size w2) 1) (Nat.le_refl _)) hgA hgl) hgB hgl) _) hg10 h3) G 4 _ h2
            have hB11 : Below w.heap.size wB (w10.setCell ⟨G, 4, none⟩ (.slice a10 (ls.length + 1) c10)) := (((Below.refl w.heap.size wB).alloc (by omega) _).grown hg10 (by simp; omega) (fun j hj => HL0.out.ge j hj)).setCell (p := ⟨G, 4, none⟩) hGw _
            have Hrow11 := hide hrow11
            have HLs := hide hLs
            have Hc11 := hide (hcB.below hB11 hgl)
            have Hg11 := hide (grw_below (grw_trans (grw_trans (grw_drewN Hg.out 1) hgA) hgB) hB11 (Nat.le_refl _))
            clear hst hrow11 hLs hB11 hfar hcB hgB hcA hgA hg10 ho10 hloc10 q10 f10 Hr10
            go_wp2
            go_ret
            refine ⟨.slice (some ⟨G, 0, none⟩) n cap, (((nm, fr, no, st, L10) : Ac), Value.slice a10 (ls.length + 1) c10) :: Zt, rfl, ⟨⟨G, cap, by rw [hn']⟩, Hrow11.out, HLs.out⟩, ⟨by rw [hn']; have := hSm.1; omega, fun q hq => ?_⟩, Hc11.out, Hg11.out⟩
            rcases List.mem_cons.1 hq with rfl | hq
            · have h3 := Hl3.out
              exact ⟨hls.1, (show L10.length ≤ 4 by omega)⟩
            · exact hSm.2 q (List.mem_cons_of_mem _ hq)
      · have e0 : ((x : Int) == 0) = false := by rw [beq_eq_false_iff_ne]; omega
        have e1 : ((x : Int) == 1) = false := by rw [beq_eq_false_iff_ne]; omega
        have e2 : ((x : Int) == 2) = false := by rw [beq_eq_false_iff_ne]; omega
        clear hx0 hx1 hx2
        have HD := hide (DrA.of hrow2 hlv2)
        have Hg := hide hg2'
        have Hc := hide hc2
        clear hrow2 hlv2 hg2' hc2
        go_wp2
        go_ret
        exact ⟨_, Z, rfl, HD.out, hSm, Hc.out, Hg.out⟩
end Go.Proofs.YtocaednkhcjkcaaGreatDoor

namespace Go.Proofs.YtocaednkhcjkcaaGreatDoor
open Go.RowKit
set_option linter.unusedVariables false

/-- A ledger that is drawn: its accounts few and small; the cursor goes on. -/
def LDrawn (w0 w : World) (g : Nat) (cv : Value) (code : List UInt8) (en : Ending) (w' : World) : Prop := ∃ (e : Int) (v : Value) (Z : List (Ac × Value)), en = .returned (lgV e v) ∧ DrA w.heap.size w' v Z ∧ SmallZ Z ∧ Cur w0 w' g cv code ∧ w.grownBy w' (some g)
theorem DrA.mono {base base' : Nat} {w : World} {v : Value} {Z : List (Ac × Value)} (h : DrA base w v Z) (hB : base' ≤ base) : DrA base' w v Z := by
  refine ⟨h.1, ⟨h.2.1.1, ?_⟩, fun q hq => (h.2.2 q hq).mono hB⟩
  rcases h.2.1.2 with h' | ⟨g', cap', cur, hv, hbb, r⟩
  · exact .inl h'
  · exact .inr ⟨g', cap', cur, hv, by omega, r⟩
theorem DrA.other {base : Nat} {w : World} {v : Value} {Z : List (Ac × Value)} (h : DrA base w v Z) (b j : Nat) (u : Value) (h1 : ∀ r, v.ownBlock = some r → r ≠ b) (h2 : ∀ q ∈ Z, ∀ r, q.2.ownBlock = some r → r ≠ b) : DrA base (w.setCell ⟨b, j, none⟩ u) v Z :=
  ⟨h.1, row_set h.2.1 b j u h1, fun q hq => row_set (h.2.2 q hq) b j u (h2 q hq)⟩
set_option maxRecDepth 20000 in
set_option maxHeartbeats 1000000 in
theorem l6Draw_any (w0 w : World) (g : Nat) (cv : Value) (code : List UInt8) (hc : Cur w0 w g cv code) (hl : code.length ≤ 1048576) :
    Calls Tryz.prog 66 #[.pointer (some ⟨g, 0, none⟩)] w fun en w' => LDrawn w0 w g cv code en w' := by
  have hgl := hc.lt
  obtain ⟨w1, hw1⟩ : ∃ w1, w.alloc (.cells #[.int .i64 0, .slice none 0 0] 26) = w1 := ⟨_, rfl⟩
  have b1 : Below w.heap.size w w1 := by rw [← hw1]; exact (Below.refl _ w).alloc (Nat.le_refl _) _
  have k1 : Blk w1 w.heap.size 26 [.int .i64 0, .slice none 0 0] := by rw [← hw1]; exact Blk.new w _ _
  have s1 : w1.heap.size = w.heap.size + 1 := by rw [← hw1]; simp
  have hc1 := hc.below b1 hgl
  have Hc := hide hc1
  clear hc hc1
  go_enter Tryz.func66, Tryz.ntmps66
  go_wp2_with fail
  refine (l1Below_any w0 w1 g cv code 3 Hc.out hl (by omega) (by omega)).mono ?_
  rintro en w2 ⟨x, rfl, -, -, hc2, hg2⟩
  have z2 := hg2.size
  have k2 := k1.notg hg2 (by omega)
  have Hc2 := hide hc2
  clear hc2 Hc k1
  go_wp2_with fail
  refine (l4Draw_any w0 w2 g cv code Hc2.out hl).mono ?_
  rintro en w3 ⟨G, cap, Z, rfl, hrow, hlv, hZ5, hZs, hc3, hg3⟩
  have z3 := hg3.size
  have k3 := k2.notg hg3 (by omega)
  have r0 := k3.cell 0
  have r1 := k3.cell 1
  have g0 := k3.frozen 0
  have g1 := k3.frozen 1
  simp only [List.getElem?_cons_zero, List.getElem?_cons_succ] at r0 r1
  have HD := hide (DrA.of hrow hlv)
  have HC3 := hide hc3
  have HG := hide (grownS_trans hg2 hg3)
  have HS : Hid (SmallZ Z) := hide ⟨by omega, fun q hq => ⟨(hZs q hq).1, by have := (hZs q hq).2; omega⟩⟩
  have hgg : ∀ j, (Value.slice (some ⟨G, 0, none⟩) Z.length cap).ownBlock = some j → w2.heap.size ≤ j := fun j hj => hrow.ge j hj
  clear hrow hlv hc3 hg2 hg3 k2 k3 hZs
  go_wp2
  refine bodyPost_ret (v := .agg #[.int .i64 (x : Int), .slice (some ⟨G, 0, none⟩) Z.length cap]) (by simp [results, Tryz.f66, go_sem, r0, r1]) rfl ?_
  refine ⟨x, .slice (some ⟨G, 0, none⟩) Z.length cap, Z, rfl, ?_, HS.out, ?_, ?_⟩
  · exact ((HD.out.notg (grown_set w3 w.heap.size 0 _) (by omega)).notg (grown_set _ w.heap.size 1 _) (by omega)).mono (by omega)
  · exact HC3.out.below (((Below.refl w.heap.size w3).setCell (p := ⟨w.heap.size, 0, none⟩) (Nat.le_refl _) _).setCell (p := ⟨w.heap.size, 1, none⟩) (Nat.le_refl _) _) hgl
  · exact grw_below (grw_trans (grw_of_below (some g) b1 (Nat.le_refl _)) HG.out) (((Below.refl w.heap.size w3).setCell (p := ⟨w.heap.size, 0, none⟩) (Nat.le_refl _) _).setCell (p := ⟨w.heap.size, 1, none⟩) (Nat.le_refl _) _) (Nat.le_refl _)
set_option maxRecDepth 20000 in
set_option maxHeartbeats 1000000 in
theorem l6Any_any (w0 w : World) (g : Nat) (cv : Value) (code : List UInt8) (hc : Cur w0 w g cv code) (hl : code.length ≤ 1048576) :
    Calls Tryz.prog 34 #[.pointer (some ⟨g, 0, none⟩)] w fun en w' => LDrawn w0 w g cv code en w' := by
  have hgl := hc.lt
  obtain ⟨w1, hw1⟩ : ∃ w1, w.alloc (.cells #[.int .i64 0, .slice none 0 0] 26) = w1 := ⟨_, rfl⟩
  have b1 : Below w.heap.size w w1 := by rw [← hw1]; exact (Below.refl _ w).alloc (Nat.le_refl _) _
  have k1 : Blk w1 w.heap.size 26 [.int .i64 0, .slice none 0 0] := by rw [← hw1]; exact Blk.new w _ _
  have s1 : w1.heap.size = w.heap.size + 1 := by rw [← hw1]; simp
  have hc1 := hc.below b1 hgl
  have Hc := hide hc1
  clear hc hc1
  go_enter Tryz.func34, Tryz.ntmps34
  go_wp2_with fail
  refine (l6Draw_any w0 w1 g cv code Hc.out hl).mono ?_
  rintro en w2 ⟨e, v, Z, rfl, hd2, hs2, hc2, hg2⟩
  unfold lgV
  have z2 := hg2.size
  have k2 := k1.notg hg2 (by omega)
  obtain ⟨⟨G, cap, rfl⟩, -⟩ := id hd2
  obtain ⟨w3, hw3⟩ : ∃ w3, w2.alloc (.cells #[.int .i64 e, .slice (some ⟨G, 0, none⟩) Z.length cap] 26) = w3 := ⟨_, rfl⟩
  have b3 : Below w2.heap.size w2 w3 := by rw [← hw3]; exact (Below.refl _ w2).alloc (Nat.le_refl _) _
  have kL : Blk w3 w2.heap.size 26 [.int .i64 e, .slice (some ⟨G, 0, none⟩) Z.length cap] := by rw [← hw3]; exact Blk.new w2 _ _
  have s3 : w3.heap.size = w2.heap.size + 1 := by rw [← hw3]; simp
  have hfa : (∀ r, (Value.slice (some ⟨G, 0, none⟩) Z.length cap).ownBlock = some r → r ≠ w2.heap.size) ∧ ∀ q ∈ Z, ∀ r, q.2.ownBlock = some r → r ≠ w2.heap.size := ⟨fun r hr => by have := (World.ownsRow.lt hd2.2.1 r hr).2; omega, fun q hq r hr => by have := (hd2.2.2 q hq).lt r hr; omega⟩
  have k3 := k2.below b3 k2.lt
  have hd3 := hd2.below b3 (Nat.le_refl _)
  have hc3 := hc2.below b3 (by have := hc2.lt; omega)
  have HG3 := hide (grw_below (grw_trans (grw_of_below (some g) b1 (Nat.le_refl _)) hg2) b3 (by omega))
  have Hc3 := hide hc3
  clear hc2 hc3 Hc k1 k2 hd2 hg2
  go_wp2_with fail
  refine (l1Below_any w0 w3 g cv code 10 Hc3.out hl (by omega) (by omega)).mono ?_
  rintro en w4 ⟨x, rfl, hx, -, hc4, hg4⟩
  have hx10 : x < 10 := by have := hx (by omega); omega
  have z4 := hg4.size
  have k4 := k3.notg hg4 (by omega)
  have kL4 := kL.notg hg4 (by omega)
  have hd4 := hd3.notg hg4 (by omega)
  have HG4 := hide (grw_trans HG3.out hg4)
  have Hc4 := hide hc4
  clear hc4 k3 kL hd3 hg4 hx
  by_cases hx0 : x = 0
  · subst hx0
    obtain ⟨w5, hw5⟩ : ∃ w5, w4.alloc (.cells #[.int .i64 (-1), .int .i64 900, .int .i64 901] 3) = w5 := ⟨_, rfl⟩
    have b5 : Below w4.heap.size w4 w5 := by rw [← hw5]; exact (Below.refl _ w4).alloc (Nat.le_refl _) _
    have hI5 : IntsAt w5 w4.heap.size [-1, 900, 901] := by rw [← hw5]; exact ints_new w4 [-1, 900, 901] 3
    have hc5 := hide (Hc4.out.below b5 Hc4.out.lt)
    go_wp2_with fail
    refine (l1Int_any w0 _ g w4.heap.size cv code [-1, 900, 901] hc5.out hl hI5 (by have := Hc4.out.lt; omega) (by simp) (by simp) 3).mono ?_
    rintro en w6 ⟨E, rfl, -, hc6, hg6⟩
    have z5 := b5.size
    have z6 := hg6.size
    have k6 := (k4.below b5 k4.lt).notg hg6 (by omega)
    have kL6 := (kL4.below b5 kL4.lt).notg hg6 (by have := Hc4.out.lt; have := hgl; omega)
    have hd6 := (hd4.below b5 (Nat.le_refl _)).notg hg6 (by omega)
    have y0 := kL6.cell 0
    have y0f := kL6.frozen 0
    simp only [List.getElem?_cons_zero] at y0
    obtain ⟨w7, hw7⟩ : ∃ w7, w6.setCell ⟨w2.heap.size, 0, none⟩ (.int .i64 E) = w7 := ⟨_, rfl⟩
    have kL7 : Blk w7 w2.heap.size 26 [.int .i64 E, .slice (some ⟨G, 0, none⟩) Z.length cap] := by rw [← hw7]; exact kL6.set 0 _
    have k7 : Blk w7 w.heap.size 26 [.int .i64 0, .slice none 0 0] := by rw [← hw7]; exact k6.other _ _ _ (by omega)
    have hd7 : DrA w1.heap.size w7 (.slice (some ⟨G, 0, none⟩) Z.length cap) Z := by rw [← hw7]; exact hd6.other _ _ _ hfa.1 hfa.2
    have hc7 : Cur w0 w7 g cv code := by rw [← hw7]; exact hc6.below ((Below.refl w.heap.size w6).setCell (p := ⟨w2.heap.size, 0, none⟩) (show w.heap.size ≤ w2.heap.size by omega) _) hgl
    have hg7 : w.grownBy w7 (some g) := by rw [← hw7]; exact grw_below (grw_trans (grw_below HG4.out b5 (by omega)) hg6) ((Below.refl w.heap.size w6).setCell (p := ⟨w2.heap.size, 0, none⟩) (show w.heap.size ≤ w2.heap.size by omega) _) (Nat.le_refl _)
    have r0 := k7.cell 0
    have r1 := k7.cell 1
    have g0 := k7.frozen 0
    have g1 := k7.frozen 1
    have i0 := kL7.cell 0
    have i1 := kL7.cell 1
    simp only [List.getElem?_cons_zero, List.getElem?_cons_succ] at r0 r1 i0 i1
    have HDx := hide ((((hd7).notg (grown_set w7 w.heap.size 0 (.int .i64 E)) (by omega)).notg (grown_set _ w.heap.size 1 (.slice (some ⟨G, 0, none⟩) Z.length cap)) (by omega)).mono (show w.heap.size ≤ _ by omega))
    have HCx := hide ((hc7).below (((Below.refl w.heap.size w7).setCell (p := ⟨w.heap.size, 0, none⟩) (Nat.le_refl _) (.int .i64 E)).setCell (p := ⟨w.heap.size, 1, none⟩) (Nat.le_refl _) (.slice (some ⟨G, 0, none⟩) Z.length cap)) hgl)
    have HGx := hide (grw_below (hg7) (((Below.refl w.heap.size w7).setCell (p := ⟨w.heap.size, 0, none⟩) (Nat.le_refl _) (.int .i64 E)).setCell (p := ⟨w.heap.size, 1, none⟩) (Nat.le_refl _) (.slice (some ⟨G, 0, none⟩) Z.length cap)) (Nat.le_refl _))
    clear k7 kL7 hd7 hc7 hg7 k6 kL6 hd6 hc6 hg6 k4 kL4 hd4 hI5
    go_wp2
    refine bodyPost_ret (v := .agg #[.int .i64 E, .slice (some ⟨G, 0, none⟩) Z.length cap]) (by simp [results, Tryz.f34, go_sem, r0, r1]) rfl ?_
    exact ⟨E, .slice (some ⟨G, 0, none⟩) Z.length cap, Z, rfl, HDx.out, hs2, HCx.out, HGx.out⟩
  · by_cases hx1 : x = 1
    · subst hx1
      go_wp2_with fail
      refine (l4Any_any w0 w4 g cv code Hc4.out hl).mono ?_
      rintro en w5 ⟨v5, Y, rfl, hd5, hs5, hc5, hg5⟩
      have z5 := hg5.size
      have k5 := k4.notg hg5 (by omega)
      have kL5 := kL4.notg hg5 (by omega)
      obtain ⟨⟨G', cap', rfl⟩, -⟩ := id hd5
      have y1 := kL5.cell 1
      have y1f := kL5.frozen 1
      simp only [List.getElem?_cons_zero, List.getElem?_cons_succ] at y1
      obtain ⟨w6, hw6⟩ : ∃ w6, w5.setCell ⟨w2.heap.size, 1, none⟩ (.slice (some ⟨G', 0, none⟩) Y.length cap') = w6 := ⟨_, rfl⟩
      have kL6 : Blk w6 w2.heap.size 26 [.int .i64 e, .slice (some ⟨G', 0, none⟩) Y.length cap'] := by rw [← hw6]; exact kL5.set 1 _
      have k6 : Blk w6 w.heap.size 26 [.int .i64 0, .slice none 0 0] := by rw [← hw6]; exact k5.other _ _ _ (by omega)
      have hd6 : DrA w4.heap.size w6 (.slice (some ⟨G', 0, none⟩) Y.length cap') Y := by rw [← hw6]; exact hd5.notg (grown_set _ _ _ _) (by omega)
      have hc6 : Cur w0 w6 g cv code := by rw [← hw6]; exact hc5.below ((Below.refl w.heap.size w5).setCell (p := ⟨w2.heap.size, 1, none⟩) (show w.heap.size ≤ w2.heap.size by omega) _) hgl
      have hg6 : w.grownBy w6 (some g) := by rw [← hw6]; exact grw_below (grw_trans HG4.out hg5) ((Below.refl w.heap.size w5).setCell (p := ⟨w2.heap.size, 1, none⟩) (show w.heap.size ≤ w2.heap.size by omega) _) (Nat.le_refl _)
      have r0 := k6.cell 0
      have r1 := k6.cell 1
      have g0 := k6.frozen 0
      have g1 := k6.frozen 1
      have i0 := kL6.cell 0
      have i1 := kL6.cell 1
      simp only [List.getElem?_cons_zero, List.getElem?_cons_succ] at r0 r1 i0 i1
      have HDx := hide ((((hd6).notg (grown_set w6 w.heap.size 0 (.int .i64 e)) (by omega)).notg (grown_set _ w.heap.size 1 (.slice (some ⟨G', 0, none⟩) Y.length cap')) (by omega)).mono (show w.heap.size ≤ _ by omega))
      have HCx := hide ((hc6).below (((Below.refl w.heap.size w6).setCell (p := ⟨w.heap.size, 0, none⟩) (Nat.le_refl _) (.int .i64 e)).setCell (p := ⟨w.heap.size, 1, none⟩) (Nat.le_refl _) (.slice (some ⟨G', 0, none⟩) Y.length cap')) hgl)
      have HGx := hide (grw_below (hg6) (((Below.refl w.heap.size w6).setCell (p := ⟨w.heap.size, 0, none⟩) (Nat.le_refl _) (.int .i64 e)).setCell (p := ⟨w.heap.size, 1, none⟩) (Nat.le_refl _) (.slice (some ⟨G', 0, none⟩) Y.length cap')) (Nat.le_refl _))
      clear k6 kL6 hd6 hc6 hg6 k5 kL5 hd5 hc5 hg5 k4 kL4 hd4
      go_wp2
      refine bodyPost_ret (v := .agg #[.int .i64 e, .slice (some ⟨G', 0, none⟩) Y.length cap']) (by simp [results, Tryz.f34, go_sem, r0, r1]) rfl ?_
      exact ⟨e, .slice (some ⟨G', 0, none⟩) Y.length cap', Y, rfl, HDx.out, hs5, HCx.out, HGx.out⟩
    · have hq0 : ((x : Int) == 0) = false := by rw [beq_eq_false_iff_ne]; omega
      have hq1 : ((x : Int) == 1) = false := by rw [beq_eq_false_iff_ne]; omega
      clear hx0 hx1
      have r0 := k4.cell 0
      have r1 := k4.cell 1
      have g0 := k4.frozen 0
      have g1 := k4.frozen 1
      have i0 := kL4.cell 0
      have i1 := kL4.cell 1
      simp only [List.getElem?_cons_zero, List.getElem?_cons_succ] at r0 r1 i0 i1
      have HDx := hide ((((hd4).notg (grown_set w4 w.heap.size 0 (.int .i64 e)) (by omega)).notg (grown_set _ w.heap.size 1 (.slice (some ⟨G, 0, none⟩) Z.length cap)) (by omega)).mono (show w.heap.size ≤ _ by omega))
      have HCx := hide ((Hc4.out).below (((Below.refl w.heap.size w4).setCell (p := ⟨w.heap.size, 0, none⟩) (Nat.le_refl _) (.int .i64 e)).setCell (p := ⟨w.heap.size, 1, none⟩) (Nat.le_refl _) (.slice (some ⟨G, 0, none⟩) Z.length cap)) hgl)
      have HGx := hide (grw_below (HG4.out) (((Below.refl w.heap.size w4).setCell (p := ⟨w.heap.size, 0, none⟩) (Nat.le_refl _) (.int .i64 e)).setCell (p := ⟨w.heap.size, 1, none⟩) (Nat.le_refl _) (.slice (some ⟨G, 0, none⟩) Z.length cap)) (Nat.le_refl _))
      clear k4 kL4 hd4
      go_wp2
      refine bodyPost_ret (v := .agg #[.int .i64 e, .slice (some ⟨G, 0, none⟩) Z.length cap]) (by simp [results, Tryz.f34, go_sem, r0, r1]) rfl ?_
      exact ⟨e, .slice (some ⟨G, 0, none⟩) Z.length cap, Z, rfl, HDx.out, hs2, HCx.out, HGx.out⟩
end Go.Proofs.YtocaednkhcjkcaaGreatDoor
