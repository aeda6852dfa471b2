/- Drawn accounts: one of a name. The model's AcctAt, l4Of and Wealth. Whether a number lies between two others: the model's helper. What is a name: the two functions NameOk (the program's and the model's) answer alike at every text. The model's AcctOk. -/
import Derived.Test.YtdelegamcebflaaDoorJoin3
import Derived.Test.YtdelegamcebflaaDoorAcApp
import Derived.Deep.RegionLaw
import Derived.Test.YtdelegamcebflaaDoorJoin4
import Derived.Test.YtdelegamcebflaaDoorMem
namespace Go.Proofs.YtdelegamcebflaaDoor
open Go.RowKit
set_option linter.unusedVariables false

theorem step_appL {ops : Array Oper} {o : Oper} {a : Act} {w : World} {K : Act → World → Prop} {Q : Exit → Act → World → Prop} {E : Prop} (hgd : o.guard = none) (s x : Operand)
    (ho : o.op = .call { callee := .builtin .append, args := #[s, x], argTypes := #[31, 31] })
    (base : Nat) (v : Value) (B : Nat) (l : List (Int × Int)) (p : Int × Int) (hs : a.eval s = v) (hx : a.eval x = .slice (some ⟨B, 0, none⟩) 1 1) (hown : OwnL base w v l) (hblk : Blk w B 37 (lvC p))
    (hlen : l.length ≤ 100000000) (hbase : base ≤ w.heap.size)
    (h : ∀ v' w', OwnL base w' v' (l ++ [p]) → w.grownBy w' v.ownBlock → K (a.put o.dst v') w') : if Region.wanted o (yielded ops a.tmps) = true then Oper.wp Tryd.prog o a w K Q else E := by
  have hw : Region.wanted o (yielded ops a.tmps) = true := by simp [Region.wanted, hgd]
  rw [if_pos hw]
  obtain ⟨i0, hi, hz0, hz1, hz2⟩ := info_parts Tryd.infoLv
  refine wp_append_own w s x 31 ho base 37 i0 (.agg #[.int .i64 0, .int .i64 0]) 2 16 Tryd.underlying31 hi hz0 hz1 hz2 rfl (by decide) v l.length (l.map lvC).flatten hs hown ⟨B, 0, none⟩ 1 1 (lvC p) hx rfl ?_ ?_ (by unfold maxLen; omega) (by omega) hbase ?_
  · intro j u hj
    rw [add_flat, Nat.zero_add, hblk.cell j]
    exact hj
  · intro u hu
    simp only [lvC, List.mem_cons, List.not_mem_nil, or_false] at hu
    rcases hu with rfl | rfl <;> rfl
  · intro v' w' ho' hg _
    exact h v' w' (by unfold OwnL; rw [List.length_append, List.map_append, List.flatten_append]; simpa using ho') hg
theorem OwnL.notg {base : Nat} {w w' : World} {v : Value} {l : List (Int × Int)} {g : Nat} (h : OwnL base w v l) (hg : w.grownBy w' (some g)) (hb : g < base) : OwnL base w' v l :=
  h.kept hg (.inr fun e => by have := h.ge g e; omega)
theorem Blk.notg {w w' : World} {B g : Nat} {t : TypeId} {cs : List Value} (h : Blk w B t cs) (hg : w.grownBy w' (some g)) (hne : B ≠ g) : Blk w' B t cs :=
  (hg.block B h.lt (fun e => hne (by injection e))).trans h
theorem Blk.setD {w : World} {B : Nat} {t : TypeId} {cs : List Value} (h : Blk w B t cs) (j : Nat) (u : Value) (hj : j < cs.length) : Blk (w.setCell ⟨B, j, none⟩ u) B t (cs.set j u) := by
  have e := heap_setCell_same w B j cs.toArray t u h
  unfold Blk
  rw [e]
  simp
theorem Blk.setOther {w : World} {B b : Nat} {t : TypeId} {cs : List Value} (h : Blk w B t cs) (j : Nat) (u : Value) (hne : B ≠ b) : Blk (w.setCell ⟨b, j, none⟩ u) B t cs :=
  h.notg (grown_set w b j u) hne

theorem Blk.grown {w w' : World} {B : Nat} {t : TypeId} {cs : List Value} {row : Option Nat} (h : Blk w B t cs) (hg : w.grownBy w' row) (hne : row ≠ some B) : Blk w' B t cs := (hg.block B h.lt (fun e => hne e.symm)).trans h
theorem Blk.allocD {w : World} {B : Nat} {t : TypeId} {cs : List Value} (h : Blk w B t cs) (o : Obj) : Blk (w.alloc o) B t cs := h.below ((Below.refl _ w).alloc (Nat.le_refl _) o) h.lt
theorem Blk.drew {w : World} {B : Nat} {t : TypeId} {cs : List Value} (h : Blk w B t cs) : Blk w.drew B t cs := h
theorem OwnL.shapeN {base : Nat} {w : World} {v : Value} {l : List (Int × Int)} (h : OwnL base w v l) (n : Nat) (hn : l.length = n) : ∃ a c, v = .slice a n c := by
  obtain ⟨a, c, e⟩ := h.rd.shape
  exact ⟨a, c, by rw [e, hn]⟩
set_option maxRecDepth 20000 in
set_option maxHeartbeats 2000000 in
theorem l4Acct_any (w0 w : World) (g : Nat) (cv : Value) (code : List UInt8) (s : ByteArray) (hc : Cur w0 w g cv code) (hl : code.length ≤ 1048576) :
    Calls Tryd.prog 44 #[.pointer (some ⟨g, 0, none⟩), .string s] w fun e w' => ∃ (a : Ac) (lv : Value), e = .returned (acV a lv) ∧ a.1 = s ∧ a.2.2.2.2.length ≤ 3 ∧ OwnL w.heap.size w' lv a.2.2.2.2 ∧ Cur w0 w' g cv code ∧ w.grownBy w' (some g) := by
  have hgl := hc.lt
  obtain ⟨w1, hw1⟩ : ∃ w1, w.alloc (.cells #[.string { data := #[] }, .int .i64 0, .int .i64 0, .int .i64 0, .slice none 0 0] 33) = w1 := ⟨_, rfl⟩
  have hs1 : w1.heap.size = w.heap.size + 1 := by rw [← hw1]; simp
  have hb1 : Below w.heap.size w w1 := by rw [← hw1]; exact (Below.refl _ w).alloc (Nat.le_refl _) _
  have k1 : Blk w1 w.heap.size 33 acZ := by rw [← hw1]; exact Blk.new w _ _
  obtain ⟨w2, hw2⟩ : ∃ w2, w1.alloc (.cells #[.int .i64 0, .int .i64 10, .int .i64 100, .int .i64 5] 3) = w2 := ⟨_, rfl⟩
  have hs2 : w2.heap.size = w.heap.size + 2 := by rw [← hw2]; simp; omega
  have hb2 : Below w1.heap.size w1 w2 := by rw [← hw2]; exact (Below.refl _ w1).alloc (Nat.le_refl _) _
  have HI2 : Hid (IntsAt w2 (w.heap.size + 1) [0, 10, 100, 5]) := hide (by rw [← hw2, ← hs1]; exact ints_new w1 [0, 10, 100, 5] 3)
  have Hc2 := hide ((hc.below hb1 hgl).below hb2 (by omega))
  have K2 := hide (k1.below hb2 (by omega))
  have HG2 := hide (grw_of_below (some g) (hb1.trans (hb2.mono (by omega))) (Nat.le_refl _))
  clear hc k1 hb1 hb2
  go_enter Tryd.func44, Tryd.ntmps44
  go_wp2_with fail
  refine (l1Int_any w0 _ g (w.heap.size + 1) cv code [0, 10, 100, 5] Hc2.out hl HI2.out (by omega) (by simp) (by simp) 4).mono ?_
  rintro e w3 ⟨fr, rfl, -, hc3, hg3⟩
  have K3 := hide (K2.out.notg hg3 (by omega))
  have HG3 := hide (grw_trans HG2.out hg3)
  have hs3 := hg3.size
  clear hg3 HI2 Hc2 K2 HG2
  go_wp2_with fail
  refine (l1Below_any _ _ _ _ _ _ hc3 hl (by omega) (by omega)).mono ?_
  rintro e w4 ⟨no, rfl, -, -, hc4, hg4⟩
  have K4 := hide (K3.out.notg hg4 (by omega))
  have HG4 := hide (grw_trans HG3.out hg4)
  have hs4 := hg4.size
  obtain ⟨w5, hw5⟩ : ∃ w5, w4.alloc (.cells #[.int .i64 10, .int .i64 10, .int .i64 0, .int .i64 4, .int .i64 5, .int .i64 30] 3) = w5 := ⟨_, rfl⟩
  have hb5 : Below w4.heap.size w4 w5 := by rw [← hw5]; exact (Below.refl _ w4).alloc (Nat.le_refl _) _
  have hs5 : w5.heap.size = w4.heap.size + 1 := by rw [← hw5]; simp
  have HI5 : Hid (IntsAt w5 w4.heap.size [10, 10, 0, 4, 5, 30]) := hide (by rw [← hw5]; exact ints_new w4 [10, 10, 0, 4, 5, 30] 3)
  have Hc5 := hide (hc4.below hb5 (by omega))
  have K5 := hide (K4.out.below hb5 (by omega))
  have HG5 := hide (grw_trans HG4.out (grw_of_below (some g) hb5 (Nat.le_refl _)))
  clear hg4 hc3 hc4 K3 K4 HG3 HG4 hb5
  go_wp2_with fail
  refine (l1Int_any w0 _ g w4.heap.size cv code [10, 10, 0, 4, 5, 30] Hc5.out hl HI5.out (by omega) (by simp) (by simp) 6).mono ?_
  rintro e w6 ⟨st, rfl, -, hc6, hg6⟩
  have hs6 := hg6.size
  go_wp2
  obtain ⟨w7, hw7⟩ : ∃ w7, w6.alloc (.cells #[.string s, .int .i64 fr, .int .i64 (no : Int), .int .i64 st, .slice none 0 0] 33) = w7 := ⟨_, rfl⟩
  rw [hw7]
  have hb7 : Below w6.heap.size w6 w7 := by rw [← hw7]; exact (Below.refl _ w6).alloc (Nat.le_refl _) _
  have hs7 : w7.heap.size = w6.heap.size + 1 := by rw [← hw7]; simp
  have KA7 : Hid (Blk w7 w6.heap.size 33 [.string s, .int .i64 fr, .int .i64 (no : Int), .int .i64 st, .slice none 0 0]) := hide (by rw [← hw7]; exact Blk.new w6 _ _)
  have K7 := hide ((K5.out.notg hg6 (by omega)).below hb7 (by omega))
  have HG7 := hide (grw_trans (grw_trans HG5.out hg6) (grw_of_below (some g) hb7 (Nat.le_refl _)))
  have Hc7 := hide (hc6.below hb7 (by omega))
  clear hg6 hc6 K5 HG5 HI5 Hc5 hb7
  go_loopw [6] (fun iv wr => ∃ (k : Nat) (a' : Option Addr) (c' : Nat) (ls : List (Int × Int)), k ≤ 3 ∧ iv = .int .i64 (k : Int) ∧ ls.length ≤ k ∧ Blk wr w6.heap.size 33 [.string s, .int .i64 fr, .int .i64 (no : Int), .int .i64 st, .slice a' ls.length c'] ∧ OwnL (w6.heap.size + 1) wr (.slice a' ls.length c') ls ∧ Blk wr w.heap.size 33 acZ ∧ Cur w0 wr g cv code ∧ w.grownBy wr (some g)) (fun iv _ => 3 - (intOf iv).toNat)
  case atStart => exact ⟨0, none, 0, [], Nat.zero_le _, rfl, Nat.le_refl _, KA7.out, own_noneL _ _, K7.out, Hc7.out, HG7.out⟩
  case round =>
    obtain ⟨k, a', c', ls, hk, rfl, hll, hkA, hoL, hkR, hcr, hgr⟩ := hrel
    clear KA7 K7 Hc7 HG7
    have HkA := hide hkA
    have HoL := hide hoL
    have HkR := hide hkR
    have Hcr := hide hcr
    have Hgr := hide hgr
    have hAl := hkA.lt
    clear hkA hoL hkR hcr hgr
    by_cases hlt : k < 3
    · go_wp2_with fail
      refine (l1Once_any _ _ _ _ _ _ Hcr.out hl (by omega) (by omega)).mono ?_
      rintro e w8 ⟨bb, rfl, hc8, hg8⟩
      have hkA8 := HkA.out.notg hg8 (by omega)
      have hkR8 := HkR.out.notg hg8 (by omega)
      have hoL8 := HoL.out.notg hg8 (by omega)
      have hgr8 := grw_trans Hgr.out hg8
      have hs8 := hg8.size
      clear hg8 HkA HkR HoL Hgr Hcr
      cases bb
      · have HkA := hide hkA8
        have HkR := hide hkR8
        have HoL := hide hoL8
        have Hgr := hide hgr8
        have Hcr := hide hc8
        clear hkA8 hkR8 hoL8 hgr8 hc8
        go_wp2
        go_roundw
        case rel => exact ⟨k + 1, a', c', ls, by omega, by go_num, by omega, HkA.out, HoL.out, HkR.out, Hcr.out, Hgr.out⟩
        case measure => simp [intOf]; omega
      · have HoLd := hide (hoL8.below (below_drewN (Below.refl w8.heap.size w8) 1) (Nat.le_refl _))
        have e4 := hkA8.cell 4
        have f4 := hkA8.frozen 4
        simp only [List.getElem?_cons_zero, List.getElem?_cons_succ] at e4
        have HkA := hide hkA8
        have HkR := hide hkR8
        have HoL := hide hoL8
        have Hgr := hide hgr8
        have Hcr := hide hc8
        clear hkA8 hkR8 hoL8 hgr8 hc8
        go_wp2_with fail
        go_region_law (first
          | (refine step_appL rfl _ _ rfl (w6.heap.size + 1) (.slice a' ls.length c') _ ls (_, _) rfl rfl (OwnL.alloc (OwnL.notg HoLd.out hg9 (by omega)) _) (Blk.new' _ _ (lvC (_, _)) _ (by simp)) (by omega) (by have := hg9.size; simp at this ⊢; omega) ?_; intro v10 w10 ho10x hg10; obtain ⟨L10, hL10, ho10⟩ : ∃ L : List (Int × Int), L.length = ls.length + 1 ∧ OwnL (w6.heap.size + 1) w10 v10 L := ⟨_, by simp, ho10x⟩; clear ho10x; obtain ⟨a10, c10, rfl⟩ := ho10.shapeN (ls.length + 1) hL10; have kA10 := hide (Blk.grown (Blk.allocD (Blk.notg (Blk.drew HkA.out) hg9 (by omega)) _) hg10 (fun e => by have := HoL.out.ge _ e; omega)); have q4 := kA10.out.cell 4; have g4 := kA10.out.frozen 4; simp only [List.getElem?_cons_zero, List.getElem?_cons_succ] at q4)
          | (go_simp; go_at_call 28; refine (l1Below_any w0 _ g cv code 9 (by first | exact Hcr.out.drew | exact Hcr.out) hl (by omega) (by omega)).mono ?_; rintro e w9 ⟨x9, rfl, hx9, -, hc9, hg9⟩; have hx9' : x9 < 9 := (by have := hx9 (by omega); omega); have k9 := hide (Blk.notg (Blk.drew HkA.out) hg9 (by omega)); have q9 := k9.out.cell 4; simp only [List.getElem?_cons_zero, List.getElem?_cons_succ] at q9; have hA9 := k9.out.lt))
        all_goals
          have hA9 : w6.heap.size < w9.heap.size := (Blk.notg (Blk.drew HkA.out) hg9 (by omega)).lt
          have hb11 : Below w6.heap.size w9 (w10.setCell ⟨w6.heap.size, 4, none⟩ (.slice a10 (ls.length + 1) c10)) := (((Below.refl w6.heap.size w9).alloc (by omega) _).grown hg10 (by simp; omega) (fun j hj => by have := HoL.out.ge j hj; omega)).setCell (p := ⟨w6.heap.size, 4, none⟩) (Nat.le_refl _) _
          have HkA11 := hide (kA10.out.setD 4 (.slice a10 (ls.length + 1) c10) (by simp))
          have HoL11 := hide (row_set ho10 w6.heap.size 4 (.slice a10 (ls.length + 1) c10) (fun j hj => by have := OwnL.ge ho10 j hj; omega))
          have HkR11 := hide ((HkR.out.drew.notg hg9 (by omega)).below hb11 (by omega))
          have Hc11 := hide (hc9.below hb11 (by omega))
          have Hgr11 := hide (grw_below (grw_trans (grw_drewN Hgr.out 1) hg9) hb11 (by omega))
          clear hb11 ho10 kA10 hg10 hg9 hc9 q4 g4
          go_wp2
          go_roundw
          case rel => exact ⟨k + 1, a10, c10, L10, by omega, by go_num, by omega, by rw [hL10]; exact HkA11.out, by rw [hL10]; exact HoL11.out, HkR11.out, Hc11.out, Hgr11.out⟩
          case measure => simp [intOf]; omega
    · have c0 := HkA.out.cell 0
      have c1 := HkA.out.cell 1
      have c2 := HkA.out.cell 2
      have c3 := HkA.out.cell 3
      have c4 := HkA.out.cell 4
      have d0 := HkR.out.cell 0
      have d1 := HkR.out.cell 1
      have d2 := HkR.out.cell 2
      have d3 := HkR.out.cell 3
      have d4 := HkR.out.cell 4
      have f0 := HkR.out.frozen 0
      have f1 := HkR.out.frozen 1
      have f2 := HkR.out.frozen 2
      have f3 := HkR.out.frozen 3
      have f4 := HkR.out.frozen 4
      simp only [acZ, List.getElem?_cons_zero, List.getElem?_cons_succ] at c0 c1 c2 c3 c4 d0 d1 d2 d3 d4
      have hRl := HkR.out.lt
      have hne : w.heap.size < w6.heap.size := by omega
      go_wp2
      refine bodyPost_ret (v := .agg #[.string s, .int .i64 fr, .int .i64 (no : Int), .int .i64 st, .slice a' ls.length c']) (by simp [results, Tryd.f44, go_sem, d0, d1, d2, d3, d4]) rfl ?_
      have n1 : ∀ j, (Value.slice a' ls.length c').ownBlock = some j → j ≠ w.heap.size := fun j hj => by have := HoL.out.ge j hj; omega
      have hbR : Below w.heap.size wr (((((wr.setCell ⟨w.heap.size, 0, none⟩ (.string s)).setCell ⟨w.heap.size, 1, none⟩ (.int .i64 fr)).setCell ⟨w.heap.size, 2, none⟩ (.int .i64 (no : Int))).setCell ⟨w.heap.size, 3, none⟩ (.int .i64 st)).setCell ⟨w.heap.size, 4, none⟩ (.slice a' ls.length c')) :=
        (((((Below.refl _ wr).setCell (p := ⟨w.heap.size, 0, none⟩) (Nat.le_refl _) _).setCell (p := ⟨w.heap.size, 1, none⟩) (Nat.le_refl _) _).setCell (p := ⟨w.heap.size, 2, none⟩) (Nat.le_refl _) _).setCell (p := ⟨w.heap.size, 3, none⟩) (Nat.le_refl _) _).setCell (p := ⟨w.heap.size, 4, none⟩) (Nat.le_refl _) _
      refine ⟨(s, fr, (no : Int), st, ls),   .slice a' ls.length c', rfl, rfl, (show ls.length ≤ 3 by omega), ?_, Hcr.out.below hbR hgl, grw_below Hgr.out hbR (Nat.le_refl _)⟩
      exact row_set (row_set (row_set (row_set (row_set (HoL.out.mono (show w.heap.size ≤ w6.heap.size + 1 by omega)) _ _ _ n1) _ _ _ n1) _ _ _ n1) _ _ _ n1) _ _ _ n1
end Go.Proofs.YtdelegamcebflaaDoor

namespace Go.Proofs.YtdelegamcebflaaDoor
open Go.RowKit
set_option linter.unusedVariables false

def atF (s : ByteArray) : List Ac → Nat → Int
  | [], _ => -1
  | a :: l, n => if a.1 = s then (n : Int) else atF s l (n + 1)
/-- The place of a name; -1. -/
def atA (l : List Ac) (s : ByteArray) : Int := atF s l 0
theorem atF_found (s : ByteArray) : ∀ (l : List Ac) (n k : Nat) (h : k < l.length), l[k].1 = s → (∀ j (hj : j < k), (l[j]'(by omega)).1 ≠ s) → atF s l n = ((n + k : Nat) : Int)
  | [], n, k, h, _, _ => by simp at h
  | a :: l, n, k, h, he, hn => by
    cases k with
    | zero => rw [atF, if_pos (by simpa using he)]; simp
    | succ k =>
      have h0 : ¬ a.1 = s := hn 0 (by omega)
      rw [atF, if_neg h0, atF_found s l (n + 1) k (by simpa using h) (by simpa using he) (fun j hj => by have := hn (j + 1) (by omega); simpa using this)]
      omega
theorem atF_none (s : ByteArray) : ∀ (l : List Ac) (n : Nat), (∀ j (hj : j < l.length), l[j].1 ≠ s) → atF s l n = -1
  | [], n, _ => rfl
  | a :: l, n, hn => by
    have h0 : ¬ a.1 = s := hn 0 (by simp)
    rw [atF, if_neg h0]
    exact atF_none s l (n + 1) (fun j hj => by have := hn (j + 1) (by simpa using hj); simpa using this)

/-- All that an account has. -/
def ofA (a : Ac) : Int := (a.2.2.2.2).foldl (fun s p => wrap64 (s + p.1)) (wrap64 (a.2.1 + a.2.2.2.1))
def wealthA (l : List Ac) : Int := l.foldl (fun s a => wrap64 (s + ofA a)) 0

theorem fold_snoc {α β : Type} (f : β → α → β) (z : β) (l : List α) (k : Nat) (h : k < l.length) : (l.take (k + 1)).foldl f z = f ((l.take k).foldl f z) l[k] := by
  rw [List.take_succ_eq_append_getElem h, List.foldl_append]; rfl

set_option maxRecDepth 20000 in
set_option maxHeartbeats 1000000 in
theorem specOf_any (a : Ac) (lv : Value) (w : World) (hr : RdL w lv a.2.2.2.2) (hl : a.2.2.2.2.length ≤ 4000000) :
    Calls Tryd.prog 52 #[acV a lv] w fun e w' => e = .returned (.int .i64 (ofA a)) ∧ Below w.heap.size w w' := by
  obtain ⟨nm, fr, no, st, ls⟩ := a
  have HB := hide ((Below.refl _ w).alloc (Nat.le_refl _) (.cells #[.string nm, .int .i64 fr, .int .i64 no, .int .i64 st, lv] 33))
  have hk := Blk.new w 33 [.string nm, .int .i64 fr, .int .i64 no, .int .i64 st, lv]
  have Hr := hide (hr.below HB.out (Nat.le_refl _))
  obtain ⟨av, cv, rfl⟩ := hr.shape
  clear hr
  simp only [acV] at *
  obtain ⟨w0, hw0⟩ : ∃ w0, w.alloc (.cells #[.string nm, .int .i64 fr, .int .i64 no, .int .i64 st, .slice av ls.length cv] 33) = w0 := ⟨_, rfl⟩
  have hk' : Blk w0 w.heap.size 33 [.string nm, .int .i64 fr, .int .i64 no, .int .i64 st, .slice av ls.length cv] := by rw [← hw0]; exact hk
  have HB' : Hid (Below w.heap.size w w0) := hide (by rw [← hw0]; exact HB.out)
  have Hr' : Hid (RdL w0 (.slice av ls.length cv) ls) := hide (by rw [← hw0]; exact Hr.out)
  have hlt0 := hk'.lt
  have k1 := hk'.cell 1
  have k3 := hk'.cell 3
  simp only [List.getElem?_cons_zero, List.getElem?_cons_succ] at k1 k3
  clear hk HB Hr
  go_enter Tryd.func52, Tryd.ntmps52
  go_wp2
  clear k1 k3
  go_loopw [3, 4] (fun nv iv wr => ∃ k : Nat, k ≤ ls.length ∧ iv = .int .i64 k ∧ nv = .int .i64 ((ls.take k).foldl (fun s p => wrap64 (s + p.1)) (wrap64 (fr + st))) ∧ Below w0.heap.size w0 wr) (fun _ iv _ => ls.length - (intOf iv).toNat)
  case atStart => exact ⟨0, Nat.zero_le _, rfl, rfl, Below.refl _ _⟩
  case round =>
    obtain ⟨k, hkl, rfl, rfl, hb⟩ := hrel
    have hc := (hk'.below hb hlt0).cell 4
    simp only [List.getElem?_cons_zero, List.getElem?_cons_succ] at hc
    by_cases hlt : k < ls.length
    · have hrr := Hr'.out
      rcases hrr with ⟨_, _, _, e, _⟩ | ⟨b, off, cap, h0, hv, h1, h2, h3, h4⟩
      · subst e; simp at hlt
      injection hv with ha _ hcap
      subst ha hcap
      have hc1 := (hb.cell (p := ⟨b, off + k * 2, none⟩) h3).trans (h4 k hlt).1
      have hli : (k : Int) < (ls.length : Int) := by omega
      have Hf := hide (fold_snoc (fun s (p : Int × Int) => wrap64 (s + p.1)) (wrap64 (fr + st)) ls k hlt)
      clear h4
      generalize ls[k] = p at hc1 Hf
      obtain ⟨x, y⟩ := p
      simp only at hc1 Hf
      generalize (ls.take k).foldl (fun s (p : Int × Int) => wrap64 (s + p.1)) (wrap64 (fr + st)) = acc at Hf
      go_wp2
      go_roundw
      case rel => exact ⟨k + 1, by omega, by go_num, by rw [Hf.out], hb⟩
      case measure => simp [intOf]; omega
    · have Hf : Hid (ofA (nm, fr, no, st, ls) = (ls.take k).foldl (fun s p => wrap64 (s + p.1)) (wrap64 (fr + st))) := hide (by unfold ofA; rw [List.take_of_length_le (by omega)])
      generalize (ls.take k).foldl (fun s (p : Int × Int) => wrap64 (s + p.1)) (wrap64 (fr + st)) = acc at Hf
      go_wp2
      go_ret
      exact ⟨ret_int Hf.out.symm, HB'.out.trans (hb.mono HB'.out.size)⟩

set_option maxRecDepth 20000 in
set_option maxHeartbeats 1000000 in
theorem specWealth_any (v : Value) (l : List Ac) (w : World) (hr : RdA w v l) (hl : l.length ≤ 4000000) (hall : ∀ a ∈ l, a.2.2.2.2.length ≤ 4000000) :
    Calls Tryd.prog 35 #[v] w fun e w' => e = .returned (.int .i64 (wealthA l)) ∧ Below w.heap.size w w' := by
  rcases hr with ⟨a, cap, rfl, rfl, -⟩ | ⟨b, off, cap, h0, rfl, h1, h2, h3, h4⟩
  · go_enter Tryd.func35, Tryd.ntmps35
    go_wp2
    refine wp_loop_rounds 1 ?_
    rw [rounds_succ]
    go_wp2
    go_ret
    exact ⟨rfl, Below.refl _ _⟩
  · have H4 := hide h4
    clear h4
    go_enter Tryd.func35, Tryd.ntmps35
    go_wp2
    go_loopw [3, 4] (fun nv iv wr => ∃ k : Nat, k ≤ l.length ∧ iv = .int .i64 k ∧ nv = .int .i64 ((l.take k).foldl (fun s a => wrap64 (s + ofA a)) 0) ∧ Below w.heap.size w wr) (fun _ iv _ => l.length - (intOf iv).toNat)
    case atStart => exact ⟨0, Nat.zero_le _, rfl, rfl, Below.refl _ _⟩
    case round =>
      obtain ⟨k, hkl, rfl, rfl, hb⟩ := hrel
      by_cases hlt : k < l.length
      · obtain ⟨lv, hat, hrl⟩ := H4.out k hlt
        obtain ⟨c0, c1, c2, c3, c4⟩ := hat.below hb h3
        have hli : (k : Int) < (l.length : Int) := by omega
        have Hf := hide (fold_snoc (fun s (a : Ac) => wrap64 (s + ofA a)) 0 l k hlt)
        have HO := hide (specOf_any l[k] lv wr (hrl.below hb (Nat.le_refl _)) (hall l[k] (List.getElem_mem _)))
        have hshape := hrl.shape
        clear hat hrl hall
        generalize (l.take k).foldl (fun s (a : Ac) => wrap64 (s + ofA a)) 0 = acc at Hf
        generalize l[k] = ak at c0 c1 c2 c3 Hf HO hshape
        generalize ofA ak = oa at Hf HO
        obtain ⟨nm, fr, no, st, ls⟩ := ak
        obtain ⟨av, cv, rfl⟩ := hshape
        simp only [acV] at c0 c1 c2 c3 HO
        go_wp2_with (go_at_call 52; refine HO.out.mono ?_; rintro e w2 ⟨rfl, hb2⟩)
        go_roundw
        case rel => exact ⟨k + 1, by omega, by go_num, by rw [Hf.out], hb.trans (hb2.mono hb.size)⟩
        case measure => simp [intOf]; omega
      · have Hf : Hid (wealthA l = (l.take k).foldl (fun s a => wrap64 (s + ofA a)) 0) := hide (by unfold wealthA; rw [List.take_of_length_le (by omega)])
        generalize (l.take k).foldl (fun s (a : Ac) => wrap64 (s + ofA a)) 0 = acc at Hf
        go_wp2
        go_ret
        exact ⟨ret_int Hf.out.symm, hb⟩
end Go.Proofs.YtdelegamcebflaaDoor

namespace Go.Proofs.YtdelegamcebflaaDoor
open Go.RowKit
set_option linter.unusedVariables false

def inB (x a b : Int) : Bool := decide (a ≤ x ∧ x ≤ b)

theorem l1In_any (x a b : Int) (w : World) :
    Calls Tryd.prog 17 #[.int .i64 x, .int .i64 a, .int .i64 b] w fun e w' => e = .returned (.bool (inB x a b)) ∧ w' = w := by
  by_cases h1 : a ≤ x
  · by_cases h2 : x ≤ b
    · have e : Hid (inB x a b = true) := hide (by simp [inB, h1, h2])
      go_enter Tryd.func17, Tryd.ntmps17
      go_wp2
      go_ret
      rw [e.out]; exact ⟨rfl, rfl⟩
    · have e : Hid (inB x a b = false) := hide (by simp [inB, h1, h2])
      go_enter Tryd.func17, Tryd.ntmps17
      go_wp2
      go_ret
      rw [e.out]; exact ⟨rfl, rfl⟩
  · have e : Hid (inB x a b = false) := hide (by simp [inB, h1])
    go_enter Tryd.func17, Tryd.ntmps17
    go_wp2
    go_ret
    rw [e.out]; exact ⟨rfl, rfl⟩
end Go.Proofs.YtdelegamcebflaaDoor

namespace Go.Proofs.YtdelegamcebflaaDoor
open Go.RowKit
set_option linter.unusedVariables false

def nbB (x : Int) : Bool := inB x 97 122 || inB x 48 57
def nmB (s : ByteArray) : Bool := s.data.toList.all (fun c => nbB (c.toNat : Int)) && inB s.size 1 8

theorem take_snoc (s : ByteArray) (k : Nat) (h : k < s.size) : s.data.toList.take (k + 1) = s.data.toList.take k ++ [s[k]] := by
  rw [List.take_succ_eq_append_getElem (by simpa using h)]; rfl

theorem all_snoc (s : ByteArray) (k : Nat) (h : k < s.size) (p : UInt8 → Bool) (h1 : (s.data.toList.take k).all p = true) (h2 : p s[k] = true) : (s.data.toList.take (k + 1)).all p = true := by
  rw [take_snoc s k h, List.all_append, h1]; simp [h2]

theorem all_not (s : ByteArray) (k : Nat) (h : k < s.size) (p : UInt8 → Bool) (h2 : p s[k] = false) : s.data.toList.all p = false := by
  rw [Bool.eq_false_iff]; intro ha
  rw [List.all_eq_true] at ha
  have := ha s[k] (by simp [ByteArray.getElem_eq_getElem_data])
  rw [h2] at this; cases this

theorem all_whole (s : ByteArray) (p : UInt8 → Bool) (h : (s.data.toList.take s.size).all p = true) : s.data.toList.all p = true := by
  rwa [List.take_of_length_le (by simp)] at h

theorem isNameByte_any (x : Int) (w : World) :
    Calls Tryd.prog 64 #[.int .u8 x] w fun e w' => e = .returned (.bool (nbB x)) ∧ w' = w := by
  rcases (show (97 ≤ x ∧ x ≤ 122) ∨ (122 < x) ∨ (57 < x ∧ x < 97) ∨ (48 ≤ x ∧ x ≤ 57) ∨ x < 48 from by omega) with h | h | h | h | h
  all_goals
    have e : Hid (nbB x = decide ((97 ≤ x ∧ x ≤ 122) ∨ (48 ≤ x ∧ x ≤ 57))) := hide (by simp only [nbB, inB, Bool.or_eq_decide]; simp)
    go_enter Tryd.func64, Tryd.ntmps64
    go_wp2
    go_ret
    exact ⟨ret_bool (by rw [e.out, Bool.eq_iff_iff]; simp only [Bool.or_eq_true, decide_eq_true_eq, Bool.false_eq_true, true_iff, false_iff]; omega), rfl⟩

set_option maxHeartbeats 400000 in
theorem specNameOk_any (s : ByteArray) (w : World) (hs : s.size ≤ maxLen) :
    Calls Tryd.prog 51 #[.string s] w fun e w' => e = .returned (.bool (nmB s)) ∧ w' = w := by
  unfold maxLen at hs
  go_enter Tryd.func51, Tryd.ntmps51
  go_wp2
  go_loop [3] (fun i => ∃ k : Nat, k ≤ s.size ∧ i = .int .i64 k ∧ (s.data.toList.take k).all (fun c => nbB (c.toNat : Int)) = true) (fun i => s.size - (intOf i).toNat)
  case atStart => exact ⟨0, Nat.zero_le _, rfl, rfl⟩
  case round =>
    obtain ⟨k, hk, rfl, hall⟩ := hrel
    by_cases hlt : k < s.size
    · have Hall := hide hall
      clear hall
      have hb : (s[k].toNat : Int) < 256 := by have := s[k].toNat_lt; omega
      cases h1 : inB (s[k].toNat : Int) 97 122
      · cases h2 : inB (s[k].toNat : Int) 48 57
        · have hf : Hid (nmB s = false) := hide (by unfold nmB; rw [all_not s k hlt _ (by simp only [nbB, h1, h2]; rfl)]; rfl)
          go_wp2_with (go_at_call 17; refine (l1In_any _ _ _ _).mono ?_; rintro e w' ⟨rfl, rfl⟩)
          go_ret
          rw [hf.out]; exact ⟨rfl, rfl⟩
        · have hn : Hid (nbB (s[k].toNat : Int) = true) := hide (by simp [nbB, h1, h2])
          go_wp2_with (go_at_call 17; refine (l1In_any _ _ _ _).mono ?_; rintro e w' ⟨rfl, rfl⟩)
          go_round
          case rel => exact ⟨k + 1, by omega, by go_num, all_snoc s k hlt _ Hall.out hn.out⟩
          case measure => simp [intOf]; omega
      · have hn : Hid (nbB (s[k].toNat : Int) = true) := hide (by simp [nbB, h1])
        go_wp2_with (go_at_call 17; refine (l1In_any _ _ _ _).mono ?_; rintro e w' ⟨rfl, rfl⟩)
        go_round
        case rel => exact ⟨k + 1, by omega, by go_num, all_snoc s k hlt _ Hall.out hn.out⟩
        case measure => simp [intOf]; omega
    · have hf : Hid (nmB s = inB s.size 1 8) := hide (by
        have : k = s.size := by omega
        subst this
        unfold nmB; rw [all_whole s _ hall]; rfl)
      clear hall
      go_wp2_with (go_at_call 17; refine (l1In_any _ _ _ _).mono ?_; rintro e w' ⟨rfl, rfl⟩)
      go_ret
      rw [hf.out]; exact ⟨rfl, rfl⟩

set_option maxHeartbeats 400000 in
theorem implNameOk_any (s : ByteArray) (w : World) (hs : s.size ≤ maxLen) :
    Calls Tryd.prog 53 #[.string s] w fun e w' => e = .returned (.bool (nmB s)) ∧ w' = w := by
  unfold maxLen at hs
  rcases (show s.size < 1 ∨ 8 < s.size ∨ (1 ≤ s.size ∧ s.size ≤ 8) from by omega) with h | h | h
  · have hf : Hid (nmB s = false) := hide (by unfold nmB inB; rw [decide_eq_false (by omega)]; simp)
    go_enter Tryd.func53, Tryd.ntmps53
    go_wp2
    go_ret
    rw [hf.out]; exact ⟨rfl, rfl⟩
  · have hf : Hid (nmB s = false) := hide (by unfold nmB inB; rw [decide_eq_false (by omega)]; simp)
    have h' : ¬ s.size < 1 := by omega
    go_enter Tryd.func53, Tryd.ntmps53
    go_wp2
    go_ret
    rw [hf.out]; exact ⟨rfl, rfl⟩
  · have hin : inB s.size 1 8 = true := by unfold inB; rw [decide_eq_true (by omega)]
    have Hin := hide hin
    clear hin
    go_enter Tryd.func53, Tryd.ntmps53
    go_wp2
    go_loop [14] (fun i => ∃ k : Nat, k ≤ s.size ∧ i = .int .i64 k ∧ (s.data.toList.take k).all (fun c => nbB (c.toNat : Int)) = true) (fun i => s.size - (intOf i).toNat)
    case atStart => exact ⟨0, Nat.zero_le _, rfl, rfl⟩
    case round =>
      obtain ⟨k, hk, rfl, hall⟩ := hrel
      by_cases hlt : k < s.size
      · have Hall := hide hall
        clear hall
        cases h1 : nbB (s[k].toNat : Int)
        · have hf : Hid (nmB s = false) := hide (by unfold nmB; rw [all_not s k hlt _ h1]; rfl)
          go_wp2_with (go_at_call 64; refine (isNameByte_any _ _).mono ?_; rintro e w' ⟨rfl, rfl⟩)
          go_ret
          rw [hf.out]; exact ⟨rfl, rfl⟩
        · have hn := hide h1
          go_wp2_with (go_at_call 64; refine (isNameByte_any _ _).mono ?_; rintro e w' ⟨rfl, rfl⟩)
          go_round
          case rel => exact ⟨k + 1, by omega, by go_num, all_snoc s k hlt _ Hall.out hn.out⟩
          case measure => simp [intOf]; omega
      · have hf : Hid (nmB s = true) := hide (by
          have : k = s.size := by omega
          subst this
          unfold nmB; rw [all_whole s _ hall, Hin.out]; rfl)
        clear hall
        go_wp2
        go_ret
        rw [hf.out]; exact ⟨rfl, rfl⟩
end Go.Proofs.YtdelegamcebflaaDoor

namespace Go.Proofs.YtdelegamcebflaaDoor
open Go.RowKit
set_option linter.unusedVariables false

/-- What the i-th of what leaves must be. -/
def lvAt (l : List (Int × Int)) (i : Nat) : Bool := inB (l.getD i (0, 0)).1 1 1000000 && (inB (l.getD i (0, 0)).2 0 1000 && (decide (i = 0) || decide ((l.getD (i - 1) (0, 0)).2 < (l.getD i (0, 0)).2)))
def lvsB (l : List (Int × Int)) : Bool := (List.range l.length).all (lvAt l)
def acB (a : Ac) : Bool := nmB a.1 && (inB a.2.1 0 1000000 && (inB a.2.2.1 0 10000 && (inB a.2.2.2.1 0 1000000 && (decide (a.2.2.2.2.length ≤ 4) && lvsB a.2.2.2.2))))
theorem lvs_no (l : List (Int × Int)) (k : Nat) (h : k < l.length) (hk : lvAt l k = false) : lvsB l = false := by
  unfold lvsB
  rw [List.all_eq_false]
  exact ⟨k, List.mem_range.2 h, by simp [hk]⟩
theorem lvs_yes (l : List (Int × Int)) (h : ∀ j, j < l.length → lvAt l j = true) : lvsB l = true := by
  unfold lvsB
  rw [List.all_eq_true]
  exact fun j hj => h j (List.mem_range.1 hj)

set_option maxRecDepth 20000 in
set_option maxHeartbeats 2000000 in
theorem specAcctOk_any (a : Ac) (lv : Value) (w : World) (hr : RdL w lv a.2.2.2.2) (hn : a.1.size ≤ maxLen) (hl : a.2.2.2.2.length ≤ 4000000) :
    Calls Tryd.prog 34 #[acV a lv] w fun e w' => e = .returned (.bool (acB a)) ∧ Below w.heap.size w w' := by
  obtain ⟨nm, fr, no, st, ls⟩ := a
  have HB := hide ((Below.refl _ w).alloc (Nat.le_refl _) (.cells #[.string nm, .int .i64 fr, .int .i64 no, .int .i64 st, lv] 33))
  have hk := Blk.new w 33 [.string nm, .int .i64 fr, .int .i64 no, .int .i64 st, lv]
  have Hr := hide (hr.below HB.out (Nat.le_refl _))
  obtain ⟨av, cv, rfl⟩ := hr.shape
  clear hr
  simp only [acV] at *
  obtain ⟨w0, hw0⟩ : ∃ w0, w.alloc (.cells #[.string nm, .int .i64 fr, .int .i64 no, .int .i64 st, .slice av ls.length cv] 33) = w0 := ⟨_, rfl⟩
  have hk' : Blk w0 w.heap.size 33 [.string nm, .int .i64 fr, .int .i64 no, .int .i64 st, .slice av ls.length cv] := by rw [← hw0]; exact hk
  have HB' : Hid (Below w.heap.size w w0) := hide (by rw [← hw0]; exact HB.out)
  have Hr' : Hid (RdL w0 (.slice av ls.length cv) ls) := hide (by rw [← hw0]; exact Hr.out)
  have hlt0 := hk'.lt
  have k0 := hk'.cell 0
  have k1 := hk'.cell 1
  have k2 := hk'.cell 2
  have k3 := hk'.cell 3
  have k4 := hk'.cell 4
  simp only [List.getElem?_cons_zero, List.getElem?_cons_succ] at k0 k1 k2 k3 k4
  clear hk HB Hr
  have Hac : Hid (acB (nm, fr, no, st, ls) = (nmB nm && (inB fr 0 1000000 && (inB no 0 10000 && (inB st 0 1000000 && (decide (ls.length ≤ 4) && lvsB ls)))))) := hide rfl
  by_cases hhead : nmB nm = true ∧ inB fr 0 1000000 = true ∧ inB no 0 10000 = true ∧ inB st 0 1000000 = true ∧ ls.length ≤ 4
  · obtain ⟨e0, e1, e2, e3, e4⟩ := hhead
    rw [e0, e1, e2, e3, decide_eq_true e4] at Hac
    simp only [Bool.true_and] at Hac
    have e4i : (ls.length : Int) ≤ 4 := by omega
    go_enter Tryd.func34, Tryd.ntmps34
    go_wp2_with (first
      | (go_at_call 51; refine (specNameOk_any nm _ hn).mono ?_; rintro e w0 ⟨rfl, rfl⟩)
      | (go_at_call 17; refine (l1In_any _ _ _ _).mono ?_; rintro e w0 ⟨rfl, rfl⟩))
    clear k0 k1 k2 k3
    go_loopw [3] (fun i wr => ∃ k : Nat, k ≤ ls.length ∧ i = .int .i64 k ∧ (∀ j, j < k → lvAt ls j = true) ∧ Below w0.heap.size w0 wr) (fun i _ => ls.length - (intOf i).toNat)
    case atStart => exact ⟨0, Nat.zero_le _, rfl, fun j hj => by omega, Below.refl _ _⟩
    case round =>
      obtain ⟨k, hkl, rfl, hok, hb⟩ := hrel
      have Hok := hide hok
      have hc := (hk'.below hb hlt0).cell 4
      simp only [List.getElem?_cons_zero, List.getElem?_cons_succ] at hc
      clear hok k4
      have hB : Below w.heap.size w wr := HB'.out.trans (hb.mono HB'.out.size)
      by_cases hlt : k < ls.length
      · have hrr := Hr'.out
        rcases hrr with ⟨_, _, _, e, _⟩ | ⟨b, off, cap, h0, hv, h1, h2, h3, h4⟩
        · subst e; simp at hlt
        injection hv with ha _ hcap
        subst ha hcap
        have hc1 := (hb.cell (p := ⟨b, off + k * 2, none⟩) h3).trans (h4 k hlt).1
        have hc2 := (hb.cell (p := ⟨b, off + k * 2 + 1, none⟩) h3).trans (h4 k hlt).2
        have hli : (k : Int) < (ls.length : Int) := by omega
        have hwb : w.heap.size < wr.heap.size := Nat.lt_of_lt_of_le hlt0 hb.size
        have hbb : b < wr.heap.size := Nat.lt_of_lt_of_le h3 hb.size
        have Hno := hide (lvs_no ls k hlt)
        have Hnx : Hid (lvAt ls k = true → ∀ j, j < k + 1 → lvAt ls j = true) := hide (fun h j hj => by
          by_cases e : j = k
          · subst e; exact h
          · exact Hok.out j (by omega))
        have Hat : Hid (lvAt ls k = (inB ls[k].1 1 1000000 && (inB ls[k].2 0 1000 && (decide (k = 0) || decide ((ls.getD (k - 1) (0, 0)).2 < ls[k].2))))) := hide (by unfold lvAt; rw [List.getD_eq_getElem?_getD, List.getElem?_eq_getElem hlt]; rfl)
        have Hpr : Hid (0 < k → wr.cell? ⟨b, off + (k - 1) * 2 + 1, none⟩ = some (.int .i64 (ls.getD (k - 1) (0, 0)).2)) := hide (fun h => by
          have := (hb.cell (p := ⟨b, off + (k - 1) * 2 + 1, none⟩) h3).trans (h4 (k - 1) (by omega)).2
          rw [List.getD_eq_getElem?_getD, List.getElem?_eq_getElem (show k - 1 < ls.length by omega)]
          exact this)
        clear h4 Hok
        generalize ls[k] = p at hc1 hc2 Hat
        obtain ⟨x, y⟩ := p
        simp only at hc1 hc2 Hat
        by_cases q1 : inB x 1 1000000 = true
        · by_cases q2 : inB y 0 1000 = true
          · rw [q1, q2, Bool.true_and, Bool.true_and] at Hat
            cases k with
            | zero =>
              rw [show decide (0 = 0) = true from rfl, Bool.true_or] at Hat
              rw [Nat.zero_mul, Nat.add_zero] at hc1 hc2
              have Hnx := hide (Hnx.out Hat.out)
              clear Hat Hno Hpr
              go_wp2
              go_quiet ((go_at_call 17; exact Calls.quiet_of_same (l1In_any _ _ _ _)))
              go_wp2
              go_roundw
              case rel => exact ⟨0 + 1, by omega, by go_num, Hnx.out, below_drewN (hb.alloc hb.size _) _⟩
              case measure => simp [intOf]; omega
            | succ j =>
              rw [show decide (j + 1 = 0) = false from rfl, Bool.false_or] at Hat
              have hpr := Hpr.out (by omega)
              rw [show j + 1 - 1 = j from by omega] at hpr Hat
              generalize (ls.getD j (0, 0)).2 = z at hpr Hat
              by_cases q3 : z < y
              · rw [decide_eq_true q3] at Hat
                have Hnx := hide (Hnx.out Hat.out)
                clear Hat Hno Hpr
                go_wp2
                go_quiet ((go_at_call 17; exact Calls.quiet_of_same (l1In_any _ _ _ _)))
                go_wp2
                go_roundw
                case rel => exact ⟨j + 1 + 1, by omega, by go_num, Hnx.out, below_drewN (hb.alloc hb.size _) _⟩
                case measure => simp [intOf]; omega
              · rw [decide_eq_false q3] at Hat
                have Hno := hide (Hac.out.trans (Hno.out Hat.out))
                clear Hat Hnx Hpr
                go_wp2
                go_quiet ((go_at_call 17; exact Calls.quiet_of_same (l1In_any _ _ _ _)))
                go_wp2
                go_ret
                exact ⟨ret_bool Hno.out.symm, below_drewN (hB.alloc hB.size _) _⟩
          · have q2 : inB y 0 1000 = false := by simpa using q2
            rw [q1, q2, Bool.true_and, Bool.false_and] at Hat
            have Hno := hide (Hac.out.trans (Hno.out Hat.out))
            clear Hat Hnx Hpr
            go_wp2
            go_quiet ((go_at_call 17; exact Calls.quiet_of_same (l1In_any _ _ _ _)))
            go_wp2
            go_ret
            exact ⟨ret_bool Hno.out.symm, below_drewN (hB.alloc hB.size _) _⟩
        · have q1 : inB x 1 1000000 = false := by simpa using q1
          rw [q1, Bool.false_and] at Hat
          have Hno := hide (Hac.out.trans (Hno.out Hat.out))
          clear Hat Hnx Hpr
          go_wp2
          go_quiet ((go_at_call 17; exact Calls.quiet_of_same (l1In_any _ _ _ _)))
          go_wp2
          go_ret
          exact ⟨ret_bool Hno.out.symm, below_drewN (hB.alloc hB.size _) _⟩
      · have Hy := hide (Hac.out.trans (lvs_yes ls (fun j hj => Hok.out j (by omega))))
        go_wp2
        go_ret
        exact ⟨ret_bool Hy.out.symm, hB⟩
  · by_cases e0 : nmB nm = true
    · by_cases e1 : inB fr 0 1000000 = true
      · by_cases e2 : inB no 0 10000 = true
        · by_cases e3 : inB st 0 1000000 = true
          · have e4 : ¬ ls.length ≤ 4 := fun h => hhead ⟨e0, e1, e2, e3, h⟩
            rw [e0, e1, e2, e3, decide_eq_false e4] at Hac
            have e4i : (4 : Int) < (ls.length : Int) := by omega
            simp only [Bool.true_and, Bool.false_and] at Hac
            clear hhead
            clear e4
            go_enter Tryd.func34, Tryd.ntmps34
            go_wp2_with (first
      | (go_at_call 51; refine (specNameOk_any nm _ hn).mono ?_; rintro e w0 ⟨rfl, rfl⟩)
      | (go_at_call 17; refine (l1In_any _ _ _ _).mono ?_; rintro e w0 ⟨rfl, rfl⟩))
            go_ret
            exact ⟨ret_bool Hac.out.symm, HB'.out⟩
          · have e3 : inB st 0 1000000 = false := by simpa using e3
            rw [e0, e1, e2, e3] at Hac
            simp only [Bool.true_and, Bool.false_and] at Hac
            clear hhead
            go_enter Tryd.func34, Tryd.ntmps34
            go_wp2_with (first
      | (go_at_call 51; refine (specNameOk_any nm _ hn).mono ?_; rintro e w0 ⟨rfl, rfl⟩)
      | (go_at_call 17; refine (l1In_any _ _ _ _).mono ?_; rintro e w0 ⟨rfl, rfl⟩))
            go_ret
            exact ⟨ret_bool Hac.out.symm, HB'.out⟩
        · have e2 : inB no 0 10000 = false := by simpa using e2
          rw [e0, e1, e2] at Hac
          simp only [Bool.true_and, Bool.false_and] at Hac
          clear hhead
          go_enter Tryd.func34, Tryd.ntmps34
          go_wp2_with (first
      | (go_at_call 51; refine (specNameOk_any nm _ hn).mono ?_; rintro e w0 ⟨rfl, rfl⟩)
      | (go_at_call 17; refine (l1In_any _ _ _ _).mono ?_; rintro e w0 ⟨rfl, rfl⟩))
          go_ret
          exact ⟨ret_bool Hac.out.symm, HB'.out⟩
      · have e1 : inB fr 0 1000000 = false := by simpa using e1
        rw [e0, e1] at Hac
        simp only [Bool.true_and, Bool.false_and] at Hac
        clear hhead
        go_enter Tryd.func34, Tryd.ntmps34
        go_wp2_with (first
      | (go_at_call 51; refine (specNameOk_any nm _ hn).mono ?_; rintro e w0 ⟨rfl, rfl⟩)
      | (go_at_call 17; refine (l1In_any _ _ _ _).mono ?_; rintro e w0 ⟨rfl, rfl⟩))
        go_ret
        exact ⟨ret_bool Hac.out.symm, HB'.out⟩
    · have e0 : nmB nm = false := by simpa using e0
      rw [e0] at Hac
      simp only [Bool.false_and] at Hac
      clear hhead
      go_enter Tryd.func34, Tryd.ntmps34
      go_wp2_with (first
      | (go_at_call 51; refine (specNameOk_any nm _ hn).mono ?_; rintro e w0 ⟨rfl, rfl⟩)
      | (go_at_call 17; refine (l1In_any _ _ _ _).mono ?_; rintro e w0 ⟨rfl, rfl⟩))
      go_ret
      exact ⟨ret_bool Hac.out.symm, HB'.out⟩
end Go.Proofs.YtdelegamcebflaaDoor
