/- Drawn orders. Appending to rows of those who vote within a region that draws. -/
import Derived.Test.YtkidfkngehcjgaaZsTxBlk
import Derived.Test.YtkidfkngehcjgaaZsVsSum
import Derived.Deep.RegionHeldLaw
namespace Go.Proofs.Ytkidfkngehcjgaa
open Go.RowKit
set_option linter.unusedVariables false

theorem blk_notg5 {w w' : World} {B g : Nat} {t : TypeId} {cs : List Value} (h : Blk w B t cs) (hg : w.grownBy w' (some g)) (hne : B ≠ g) : Blk w' B t cs :=
  (hg.block B h.lt (fun e => hne (by injection e))).trans h
theorem below_put5 (W : World) (b : Nat) (y0 y1 y2 y3 y4 : Value) : Below b W (((((W.setCell ⟨b, 0, none⟩ y0).setCell ⟨b, 1, none⟩ y1).setCell ⟨b, 2, none⟩ y2).setCell ⟨b, 3, none⟩ y3).setCell ⟨b, 4, none⟩ y4) :=
  (((((Below.refl _ W).setCell (p := ⟨b, 0, none⟩) (Nat.le_refl _) _).setCell (p := ⟨b, 1, none⟩) (Nat.le_refl _) _).setCell (p := ⟨b, 2, none⟩) (Nat.le_refl _) _).setCell (p := ⟨b, 3, none⟩) (Nat.le_refl _) _).setCell (p := ⟨b, 4, none⟩) (Nat.le_refl _) _
/-- What is drawn is small. -/
def SmT (t : Tx5) : Prop := t.2.1.size ≤ 9 ∧ t.2.2.1.size ≤ 9 ∧ (-10000000 ≤ t.1 ∧ t.1 ≤ 10000000) ∧ (-10000000 ≤ t.2.2.2.1 ∧ t.2.2.2.1 ≤ 10000000) ∧ (-10000000 ≤ t.2.2.2.2 ∧ t.2.2.2.2 ≤ 10000000)
/-- What a draw of an order answers. -/
def DrT (w0 w : World) (g : Nat) (cv : Value) (code : List UInt8) (e : Ending) (w' : World) : Prop := ∃ t : Tx5, e = .returned (txV t) ∧ SmT t ∧ Cur w0 w' g cv code ∧ w.grownBy w' (some g)

set_option maxRecDepth 20000 in
set_option maxHeartbeats 2000000 in
theorem l5Tx_any (w0 w : World) (g : Nat) (cv : Value) (code : List UInt8) (hc : Cur w0 w g cv code) (hl : code.length ≤ 1048576) :
    Calls Try.prog 38 #[.pointer (some ⟨g, 0, none⟩)] w fun e w' => DrT w0 w g cv code e w' := by
  have hgl := hc.lt
  obtain ⟨w1, hw1⟩ : ∃ w1, w.alloc (.cells #[.int .i64 0, .string { data := #[] }, .string { data := #[] }, .int .i64 0, .int .i64 0] 78) = w1 := ⟨_, rfl⟩
  have hb1 : Below w.heap.size w w1 := by rw [← hw1]; exact (Below.refl _ w).alloc (Nat.le_refl _) _
  have hs1 : w1.heap.size = w.heap.size + 1 := by rw [← hw1]; simp
  have K1 : Hid (Blk w1 w.heap.size 78 [.int .i64 0, .string { data := #[] }, .string { data := #[] }, .int .i64 0, .int .i64 0]) := hide (by rw [← hw1]; exact Blk.new w _ _)
  have Hc1 := hide (hc.below hb1 hgl)
  have HG1 := hide (grw_of_below (some g) hb1 (Nat.le_refl _))
  clear hc hb1
  go_enter Try.func38, Try.ntmps38
  go_wp2_with fail
  refine (l1Below_any w0 _ g cv code 3 Hc1.out hl (by omega) (by omega)).mono ?_
  rintro e w2 ⟨x, rfl, hx, -, hc2, hg2⟩
  have hx3 : (x : Int) < 3 := hx (by omega)
  have K2 := hide (blk_notg5 K1.out hg2 (by omega))
  have HG2 := hide (grw_trans HG1.out hg2)
  have hs2 := hg2.size
  clear hg2 hx K1 HG1 Hc1
  go_wp2_with fail
  refine (l1Name_any w0 _ g cv code hc2 hl).mono ?_
  rintro e w3 ⟨f, rfl, hf9, hc3, hg3⟩
  have K3 := hide (blk_notg5 K2.out hg3 (by omega))
  have HG3 := hide (grw_trans HG2.out hg3)
  have hs3 := hg3.size
  obtain ⟨w4, hw4⟩ : ∃ w4, w3.alloc (.cells #[.int .i64 1, .int .i64 5, .int .i64 10, .int .i64 3, .int .i64 200] 3) = w4 := ⟨_, rfl⟩
  have hb4 : Below w3.heap.size w3 w4 := by rw [← hw4]; exact (Below.refl _ w3).alloc (Nat.le_refl _) _
  have HI4 : Hid (IntsAt w4 w3.heap.size [1, 5, 10, 3, 200]) := hide (by rw [← hw4]; exact ints_new w3 [1, 5, 10, 3, 200] 3)
  have Hc4 := hide (hc3.below hb4 hc3.lt)
  have K4 := hide (K3.out.below hb4 (by omega))
  have HG4 := hide (grw_trans HG3.out (grw_of_below (some g) hb4 (Nat.le_refl _)))
  have hs4 := hb4.size
  clear hc2 hc3 hg3 hb4 K2 K3 HG2 HG3
  go_wp2_with fail
  refine (l1Int_any w0 _ g w3.heap.size cv code [1, 5, 10, 3, 200] Hc4.out hl HI4.out (by omega) (by simp) (by simp) 5).mono ?_
  rintro e w5 ⟨am, rfl, ham, hc5, hg5⟩
  have hamb : 0 ≤ am ∧ am ≤ 200 := by simp at ham; omega
  have K5 := hide (blk_notg5 K4.out hg5 (by omega))
  have HG5 := hide (grw_trans HG4.out hg5)
  have hs5 := hg5.size
  clear ham hg5 K4 HG4 Hc4 HI4
  go_wp2_with fail
  refine (l1Below_any w0 _ g cv code 4 hc5 hl (by omega) (by omega)).mono ?_
  rintro e w6 ⟨no, rfl, hno, -, hc6, hg6⟩
  have hno4 : (no : Int) < 4 := hno (by omega)
  have hk6 := blk_notg5 K5.out hg6 (by omega)
  have hG6 := grw_trans HG5.out hg6
  have hs6 := hg6.size
  have hT7 := Blk.new w6 78 [.int .i64 (1 + (x : Int)), .string f, .string { data := #[] }, .int .i64 am, .int .i64 (no : Int)]
  have hb7 : Below w6.heap.size w6 (w6.alloc (.cells #[.int .i64 (1 + (x : Int)), .string f, .string { data := #[] }, .int .i64 am, .int .i64 (no : Int)] 78)) := (Below.refl _ w6).alloc (Nat.le_refl _) _
  have hk7 := hk6.below hb7 (by omega)
  have Hc7 := hide (hc6.below hb7 hc6.lt)
  have HG7 := hide (grw_trans hG6 (grw_of_below (some g) hb7 (Nat.le_refl _)))
  clear hc5 hg6 hno K5 HG5 hc6 hG6 hk6 hb7
  by_cases hx0 : x = 0
  · subst hx0
    have HK := hide hk7
    have HT := hide hT7
    clear hk7 hT7
    go_wp2_with fail
    refine (l1Name_any w0 _ g cv code Hc7.out hl).mono ?_
    rintro e w8 ⟨to, rfl, ht9, hc8, hg8⟩
    have hk7 := blk_notg5 HK.out hg8 (by omega)
    have hT7 := blk_notg5 HT.out hg8 (by omega)
    have HG8 := hide (grw_trans HG7.out hg8)
    have Hc8 := hide hc8
    have hs8 := hg8.size
    clear HK HT HG7 Hc7 hc8 hg8
    have r0 := hk7.cell 0
    have fr0 := hk7.frozen 0
    have r1 := hk7.cell 1
    have fr1 := hk7.frozen 1
    have r2 := hk7.cell 2
    have fr2 := hk7.frozen 2
    have r3 := hk7.cell 3
    have fr3 := hk7.frozen 3
    have r4 := hk7.cell 4
    have fr4 := hk7.frozen 4
    have t0 := hT7.cell 0
    have ft0 := hT7.frozen 0
    have t1 := hT7.cell 1
    have ft1 := hT7.frozen 1
    have t2 := hT7.cell 2
    have ft2 := hT7.frozen 2
    have t3 := hT7.cell 3
    have ft3 := hT7.frozen 3
    have t4 := hT7.cell 4
    have ft4 := hT7.frozen 4
    simp only [List.getElem?_cons_zero, List.getElem?_cons_succ] at r0 r1 r2 r3 r4 t0 t1 t2 t3 t4
    go_wp2
    refine bodyPost_ret (v := txV (1, f, to, am, (no : Int))) (by simp [results, Try.f38, go_sem, txV, r0, r1, r2, r3, r4]) rfl ?_
    have hbR := ((Below.refl w.heap.size w8).setCell (p := ⟨w6.heap.size, 2, none⟩) (show w.heap.size ≤ w6.heap.size by omega) (.string to)).trans (below_put5 (w8.setCell ⟨w6.heap.size, 2, none⟩ (.string to)) w.heap.size (.int .i64 1) (.string f) (.string to) (.int .i64 am) (.int .i64 (no : Int)))
    exact ⟨(1, f, to, am, (no : Int)), rfl, by unfold SmT; simp only; omega, Hc8.out.below hbR hgl, grw_below HG8.out hbR (Nat.le_refl _)⟩
  · have hne : ((1 + (x : Int)) == 1) = false := by rw [beq_eq_false_iff_ne]; omega
    have r0 := hk7.cell 0
    have fr0 := hk7.frozen 0
    have r1 := hk7.cell 1
    have fr1 := hk7.frozen 1
    have r2 := hk7.cell 2
    have fr2 := hk7.frozen 2
    have r3 := hk7.cell 3
    have fr3 := hk7.frozen 3
    have r4 := hk7.cell 4
    have fr4 := hk7.frozen 4
    have t0 := hT7.cell 0
    have ft0 := hT7.frozen 0
    have t1 := hT7.cell 1
    have ft1 := hT7.frozen 1
    have t2 := hT7.cell 2
    have ft2 := hT7.frozen 2
    have t3 := hT7.cell 3
    have ft3 := hT7.frozen 3
    have t4 := hT7.cell 4
    have ft4 := hT7.frozen 4
    simp only [List.getElem?_cons_zero, List.getElem?_cons_succ] at r0 r1 r2 r3 r4 t0 t1 t2 t3 t4
    go_wp2
    refine bodyPost_ret (v := txV (1 + (x : Int), f, ByteArray.empty, am, (no : Int))) (by simp [results, Try.f38, go_sem, txV, r0, r1, r2, r3, r4]; rfl) rfl ?_
    have hbR := below_put5 (w6.alloc (.cells #[.int .i64 (1 + (x : Int)), .string f, .string { data := #[] }, .int .i64 am, .int .i64 (no : Int)] 78)) w.heap.size (.int .i64 (1 + (x : Int))) (.string f) (.string { data := #[] }) (.int .i64 am) (.int .i64 (no : Int))
    exact ⟨(1 + (x : Int), f, ByteArray.empty, am, (no : Int)), rfl, by unfold SmT; simp only [ByteArray.size_empty]; omega, Hc7.out.below hbR hgl, grw_below HG7.out hbR (Nat.le_refl _)⟩
end Go.Proofs.Ytkidfkngehcjgaa

namespace Go.Proofs.Ytkidfkngehcjgaa
open Go.RowKit
set_option linter.unusedVariables false

theorem Blk.drewV {W : World} {B : Nat} {t : TypeId} {cs : List Value} (h : Blk W B t cs) : Blk W.drew B t cs := h
theorem Blk.newV (W : World) (t : TypeId) (cs : List Value) (n : Nat) (h : n = W.heap.size) : Blk (W.alloc (.cells cs.toArray t)) n t cs := by subst h; exact Blk.new W t cs
theorem OwnV.drew {base : Nat} {w : World} {v : Value} {l : List Vl} (h : OwnV base w v l) : OwnV base w.drew v l := h.below (Below.refl _ w).drew (Nat.le_refl _)
theorem step_appV {ops : Array Oper} {o : Oper} {a : Act} {w : World} {K : Act → World → Prop} {Q : Exit → Act → World → Prop} {E : Prop} (hgd : o.guard = none) (s x : Operand)
    (ho : o.op = .call { callee := .builtin .append, args := #[s, x], argTypes := #[55, 55] })
    (base : Nat) (v : Value) (B : Nat) (l : List Vl) (p : Vl) (hs : a.eval s = v) (hx : a.eval x = .slice (some ⟨B, 0, none⟩) 1 1) (hown : OwnV base w v l) (hblk : Blk w B 87 (vlC p))
    (hlen : l.length ≤ 100000000) (hbase : base ≤ w.heap.size)
    (h : ∀ v' w', OwnV base w' v' (l ++ [p]) → Below base w w' → K (a.put o.dst v') w') : if Region.wanted o (yielded ops a.tmps) = true then Oper.wp Try.prog o a w K Q else E := by
  have hw : Region.wanted o (yielded ops a.tmps) = true := by simp [Region.wanted, hgd]
  rw [if_pos hw]
  obtain ⟨i0, hi, hz0, hz1, hz2⟩ := info_parts Try.infoVl
  have hbel : ∀ w', w.grownBy w' v.ownBlock → Below base w w' := fun w' hg => (Below.refl _ _).grown hg hbase (fun k hk => (hown.ge k hk))
  refine wp_append_own w s x 55 ho base 87 i0 (.agg #[.string { data := #[] }, .int .i64 0]) 2 24 Try.underlying55 hi hz0 hz1 hz2 rfl (by decide) v l.length (l.map vlC).flatten hs hown ⟨B, 0, none⟩ 1 1 (vlC p) hx rfl ?_ ?_ (by unfold maxLen; omega) (by omega) hbase ?_
  · intro j u hj
    rw [add_flatV, Nat.zero_add, hblk.cell j]
    exact hj
  · intro u hu
    simp only [vlC, List.mem_cons, List.not_mem_nil, or_false] at hu
    rcases hu with rfl | rfl <;> rfl
  · intro v' w' ho' hg _
    exact h v' w' (by unfold OwnV; rw [List.length_append, List.map_append, List.flatten_append]; simpa using ho') (hbel w' hg)
end Go.Proofs.Ytkidfkngehcjgaa
