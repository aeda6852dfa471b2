/- Words drawn. -/
import Derived.Test.YtkidfkngehcjgaaZsMgMem
import Derived.Test.YtkidfkngehcjgaaZsDrawBkS
import Derived.Test.YtkidfkngehcjgaaZsDrawNmS
import Derived.Test.YtkidfkngehcjgaaZsDrawTr
import Derived.Test.YtkidfkngehcjgaaZsSgImplB
import Derived.Deep.CutBlock
namespace Go.Proofs.Ytkidfkngehcjgaa
open Go.RowKit
set_option linter.unusedVariables false
set_option linter.unusedSimpArgs false

theorem row_notg {base : Nat} {w w' : World} {e : TypeId} {size : Nat} {v : Value} {n : Nat} {xs : List Value} {g : Nat} (h : w.ownsRow base e size v n xs) (hg : w.grownBy w' (some g)) (hb : g < base) : w'.ownsRow base e size v n xs :=
  World.ownsRow.kept h hg (.inr fun e => by have := (World.ownsRow.lt h g e).1; omega)
/-- The call's own blocks: several, one in a row of its own, or none. -/
def OwnKN (base : Nat) (w : World) (v : Value) (l : List Bk) : Prop :=
  (v = .slice none 0 0 ∧ l = []) ∨ OwnKs base w v l ∨ ∃ (g : Nat) (b : Bk) (bv : Bv), v = .slice (some ⟨g, 0, none⟩) 1 1 ∧ l = [b] ∧ base ≤ g ∧ Blk w g 57 (bkC b bv) ∧ OwnK base w b bv
theorem OwnKN.rd {base : Nat} {w : World} {v : Value} {l : List Bk} (h : OwnKN base w v l) : RdKs w v l := by
  rcases h with ⟨rfl, rfl⟩ | h | ⟨g, b, bv, rfl, rfl, hg, hk, ho⟩
  · exact .inl ⟨none, 0, rfl, rfl, fun _ => rfl⟩
  · exact h.rd
  · refine .inr ⟨g, 0, 1, by simp, rfl, by simp, by unfold maxLen; omega, hk.lt, fun i hi => ?_⟩
    have e : i = 0 := by simp at hi; omega
    subst e
    exact ⟨bv, fun j hj => by simp only [Nat.zero_mul, Nat.zero_add]; exact hk.cell j, ho.rd⟩
theorem OwnKN.below {B base : Nat} {w w' : World} {v : Value} {l : List Bk} (h : OwnKN base w v l) (hb : Below B w w') (hB : w.heap.size ≤ B) : OwnKN base w' v l := by
  rcases h with h | h | ⟨g, b, bv, h1, h2, hg, hk, ho⟩
  · exact .inl h
  · exact .inr (.inl (h.below hb hB))
  · exact .inr (.inr ⟨g, b, bv, h1, h2, hg, hk.below hb (by have := hk.lt; omega), ho.below9 hb hB⟩)
theorem OwnKN.notg {base : Nat} {w w' : World} {v : Value} {l : List Bk} {g : Nat} (h : OwnKN base w v l) (hg : w.grownBy w' (some g)) (hb : g < base) : OwnKN base w' v l := by
  rcases h with h | h | ⟨k, b, bv, h1, h2, hk0, hk, ho⟩
  · exact .inl h
  · exact .inr (.inl (h.notg hg hb))
  · exact .inr (.inr ⟨k, b, bv, h1, h2, hk0, grown_blk hk hg (fun e => by injection e with e; omega), ⟨row_notg ho.q hg hb, row_notg ho.p hg hb, row_notg ho.h hg hb, row_notg ho.t hg hb, row_notg ho.n hg hb⟩⟩)
theorem OwnKN.mono {base base' : Nat} {w : World} {v : Value} {l : List Bk} (h : OwnKs base w v l) (hB : base' ≤ base) : OwnKs base' w v l := by
  obtain ⟨g, cap, Z, hZ, rfl, hr, hk⟩ := h
  refine ⟨g, cap, Z, hZ, rfl, ⟨hr.1, ?_⟩, ⟨fun i hi => (hk.own i hi).mono9 hB, hk.far, hk.inner, hk.apart⟩⟩
  rcases hr.2 with h' | ⟨g', cap', cur, hv, hbb, r⟩
  · exact .inl h'
  · exact .inr ⟨g', cap', cur, hv, by omega, r⟩
theorem row_mono {base base' : Nat} {w : World} {e : TypeId} {size : Nat} {v : Value} {n : Nat} {xs : List Value} (h : w.ownsRow base e size v n xs) (hB : base' ≤ base) : w.ownsRow base' e size v n xs := by
  refine ⟨h.1, ?_⟩
  rcases h.2 with h' | ⟨g', cap', cur, hv, hbb, r⟩
  · exact .inl h'
  · exact .inr ⟨g', cap', cur, hv, by omega, r⟩
/-- A word half put together in block B; the answer's place is still empty. -/
structure Wk (w0 w W : World) (g B : Nat) (cv : Value) (code : List UInt8) (m : Mg) (v : Mv) : Prop where
  z : Blk W w.heap.size 37 [.int .i64 0, .string { data := #[] }, .int .i64 0, .slice none 0 0, .int .i64 0, .int .i64 0, .string { data := #[] }, .int .i64 0, .int .i64 0, .string { data := #[] }, .int .i64 0, .int .i64 0, .slice none 0 0, .int .i64 0, .slice none 0 0, .slice none 0 0]
  o : Blk W B 37 (mgC m v)
  lo : w.heap.size < B
  b : OwnKN (B + 1) W v.b m.bs
  q : OwnS (B + 1) W v.q m.qw
  p : OwnS (B + 1) W v.w m.tw
  h : OwnI (B + 1) W v.h m.th
  cur : Cur w0 W g cv code
  grw : w.grownBy W (some g)
  gl : g < w.heap.size
theorem Wk.call {w0 w W W' : World} {g B : Nat} {cv : Value} {code : List UInt8} {m : Mg} {v : Mv} (h : Wk w0 w W g B cv code m v) (hc : Cur w0 W' g cv code) (hg : W.grownBy W' (some g)) : Wk w0 w W' g B cv code m v :=
  have hl := h.lo
  have hgl := h.gl
  ⟨grown_blk h.z hg (fun e => by injection e with e; omega), grown_blk h.o hg (fun e => by injection e with e; omega), h.lo, h.b.notg hg (by omega), row_notg h.q hg (by omega), row_notg h.p hg (by omega), row_notg h.h hg (by omega), hc, grw_trans h.grw hg, h.gl⟩
theorem Wk.bel {w0 w W W' : World} {g B : Nat} {cv : Value} {code : List UInt8} {m : Mg} {v : Mv} (h : Wk w0 w W g B cv code m v) (hb : Below W.heap.size W W') : Wk w0 w W' g B cv code m v :=
  have hl := h.o.lt
  ⟨h.z.below hb h.z.lt, h.o.below hb h.o.lt, h.lo, h.b.below hb (Nat.le_refl _), row_below h.q hb (Nat.le_refl _), row_below h.p hb (Nat.le_refl _), row_below h.h hb (Nat.le_refl _), h.cur.below hb h.cur.lt, grw_below h.grw hb (by have := h.grw.size; omega), h.gl⟩
/-- One of its cells is written. -/
theorem Wk.put {w0 w W : World} {g B : Nat} {cv : Value} {code : List UInt8} {m m' : Mg} {v v' : Mv} (h : Wk w0 w W g B cv code m v) (j : Nat) (u : Value) (he : (mgC m v).set j u = mgC m' v')
    (hb : OwnKN (B + 1) W v'.b m'.bs) (hq : OwnS (B + 1) W v'.q m'.qw) (hp : OwnS (B + 1) W v'.w m'.tw) (hh : OwnI (B + 1) W v'.h m'.th) : Wk w0 w (W.setCell ⟨B, j, none⟩ u) g B cv code m' v' := by
  have hl := h.lo
  have hgl := h.gl
  have hg := grown_set W B j u
  have ho : Blk (W.setCell ⟨B, j, none⟩ u) B 37 (mgC m' v') := by rw [← he]; exact h.o.setS j u
  have hbel : Below B W (W.setCell ⟨B, j, none⟩ u) := (Below.refl _ W).setCell (p := ⟨B, j, none⟩) (Nat.le_refl _) _
  exact ⟨grown_blk h.z hg (fun e => by injection e with e; omega), ho, h.lo, hb.notg hg (by omega), row_notg hq hg (by omega), row_notg hp hg (by omega), row_notg hh hg (by omega), h.cur.below hbel (by omega), grw_below h.grw hbel (by omega), h.gl⟩
structure OwnM (base : Nat) (w : World) (m : Mg) (v : Mv) : Prop where
  b : OwnKN base w v.b m.bs
  q : OwnS base w v.q m.qw
  p : OwnS base w v.w m.tw
  h : OwnI base w v.h m.th
theorem OwnM.rd {base : Nat} {w : World} {m : Mg} {v : Mv} (h : OwnM base w m v) : RdM w m v := ⟨h.b.rd, OwnS.rd h.q, OwnS.rd h.p, OwnI.rd h.h⟩
theorem OwnM.notg {base : Nat} {w w' : World} {m : Mg} {v : Mv} {g : Nat} (h : OwnM base w m v) (hg : w.grownBy w' (some g)) (hb : g < base) : OwnM base w' m v :=
  ⟨h.b.notg hg hb, row_notg h.q hg hb, row_notg h.p hg hb, row_notg h.h hg hb⟩
theorem OwnM.below {B base : Nat} {w w' : World} {m : Mg} {v : Mv} (h : OwnM base w m v) (hb : Below B w w') (hB : w.heap.size ≤ B) : OwnM base w' m v :=
  ⟨h.b.below hb hB, row_below h.q hb hB, row_below h.p hb hB, row_below h.h hb hB⟩
/-- Of a block: its lists are short, there is a High for each name, its numbers are of 64 bits. -/
structure FcB (b : Bk) : Prop where
  q : b.qw.length ≤ 1000 ∧ ∀ s ∈ b.qw, s.size ≤ maxLen
  t : b.tw.length ≤ 1000 ∧ ∀ s ∈ b.tw, s.size ≤ maxLen
  wt : b.tw.length ≤ b.th.length
  n : (Lit.int .i64 b.qr).wf = true ∧ (Lit.int .i64 b.qb).wf = true ∧ (Lit.int .i64 b.tr).wf = true
  h : ∀ x ∈ b.th, (Lit.int .i64 x).wf = true
/-- Of a word likewise; and V is there just where it has a name (G likewise). -/
structure FcM (m : Mg) : Prop where
  bl : m.bs.length ≤ 1000
  bk : ∀ b ∈ m.bs, FcB b
  q : m.qw.length ≤ 1000 ∧ ∀ s ∈ m.qw, s.size ≤ maxLen
  t : m.tw.length ≤ 1000 ∧ ∀ s ∈ m.tw, s.size ≤ maxLen
  wt : m.tw.length ≤ m.th.length
  n : (Lit.int .i64 m.qr).wf = true ∧ (Lit.int .i64 m.qb).wf = true ∧ (Lit.int .i64 m.tr).wf = true ∧ (Lit.int .i64 m.ep).wf = true
  h : ∀ x ∈ m.th, (Lit.int .i64 x).wf = true
  v : (m.kd ≠ 2 ∧ m.vr = 0 ∧ m.vb = 0 ∧ m.vw = { data := #[] }) ∨ (m.vw ≠ { data := #[] } ∧ m.vw.size ≤ maxLen ∧ (Lit.int .i64 m.vr).wf = true ∧ (Lit.int .i64 m.vb).wf = true)
  g : (m.kd ≠ 3 ∧ m.gr = 0 ∧ m.gh = 0 ∧ m.gw = { data := #[] }) ∨ (m.gw ≠ { data := #[] } ∧ m.gw.size ≤ maxLen ∧ (Lit.int .i64 m.gr).wf = true ∧ (Lit.int .i64 m.gh).wf = true)
theorem fcB_of {b : Bk} (h : SmKs b) (hw : b.tw.length ≤ b.th.length) : FcB b := by
  have m : 1000 ≤ maxLen := by unfold maxLen; omega
  have h1 := h.q
  have h2 := h.w
  have h3 := h.tr
  exact ⟨⟨by omega, fun s hs => by have := h1.2 s hs; omega⟩, ⟨by omega, fun s hs => by have := h2.2 s hs; omega⟩, hw, ⟨h.qn.1, h.qn.2, wfS_mk (by omega) (by omega)⟩, h.hn⟩
theorem fcB_tree {l : List Bk} (ht : treeB l = true) (hd : ∀ x ∈ l, DtK x) : ∀ b ∈ l, FcB b := by
  intro b hb
  obtain ⟨i, hi, rfl⟩ := List.mem_iff_getElem.1 hb
  have hp := ((treeP_of ht).2 i hi).1
  have hf := (hd _ hb).few
  have htr := (hd _ hb).tr
  generalize l[i] = b at hp hf htr
  unfold blB at hp
  simp only [Bool.and_eq_true] at hp
  obtain ⟨hid, -, hrd, -, hq, ht9, -⟩ := hp
  unfold inB at hid hrd
  simp only [decide_eq_true_eq] at hid hrd
  have ht : b.tw = [] ∧ b.th = [] := by
    unfold t9B noneB inB at ht9
    rw [htr] at ht9
    simp only [Bool.or_eq_true, Bool.and_eq_true, decide_eq_true_eq] at ht9
    rcases ht9 with h | h
    · exact ⟨List.length_eq_zero_iff.1 h.2.1, List.length_eq_zero_iff.1 h.2.2⟩
    · omega
  have hq2 : b.qw.length ≤ 20 ∧ (0 ≤ b.qr ∧ b.qr ≤ 10000) ∧ -1 ≤ b.qb ∧ b.qb ≤ 100000 := by
    have e1 : wrap64 (b.rd - 1) = b.rd - 1 := by unfold wrap64; omega
    have e2 : wrap64 (b.id - 1) = b.id - 1 := by unfold wrap64; omega
    unfold q9B rootB inB nmsB at hq
    rw [e1, e2] at hq
    simp only [Bool.or_eq_true, Bool.and_eq_true, decide_eq_true_eq] at hq
    rcases hq with h | h
    · omega
    · omega
  exact ⟨⟨by omega, hf.qs⟩, ⟨by rw [ht.1]; simp, hf.ws⟩, by rw [ht.1]; simp, ⟨wfS_mk (by omega) (by omega), wfS_mk (by omega) (by omega), by rw [htr]; exact wfS_mk (by omega) (by omega)⟩, by rw [ht.2]; simp⟩
set_option maxRecDepth 20000 in
set_option maxHeartbeats 8000000 in
theorem l13Draw_any (w0 w : World) (g : Nat) (cv : Value) (code : List UInt8) (hc : Cur w0 w g cv code) (hl : code.length ≤ 1048576) :
    Calls Try.prog 12 #[.pointer (some ⟨g, 0, none⟩)] w fun e w' => ∃ (m : Mg) (v : Mv), e = .returned (mgV m v) ∧ OwnM w.heap.size w' m v ∧ FcM m ∧ Cur w0 w' g cv code ∧ w.grownBy w' (some g) := by
  have hgl := hc.lt
  obtain ⟨w1, hw1⟩ : ∃ w1, w.alloc (.cells #[.int .i64 0, .string { data := #[] }, .int .i64 0, .slice none 0 0, .int .i64 0, .int .i64 0, .string { data := #[] }, .int .i64 0, .int .i64 0, .string { data := #[] }, .int .i64 0, .int .i64 0, .slice none 0 0, .int .i64 0, .slice none 0 0, .slice none 0 0] 37) = w1 := ⟨_, rfl⟩
  have hb1 : Below w.heap.size w w1 := by rw [← hw1]; exact (Below.refl _ w).alloc (Nat.le_refl _) _
  have hs1 : w1.heap.size = w.heap.size + 1 := by rw [← hw1]; simp
  have K1 : Hid (Blk w1 w.heap.size 37 [.int .i64 0, .string { data := #[] }, .int .i64 0, .slice none 0 0, .int .i64 0, .int .i64 0, .string { data := #[] }, .int .i64 0, .int .i64 0, .string { data := #[] }, .int .i64 0, .int .i64 0, .slice none 0 0, .int .i64 0, .slice none 0 0, .slice none 0 0]) := hide (by rw [← hw1]; exact Blk.new w _ _)
  have Hc1 := hide (hc.below hb1 hgl)
  have HG1 := hide (grw_of_below (some g) hb1 (Nat.le_refl _))
  clear hc hb1
  go_enter Try.func12, Try.ntmps12
  go_wp2_with fail
  refine (l1Below_any w0 _ g cv code 4 Hc1.out hl (by omega) (by omega)).mono ?_
  rintro e w2 ⟨x1, rfl, hx1, -, hc2, hg2⟩
  have hx4 : (x1 : Int) < 4 := hx1 (by omega)
  have K2 := hide (grown_blk K1.out hg2 (fun e => by injection e with e; omega))
  have HG2 := hide (grw_trans HG1.out hg2)
  have hs2 := hg2.size
  clear hg2 K1 HG1 Hc1 hx1
  go_wp2_with fail
  refine (l1NameS_any w0 _ g cv code hc2 hl).mono ?_
  rintro e w3 ⟨nm, rfl, hnm, hc3, hg3⟩
  have K3 := hide (grown_blk K2.out hg3 (fun e => by injection e with e; omega))
  have HG3 := hide (grw_trans HG2.out hg3)
  have hs3 := hg3.size
  clear hg3 K2 HG2 hc2
  go_wp2_with fail
  refine (l1Below_any w0 _ g cv code 2 hc3 hl (by omega) (by omega)).mono ?_
  rintro e w4 ⟨x2, rfl, hx2, -, hc4, hg4⟩
  have hx22 : (x2 : Int) < 2 := hx2 (by omega)
  have K4 := hide (grown_blk K3.out hg4 (fun e => by injection e with e; omega))
  have HG4 := hide (grw_trans HG3.out hg4)
  have hs4 := hg4.size
  clear hg4 K3 HG3 hc3 hx2
  obtain ⟨w5, hw5⟩ : ∃ x, w4.alloc (.cells #[.int .i64 (1 + (x1 : Int)), .string nm, .int .i64 (x2 : Int), .slice none 0 0, .int .i64 0, .int .i64 0, .string { data := #[] }, .int .i64 0, .int .i64 0, .string { data := #[] }, .int .i64 0, .int .i64 (-1), .slice none 0 0, .int .i64 0, .slice none 0 0, .slice none 0 0] 37) = x := ⟨_, rfl⟩
  have b5 : Below w4.heap.size w4 w5 := by rw [← hw5]; exact (Below.refl _ w4).alloc (Nat.le_refl _) _
  have HD5 : Hid (Wk w0 w w5 g w4.heap.size cv code ⟨1 + (x1 : Int), nm, (x2 : Int), [], 0, 0, { data := #[] }, 0, 0, { data := #[] }, 0, -1, [], 0, [], []⟩ ⟨.slice none 0 0, .slice none 0 0, .slice none 0 0, .slice none 0 0⟩) := hide
    ⟨K4.out.below b5 K4.out.lt, by rw [← hw5]; exact Blk.new w4 _ _, by omega, .inl ⟨rfl, rfl⟩, nilSK _ _, nilSK _ _, nilIK _ _, hc4.below b5 hc4.lt, grw_below HG4.out b5 (by omega), hgl⟩
  have Hw5 := hide hw5
  clear b5 K4 HG4 hc4 hw5
  have hkd : (1 + (x1 : Int) = 1 ∨ 1 + (x1 : Int) = 2) ∨ (1 + (x1 : Int) = 3 ∨ 1 + (x1 : Int) = 4) := by omega
  have hBl : w.heap.size < w4.heap.size := by omega
  go_upto_region 2 with fail
  rw [Hw5.out]
  clear Hw5
  generalize 1 + (x1 : Int) = kd at *
  generalize w4.heap.size = B at *
  have c0 := Blk.cell HD5.out.o 0
  simp only [mgC, List.getElem?_cons_zero, List.getElem?_cons_succ] at c0
  go_upto_block 0 with fail
  go_cut [] from 4 (fun wc => ∃ (m : Mg) (v : Mv), Wk w0 w wc g B cv code m v ∧ FcM m)
  case first =>
    rcases hkd with (rfl | rfl) | (rfl | rfl)
    · clear c0
      go_wp2_with fail
      refine (l9DrawS_any w0 _ g cv code HD5.out.cur hl).mono ?_
      rintro e w6 ⟨b, bv, rfl, ob, hsm, hc6, hg6⟩
      have HD6 := hide (HD5.out.call hc6 hg6)
      have hs5 := Blk.lt HD5.out.o
      have hs6 := hg6.size
      have HFb := hide (fcB_of hsm.1 hsm.2)
      have hie := hsm.1.ie
      obtain ⟨w7, hw7⟩ : ∃ x, w6.alloc (.cells (bkC b bv).toArray 57) = x := ⟨_, rfl⟩
      have b7 : Below w6.heap.size w6 w7 := by rw [← hw7]; exact (Below.refl _ w6).alloc (Nat.le_refl _) _
      have k7 : Blk w7 w6.heap.size 57 (bkC b bv) := by rw [← hw7]; exact Blk.new w6 _ _
      have HD7 := hide (HD6.out.bel b7)
      have o7 := (ob.below9 b7 (Nat.le_refl _)).mono9 (base' := B + 1) (by omega)
      have HN7 : Hid (OwnKN (B + 1) w7 (.slice (some ⟨w6.heap.size, 0, none⟩) 1 1) [b]) := hide (.inr (.inr ⟨_, b, bv, rfl, rfl, by omega, k7, o7⟩))
      have HDa := hide (HD7.out.put 3 (.slice (some ⟨w6.heap.size, 0, none⟩) 1 1) (m' := ⟨1, nm, (x2 : Int), [b], 0, 0, { data := #[] }, 0, 0, { data := #[] }, 0, -1, [], 0, [], []⟩) (v' := ⟨.slice (some ⟨w6.heap.size, 0, none⟩) 1 1, .slice none 0 0, .slice none 0 0, .slice none 0 0⟩) rfl (HN7.out) (HD7.out.q) (HD7.out.p) (HD7.out.h))
      obtain ⟨w8, hw8⟩ : ∃ x, w7.setCell ⟨B, 3, none⟩ (.slice (some ⟨w6.heap.size, 0, none⟩) 1 1) = x := ⟨_, rfl⟩
      have k8 : Blk w8 w6.heap.size 57 (bkC b bv) := by rw [← hw8]; exact grown_blk k7 (grown_set w7 B 3 _) (fun e => by injection e with e; omega)
      rw [hw8] at HDa
      have HDb := hide (HDa.out.put 2 (.int .i64 b.ep) (m' := ⟨1, nm, b.ep, [b], 0, 0, { data := #[] }, 0, 0, { data := #[] }, 0, -1, [], 0, [], []⟩) (v' := ⟨.slice (some ⟨w6.heap.size, 0, none⟩) 1 1, .slice none 0 0, .slice none 0 0, .slice none 0 0⟩) rfl (HDa.out.b) (HDa.out.q) (HDa.out.p) (HDa.out.h))
      have c3 := Blk.cell HD7.out.o 3
      have f3 := Blk.frozen HD7.out.o 3
      simp only [mgC, List.getElem?_cons_zero, List.getElem?_cons_succ] at c3
      have d2 := Blk.cell HDa.out.o 2
      have d3 := Blk.cell HDa.out.o 3
      have e2 := Blk.frozen HDa.out.o 2
      have d1 := k8.cell 1
      simp only [mgC, bkC, List.getElem?_cons_zero, List.getElem?_cons_succ] at d1 d2 d3
      have HF : Hid (FcM ⟨1, nm, b.ep, [b], 0, 0, { data := #[] }, 0, 0, { data := #[] }, 0, -1, [], 0, [], []⟩) := hide
        ⟨by simp, fun x hx => by rw [List.mem_singleton.1 hx]; exact HFb.out, by simp, by simp, by simp, ⟨wfS_mk (by simp) (by simp), wfS_mk (by simp) (by simp), wfS_mk (by simp) (by simp), wfS_mk (by simp only; omega) (by simp only; omega)⟩, by simp, .inl ⟨by simp, rfl, rfl, rfl⟩, .inl ⟨by simp, rfl, rfl, rfl⟩⟩
      simp only [bkC] at hw7
      simp only [bkV]
      clear HD6 HD7 HDa ob k7 k8 o7 hsm hc6 hg6 b7
      go_wp2
      go_meet
      case rel => exact ⟨_, _, HDb.out, HF.out⟩
    · clear c0
      go_wp2_with fail
      refine (l1Below_any w0 _ g cv code 3 HD5.out.cur hl (by omega) (by omega)).mono ?_
      rintro e w6 ⟨y1, rfl, hy1, -, hc6, hg6⟩
      have hy3 : (y1 : Int) < 3 := hy1 (by omega)
      have HD6 := hide (HD5.out.call hc6 hg6)
      clear hc6 hg6 hy1
      go_wp2_with fail
      refine (l1Below_any w0 _ g cv code 4 HD6.out.cur hl (by omega) (by omega)).mono ?_
      rintro e w7 ⟨y2, rfl, hy2, -, hc7, hg7⟩
      have hy4 : (y2 : Int) < 4 := hy2 (by omega)
      have HD7 := hide (HD6.out.call hc7 hg7)
      clear hc7 hg7 hy2 HD6
      go_wp2_with fail
      refine (l1NameS_any w0 _ g cv code HD7.out.cur hl).mono ?_
      rintro e w8 ⟨n2, rfl, hn2, hc8, hg8⟩
      have HD8 := hide (HD7.out.call hc8 hg8)
      clear hc8 hg8 HD7
      have HDa := hide (HD8.out.put 4 (.int .i64 (1 + (y1 : Int))) (m' := ⟨2, nm, (x2 : Int), [], 1 + (y1 : Int), 0, { data := #[] }, 0, 0, { data := #[] }, 0, -1, [], 0, [], []⟩) (v' := ⟨.slice none 0 0, .slice none 0 0, .slice none 0 0, .slice none 0 0⟩) rfl HD8.out.b HD8.out.q HD8.out.p HD8.out.h)
      have HDb := hide (HDa.out.put 5 (.int .i64 (y2 : Int)) (m' := ⟨2, nm, (x2 : Int), [], 1 + (y1 : Int), (y2 : Int), { data := #[] }, 0, 0, { data := #[] }, 0, -1, [], 0, [], []⟩) (v' := ⟨.slice none 0 0, .slice none 0 0, .slice none 0 0, .slice none 0 0⟩) rfl HDa.out.b HDa.out.q HDa.out.p HDa.out.h)
      have HDc := hide (HDb.out.put 6 (.string n2) (m' := ⟨2, nm, (x2 : Int), [], 1 + (y1 : Int), (y2 : Int), n2, 0, 0, { data := #[] }, 0, -1, [], 0, [], []⟩) (v' := ⟨.slice none 0 0, .slice none 0 0, .slice none 0 0, .slice none 0 0⟩) rfl HDb.out.b HDb.out.q HDb.out.p HDb.out.h)
      have c4 := Blk.cell HD8.out.o 4
      have c5 := Blk.cell HD8.out.o 5
      have c6 := Blk.cell HD8.out.o 6
      have f4 := Blk.frozen HD8.out.o 4
      have f5 := Blk.frozen HD8.out.o 5
      have f6 := Blk.frozen HD8.out.o 6
      simp only [mgC, List.getElem?_cons_zero, List.getElem?_cons_succ] at c4 c5 c6
      have HF : Hid (FcM ⟨2, nm, (x2 : Int), [], 1 + (y1 : Int), (y2 : Int), n2, 0, 0, { data := #[] }, 0, -1, [], 0, [], []⟩) := hide
        ⟨by simp, by simp, by simp, by simp, by simp, ⟨wfS_mk (by simp) (by simp), wfS_mk (by simp) (by simp), wfS_mk (by simp) (by simp), wfS_mk (by simp only; omega) (by simp only; omega)⟩, by simp, .inr ⟨hn2.2, by have := hn2.1; show n2.size ≤ maxLen; unfold maxLen; omega, wfS_mk (by simp only; omega) (by simp only; omega), wfS_mk (by simp only; omega) (by simp only; omega)⟩, .inl ⟨by simp, rfl, rfl, rfl⟩⟩
      clear HD8 HDa HDb
      go_wp2
      go_meet
      case rel => exact ⟨_, _, HDc.out, HF.out⟩
    · clear c0
      go_wp2_with fail
      refine (l8Qc_any w0 _ g cv code HD5.out.cur hl).mono ?_
      rintro e w6 ⟨r, k, vq, ls, rfl, hrk, oq, hl7, hl9, hc6, hg6⟩
      obtain ⟨aq, cq, rfl⟩ := oq.rd.shape
      have hs5 := Blk.lt HD5.out.o
      have HD6 := hide (HD5.out.call hc6 hg6)
      have OQ := hide (row_mono (base' := B + 1) oq (by omega))
      have HDa := hide (HD6.out.put 10 (.int .i64 r) (m' := ⟨3, nm, (x2 : Int), [], 0, 0, { data := #[] }, 0, 0, { data := #[] }, r, -1, [], 0, [], []⟩) (v' := ⟨.slice none 0 0, .slice none 0 0, .slice none 0 0, .slice none 0 0⟩) rfl (HD6.out.b) (HD6.out.q) (HD6.out.p) (HD6.out.h))
      have HDb := hide (HDa.out.put 11 (.int .i64 k) (m' := ⟨3, nm, (x2 : Int), [], 0, 0, { data := #[] }, 0, 0, { data := #[] }, r, k, [], 0, [], []⟩) (v' := ⟨.slice none 0 0, .slice none 0 0, .slice none 0 0, .slice none 0 0⟩) rfl (HDa.out.b) (HDa.out.q) (HDa.out.p) (HDa.out.h))
      have OQb := hide (row_notg (row_notg OQ.out (grown_set w6 B 10 (.int .i64 r)) (by omega)) (grown_set _ B 11 (.int .i64 k)) (by omega))
      have HDc := hide (HDb.out.put 12 (.slice aq ls.length cq) (m' := ⟨3, nm, (x2 : Int), [], 0, 0, { data := #[] }, 0, 0, { data := #[] }, r, k, ls, 0, [], []⟩) (v' := ⟨.slice none 0 0, .slice aq ls.length cq, .slice none 0 0, .slice none 0 0⟩) rfl (HDb.out.b) (OQb.out) (HDb.out.p) (HDb.out.h))
      have c10 := Blk.cell HD6.out.o 10
      have f10 := Blk.frozen HD6.out.o 10
      have c11 := Blk.cell HD6.out.o 11
      have f11 := Blk.frozen HD6.out.o 11
      have c12 := Blk.cell HD6.out.o 12
      have f12 := Blk.frozen HD6.out.o 12
      simp only [mgC, List.getElem?_cons_zero, List.getElem?_cons_succ] at c10 c11 c12
      simp only [qcV]
      obtain ⟨w7, hw7⟩ : ∃ x, (((w6.setCell ⟨B, 10, none⟩ (.int .i64 r)).setCell ⟨B, 11, none⟩ (.int .i64 k)).setCell ⟨B, 12, none⟩ (.slice aq ls.length cq)) = x := ⟨_, rfl⟩
      rw [hw7] at HDc
      have HDd := hide (HDc.out.bel ((Below.refl _ w7).drew))
      have q10d := Blk.cell HDd.out.o 10
      simp only [mgC, List.getElem?_cons_zero, List.getElem?_cons_succ] at q10d
      have C1 := hide (fun V (hV : Cur w0 V g cv code) => l1Below_any w0 V g cv code 3 hV hl (by omega) (by omega))
      have C2 := hide (fun V (hV : Cur w0 V g cv code) => l1NameS_any w0 V g cv code hV hl)
      clear HDa HDb oq hc6 hg6 OQ OQb
      go_wp2
      clear c10 f10 c11 f11 c12 f12 HD6
      go_region_held_law (fun w' => w'.cell? ⟨B, 10, none⟩ = some (.int .i64 r)) (first | assumption)
        (first
        | (go_simp; go_at_call 29; (with_reducible refine (C2.out _ HDe.out.cur).mono ?_); rintro e w9 ⟨n2, rfl, hn2, hc9, hg9⟩; have HD9 := hide (HDe.out.call hc9 hg9); have q10 := Blk.cell HD9.out.o 10; have c7 := Blk.cell HD9.out.o 7; have c8 := Blk.cell HD9.out.o 8; have c9 := Blk.cell HD9.out.o 9; have f7 := Blk.frozen HD9.out.o 7; have f8 := Blk.frozen HD9.out.o 8; have f9 := Blk.frozen HD9.out.o 9; have HDx := hide (HD9.out.put 7 (.int .i64 (IntKind.i64.wrap (2 + (y1 : Int)))) (m' := ⟨3, nm, (x2 : Int), [], 0, 0, { data := #[] }, IntKind.i64.wrap (2 + (y1 : Int)), 0, { data := #[] }, r, k, ls, 0, [], []⟩) (v' := ⟨.slice none 0 0, .slice aq ls.length cq, .slice none 0 0, .slice none 0 0⟩) rfl HD9.out.b HD9.out.q HD9.out.p HD9.out.h); have HDy := hide (HDx.out.put 8 (.int .i64 r) (m' := ⟨3, nm, (x2 : Int), [], 0, 0, { data := #[] }, IntKind.i64.wrap (2 + (y1 : Int)), r, { data := #[] }, r, k, ls, 0, [], []⟩) (v' := ⟨.slice none 0 0, .slice aq ls.length cq, .slice none 0 0, .slice none 0 0⟩) rfl HDx.out.b HDx.out.q HDx.out.p HDx.out.h); have HDz := hide (HDy.out.put 9 (.string n2) (m' := ⟨3, nm, (x2 : Int), [], 0, 0, { data := #[] }, IntKind.i64.wrap (2 + (y1 : Int)), r, n2, r, k, ls, 0, [], []⟩) (v' := ⟨.slice none 0 0, .slice aq ls.length cq, .slice none 0 0, .slice none 0 0⟩) rfl HDy.out.b HDy.out.q HDy.out.p HDy.out.h); have q10z := Blk.cell HDz.out.o 10; simp only [mgC, List.getElem?_cons_zero, List.getElem?_cons_succ] at q10 c7 c8 c9 q10z; clear hc9 hg9)
        | (go_simp; go_at_call 28; (with_reducible refine (C1.out _ HDd.out.cur).mono ?_); rintro e w8 ⟨y1, rfl, hy1, -, hc8, hg8⟩; have hy3 : (y1 : Int) < 3 := hy1 (by omega); have HDe := hide (HDd.out.call hc8 hg8); have q10e := Blk.cell HDe.out.o 10; simp only [mgC, List.getElem?_cons_zero, List.getElem?_cons_succ] at q10e; clear hc8 hg8))
      have HF : Hid (FcM ⟨3, nm, (x2 : Int), [], 0, 0, { data := #[] }, IntKind.i64.wrap (2 + (y1 : Int)), r, n2, r, k, ls, 0, [], []⟩) := hide
        ⟨by simp, by simp, ⟨by show ls.length ≤ 1000; omega, fun s hs => by have := hl9 s hs; show _ ≤ maxLen; unfold maxLen; omega⟩, by simp, by simp, ⟨wfS_mk (by simp only; omega) (by simp only; omega), wfS_mk (by simp only; omega) (by simp only; omega), wfS_mk (by simp) (by simp), wfS_mk (by simp only; omega) (by simp only; omega)⟩, by simp, .inl ⟨by simp, rfl, rfl, rfl⟩, .inr ⟨hn2.2, by have := hn2.1; show n2.size ≤ maxLen; unfold maxLen; omega, wfS_mk (by simp only; rw [IntKind.wrap_i64]; omega) (by simp only; rw [IntKind.wrap_i64]; omega), wfS_mk (by simp only; omega) (by simp only; omega)⟩⟩
      go_wp2
      go_meet
      case rel => exact ⟨_, _, HDz.out, HF.out⟩
    · clear c0
      go_wp2_with fail
      refine (l10Draw_any w0 _ g cv code 5 HD5.out.cur hl (by omega)).mono ?_
      rintro e w6 ⟨vl, l, rfl, ol, htr, hll, hdt, hc6, hg6⟩
      obtain ⟨al, cl, rfl⟩ := ol.rd.shape
      have hs5 := Blk.lt HD5.out.o
      have HD6 := hide (HD5.out.call hc6 hg6)
      have HFl := hide (fcB_tree htr hdt)
      have HNl : Hid (OwnKN (B + 1) w6 (.slice al l.length cl) l) := hide (.inr (.inl (OwnKN.mono ol (by omega))))
      have HDa := hide (HD6.out.put 3 (.slice al l.length cl) (m' := ⟨4, nm, (x2 : Int), l, 0, 0, { data := #[] }, 0, 0, { data := #[] }, 0, -1, [], 0, [], []⟩) (v' := ⟨.slice al l.length cl, .slice none 0 0, .slice none 0 0, .slice none 0 0⟩) rfl (HNl.out) (HD6.out.q) (HD6.out.p) (HD6.out.h))
      have HDb := hide (HDa.out.put 2 (.int .i64 0) (m' := ⟨4, nm, 0, l, 0, 0, { data := #[] }, 0, 0, { data := #[] }, 0, -1, [], 0, [], []⟩) (v' := ⟨.slice al l.length cl, .slice none 0 0, .slice none 0 0, .slice none 0 0⟩) rfl (HDa.out.b) (HDa.out.q) (HDa.out.p) (HDa.out.h))
      have c3 := Blk.cell HD6.out.o 3
      have f3 := Blk.frozen HD6.out.o 3
      simp only [mgC, List.getElem?_cons_zero, List.getElem?_cons_succ] at c3
      have d2 := Blk.cell HDa.out.o 2
      have e2 := Blk.frozen HDa.out.o 2
      simp only [mgC, List.getElem?_cons_zero, List.getElem?_cons_succ] at d2
      obtain ⟨w7, hw7⟩ : ∃ x, ((w6.setCell ⟨B, 3, none⟩ (.slice al l.length cl)).setCell ⟨B, 2, none⟩ (.int .i64 0)) = x := ⟨_, rfl⟩
      rw [hw7] at HDb
      clear HDa HNl ol hc6 hg6
      go_wp2_with fail
      clear c3 f3 d2 e2
      refine (l8Qc_any w0 _ g cv code HDb.out.cur hl).mono ?_
      rintro e w8 ⟨r, k, vq, ls, rfl, hrk, oq, hl7, hl9, hc8, hg8⟩
      obtain ⟨aq, cq, rfl⟩ := oq.rd.shape
      have hs7 := Blk.lt HDb.out.o
      have HD8 := hide (HDb.out.call hc8 hg8)
      have OQ := hide (row_mono (base' := B + 1) oq (by omega))
      have HDc := hide (HD8.out.put 10 (.int .i64 r) (m' := ⟨4, nm, 0, l, 0, 0, { data := #[] }, 0, 0, { data := #[] }, r, -1, [], 0, [], []⟩) (v' := ⟨.slice al l.length cl, .slice none 0 0, .slice none 0 0, .slice none 0 0⟩) rfl (HD8.out.b) (HD8.out.q) (HD8.out.p) (HD8.out.h))
      have HDd := hide (HDc.out.put 11 (.int .i64 k) (m' := ⟨4, nm, 0, l, 0, 0, { data := #[] }, 0, 0, { data := #[] }, r, k, [], 0, [], []⟩) (v' := ⟨.slice al l.length cl, .slice none 0 0, .slice none 0 0, .slice none 0 0⟩) rfl (HDc.out.b) (HDc.out.q) (HDc.out.p) (HDc.out.h))
      have OQb := hide (row_notg (row_notg OQ.out (grown_set w8 B 10 (.int .i64 r)) (by omega)) (grown_set _ B 11 (.int .i64 k)) (by omega))
      have HDe := hide (HDd.out.put 12 (.slice aq ls.length cq) (m' := ⟨4, nm, 0, l, 0, 0, { data := #[] }, 0, 0, { data := #[] }, r, k, ls, 0, [], []⟩) (v' := ⟨.slice al l.length cl, .slice aq ls.length cq, .slice none 0 0, .slice none 0 0⟩) rfl (HDd.out.b) (OQb.out) (HDd.out.p) (HDd.out.h))
      have c10 := Blk.cell HD8.out.o 10
      have f10 := Blk.frozen HD8.out.o 10
      have c11 := Blk.cell HD8.out.o 11
      have f11 := Blk.frozen HD8.out.o 11
      have c12 := Blk.cell HD8.out.o 12
      have f12 := Blk.frozen HD8.out.o 12
      simp only [mgC, List.getElem?_cons_zero, List.getElem?_cons_succ] at c10 c11 c12
      simp only [qcV]
      obtain ⟨w9, hw9⟩ : ∃ x, (((w8.setCell ⟨B, 10, none⟩ (.int .i64 r)).setCell ⟨B, 11, none⟩ (.int .i64 k)).setCell ⟨B, 12, none⟩ (.slice aq ls.length cq)) = x := ⟨_, rfl⟩
      rw [hw9] at HDe
      clear HDc HDd oq hc8 hg8 OQ OQb
      go_wp2_with fail
      clear c10 f10 c11 f11 c12 f12
      refine (l8Tc_any w0 _ g cv code HDe.out.cur hl).mono ?_
      rintro e w10 ⟨t, vw, vh, ws, hs, rfl, ht3, ow, oh, hw7', hw9', hh8, hc10, hg10⟩
      obtain ⟨aw, cw, rfl⟩ := ow.rd.shape
      obtain ⟨ah, ch, rfl⟩ := oh.rd.shape
      have hs9 := Blk.lt HDe.out.o
      have HD10 := hide (HDe.out.call hc10 hg10)
      have OW := hide (row_mono (base' := B + 1) ow (by omega))
      have OH := hide (row_mono (base' := B + 1) oh (by omega))
      have HDf := hide (HD10.out.put 13 (.int .i64 t) (m' := ⟨4, nm, 0, l, 0, 0, { data := #[] }, 0, 0, { data := #[] }, r, k, ls, t, [], []⟩) (v' := ⟨.slice al l.length cl, .slice aq ls.length cq, .slice none 0 0, .slice none 0 0⟩) rfl (HD10.out.b) (HD10.out.q) (HD10.out.p) (HD10.out.h))
      have OWb := hide (row_notg OW.out (grown_set w10 B 13 (.int .i64 t)) (by omega))
      have OHb := hide (row_notg (row_notg OH.out (grown_set w10 B 13 (.int .i64 t)) (by omega)) (grown_set _ B 14 (.slice aw ws.length cw)) (by omega))
      have HDg := hide (HDf.out.put 14 (.slice aw ws.length cw) (m' := ⟨4, nm, 0, l, 0, 0, { data := #[] }, 0, 0, { data := #[] }, r, k, ls, t, ws, []⟩) (v' := ⟨.slice al l.length cl, .slice aq ls.length cq, .slice aw ws.length cw, .slice none 0 0⟩) rfl (HDf.out.b) (HDf.out.q) (OWb.out) (HDf.out.h))
      have HDh := hide (HDg.out.put 15 (.slice ah hs.length ch) (m' := ⟨4, nm, 0, l, 0, 0, { data := #[] }, 0, 0, { data := #[] }, r, k, ls, t, ws, hs⟩) (v' := ⟨.slice al l.length cl, .slice aq ls.length cq, .slice aw ws.length cw, .slice ah hs.length ch⟩) rfl (HDg.out.b) (HDg.out.q) (HDg.out.p) (OHb.out))
      have c13 := Blk.cell HD10.out.o 13
      have f13 := Blk.frozen HD10.out.o 13
      have c14 := Blk.cell HD10.out.o 14
      have f14 := Blk.frozen HD10.out.o 14
      have c15 := Blk.cell HD10.out.o 15
      have f15 := Blk.frozen HD10.out.o 15
      simp only [mgC, List.getElem?_cons_zero, List.getElem?_cons_succ] at c13 c14 c15
      simp only [tcV]
      have HF : Hid (FcM ⟨4, nm, 0, l, 0, 0, { data := #[] }, 0, 0, { data := #[] }, r, k, ls, t, ws, hs⟩) := hide
        ⟨hll, HFl.out, ⟨by show ls.length ≤ 1000; omega, fun s hs => by have := hl9 s hs; show _ ≤ maxLen; unfold maxLen; omega⟩, ⟨by show ws.length ≤ 1000; omega, fun s hs => by have := hw9' s hs; show _ ≤ maxLen; unfold maxLen; omega⟩, hh8.2.1, ⟨wfS_mk (by simp only; omega) (by simp only; omega), wfS_mk (by simp only; omega) (by simp only; omega), wfS_mk (by simp only; omega) (by simp only; omega), wfS_mk (by simp) (by simp)⟩, hh8.2.2, .inl ⟨by simp, rfl, rfl, rfl⟩, .inl ⟨by simp, rfl, rfl, rfl⟩⟩
      clear HDf HDg HD10 OW OH OWb OHb ow oh hc10 hg10
      go_wp2
      go_meet
      case rel => exact ⟨_, _, HDh.out, HF.out⟩
  case rest =>
    clear HD5 c0 hkd
    obtain ⟨m, v, hD, hF⟩ := hcut
    obtain ⟨vb, vq, vw, vh⟩ := v
    obtain ⟨ab, cb, hvb⟩ := hD.b.rd.shape
    obtain ⟨aq, cq, hvq⟩ := (OwnS.rd hD.q).shape
    obtain ⟨aw, cw, hvw⟩ := (OwnS.rd hD.p).shape
    obtain ⟨ah, ch, hvh⟩ := (OwnI.rd hD.h).shape
    simp only at hvb hvq hvw hvh
    subst hvb hvq hvw hvh
    have hlo := hD.lo
    have t0 := hD.o.cell 0
    have e0 := hD.z.cell 0
    have f0 := hD.z.frozen 0
    have t1 := hD.o.cell 1
    have e1 := hD.z.cell 1
    have f1 := hD.z.frozen 1
    have t2 := hD.o.cell 2
    have e2 := hD.z.cell 2
    have f2 := hD.z.frozen 2
    have t3 := hD.o.cell 3
    have e3 := hD.z.cell 3
    have f3 := hD.z.frozen 3
    have t4 := hD.o.cell 4
    have e4 := hD.z.cell 4
    have f4 := hD.z.frozen 4
    have t5 := hD.o.cell 5
    have e5 := hD.z.cell 5
    have f5 := hD.z.frozen 5
    have t6 := hD.o.cell 6
    have e6 := hD.z.cell 6
    have f6 := hD.z.frozen 6
    have t7 := hD.o.cell 7
    have e7 := hD.z.cell 7
    have f7 := hD.z.frozen 7
    have t8 := hD.o.cell 8
    have e8 := hD.z.cell 8
    have f8 := hD.z.frozen 8
    have t9 := hD.o.cell 9
    have e9 := hD.z.cell 9
    have f9 := hD.z.frozen 9
    have t10 := hD.o.cell 10
    have e10 := hD.z.cell 10
    have f10 := hD.z.frozen 10
    have t11 := hD.o.cell 11
    have e11 := hD.z.cell 11
    have f11 := hD.z.frozen 11
    have t12 := hD.o.cell 12
    have e12 := hD.z.cell 12
    have f12 := hD.z.frozen 12
    have t13 := hD.o.cell 13
    have e13 := hD.z.cell 13
    have f13 := hD.z.frozen 13
    have t14 := hD.o.cell 14
    have e14 := hD.z.cell 14
    have f14 := hD.z.frozen 14
    have t15 := hD.o.cell 15
    have e15 := hD.z.cell 15
    have f15 := hD.z.frozen 15
    simp only [mgC, List.getElem?_cons_zero, List.getElem?_cons_succ] at t0 e0 t1 e1 t2 e2 t3 e3 t4 e4 t5 e5 t6 e6 t7 e7 t8 e8 t9 e9 t10 e10 t11 e11 t12 e12 t13 e13 t14 e14 t15 e15
    have hG := grw_trans (grw_trans (grw_trans (grw_trans (grw_trans (grw_trans (grw_trans (grw_trans (grw_trans (grw_trans (grw_trans (grw_trans (grw_trans (grw_trans (grw_trans (grown_set (wc) w.heap.size 0 (.int .i64 m.kd)) (grown_set _ w.heap.size 1 (.string m.tn))) (grown_set _ w.heap.size 2 (.int .i64 m.ep))) (grown_set _ w.heap.size 3 (.slice ab m.bs.length cb))) (grown_set _ w.heap.size 4 (.int .i64 m.vr))) (grown_set _ w.heap.size 5 (.int .i64 m.vb))) (grown_set _ w.heap.size 6 (.string m.vw))) (grown_set _ w.heap.size 7 (.int .i64 m.gr))) (grown_set _ w.heap.size 8 (.int .i64 m.gh))) (grown_set _ w.heap.size 9 (.string m.gw))) (grown_set _ w.heap.size 10 (.int .i64 m.qr))) (grown_set _ w.heap.size 11 (.int .i64 m.qb))) (grown_set _ w.heap.size 12 (.slice aq m.qw.length cq))) (grown_set _ w.heap.size 13 (.int .i64 m.tr))) (grown_set _ w.heap.size 14 (.slice aw m.tw.length cw))) (grown_set _ w.heap.size 15 (.slice ah m.th.length ch))
    have hBl := (((((((((((((((((Below.refl w.heap.size wc).setCell (p := ⟨w.heap.size, 0, none⟩) (Nat.le_refl _) (.int .i64 m.kd)).setCell (p := ⟨w.heap.size, 1, none⟩) (Nat.le_refl _) (.string m.tn)).setCell (p := ⟨w.heap.size, 2, none⟩) (Nat.le_refl _) (.int .i64 m.ep)).setCell (p := ⟨w.heap.size, 3, none⟩) (Nat.le_refl _) (.slice ab m.bs.length cb)).setCell (p := ⟨w.heap.size, 4, none⟩) (Nat.le_refl _) (.int .i64 m.vr)).setCell (p := ⟨w.heap.size, 5, none⟩) (Nat.le_refl _) (.int .i64 m.vb)).setCell (p := ⟨w.heap.size, 6, none⟩) (Nat.le_refl _) (.string m.vw)).setCell (p := ⟨w.heap.size, 7, none⟩) (Nat.le_refl _) (.int .i64 m.gr)).setCell (p := ⟨w.heap.size, 8, none⟩) (Nat.le_refl _) (.int .i64 m.gh)).setCell (p := ⟨w.heap.size, 9, none⟩) (Nat.le_refl _) (.string m.gw)).setCell (p := ⟨w.heap.size, 10, none⟩) (Nat.le_refl _) (.int .i64 m.qr)).setCell (p := ⟨w.heap.size, 11, none⟩) (Nat.le_refl _) (.int .i64 m.qb)).setCell (p := ⟨w.heap.size, 12, none⟩) (Nat.le_refl _) (.slice aq m.qw.length cq)).setCell (p := ⟨w.heap.size, 13, none⟩) (Nat.le_refl _) (.int .i64 m.tr)).setCell (p := ⟨w.heap.size, 14, none⟩) (Nat.le_refl _) (.slice aw m.tw.length cw)).setCell (p := ⟨w.heap.size, 15, none⟩) (Nat.le_refl _) (.slice ah m.th.length ch))
    have HO := hide (OwnM.mk ((hD.b.notg hG (by omega)).imp id (fun h => h.imp (fun k => OwnKN.mono k (base' := w.heap.size) (by omega)) (fun ⟨k, b, bv, h1, h2, h3, h4, h5⟩ => ⟨k, b, bv, h1, h2, by omega, h4, h5.mono9 (by omega)⟩))) (row_mono (base' := w.heap.size) (row_notg hD.q hG (by omega)) (by omega)) (row_mono (base' := w.heap.size) (row_notg hD.p hG (by omega)) (by omega)) (row_mono (base' := w.heap.size) (row_notg hD.h hG (by omega)) (by omega)))
    have HC := hide (hD.cur.below hBl hgl)
    have HGr := hide (grw_below hD.grw hBl (Nat.le_refl _))
    have HF := hide hF
    clear hD hF hG hBl
    go_wp2
    refine bodyPost_ret (v := .agg #[.int .i64 m.kd, .string m.tn, .int .i64 m.ep, .slice ab m.bs.length cb, .int .i64 m.vr, .int .i64 m.vb, .string m.vw, .int .i64 m.gr, .int .i64 m.gh, .string m.gw, .int .i64 m.qr, .int .i64 m.qb, .slice aq m.qw.length cq, .int .i64 m.tr, .slice aw m.tw.length cw, .slice ah m.th.length ch]) (by simp [results, Try.f12, go_sem, e0, e1, e2, e3, e4, e5, e6, e7, e8, e9, e10, e11, e12, e13, e14, e15]) rfl ?_
    exact ⟨m, ⟨_, _, _, _⟩, rfl, HO.out, HF.out, HC.out, HGr.out⟩
end Go.Proofs.Ytkidfkngehcjgaa
