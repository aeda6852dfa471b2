/- Blocks drawn. -/
import Derived.Test.YtbjeonnaannofaaZaDrawTx5
import Derived.Test.YtbjeonnaannofaaZaDrawVs
import Derived.Test.YtbjeonnaannofaaZaDigSpec
import Derived.Test.YtbjeonnaannofaaZaBkMark
import Derived.Deep.RegionLaw
import Derived.Deep.RegionHeldLaw
import Derived.Deep.Cut
import Derived.Maps.AppendAt
namespace Go.Proofs.Ytbjeonnaannofaa
open Go.RowKit
set_option linter.unusedVariables false

/-- What is drawn is small. -/
structure SmK (b : Bk) : Prop where
  ie : (0 ≤ b.id ∧ b.id ≤ 6) ∧ 0 ≤ b.ep ∧ b.ep ≤ 1
  rd : 2 ≤ b.rd ∧ b.rd ≤ 5
  tr : 0 ≤ b.tr ∧ b.tr ≤ 5
  q : b.qw.length ≤ 5 ∧ ∀ s ∈ b.qw, s.size ≤ 9
  w : b.tw.length ≤ 5 ∧ ∀ s ∈ b.tw, s.size ≤ 9
  h : b.th.length ≤ 5
  t : b.ts.length ≤ 4 ∧ ∀ t ∈ b.ts, SmT t
  n : b.nx.length ≤ 5 ∧ ∀ p ∈ b.nx, p.1.size ≤ 9
  m : b.md.size ≤ 9
  r : b.rt.size ≤ 40
theorem SmK.few {b : Bk} (h : SmK b) : FewK b := by
  have e : maxLen = 9223372036854775807 ∨ 1000 ≤ maxLen := .inr (by unfold maxLen; omega)
  have m : 1000 ≤ maxLen := by unfold maxLen; omega
  have h1 := h.q
  have h2 := h.w
  have h3 := h.h
  have h4 := h.t
  have h5 := h.n
  have h6 := h.m
  have h7 := h.r
  exact ⟨by omega, by omega, by omega, by omega, by omega, fun s hs => by have := h1.2 s hs; omega, fun s hs => by have := h2.2 s hs; omega, fun t ht => by have := h4.2 t ht; unfold SmT at this; omega, fun p hp => by have := h5.2 p hp; omega, by omega, by omega⟩
/-- A block half put together in block B; the answer's place is still empty. -/
structure Dk (w0 w W : World) (g B : Nat) (cv : Value) (code : List UInt8) (b : Bk) (v : Bv) : Prop where
  r : Blk W w.heap.size 37 [.int .i64 0, .int .i64 0, .int .i64 0, .string { data := #[] }, .int .i64 0, .int .i64 0, .slice none 0 0, .int .i64 0, .slice none 0 0, .slice none 0 0, .slice none 0 0, .bool false, .slice none 0 0, .string { data := #[] }]
  o : Blk W B 37 (bkC b v)
  lo : w.heap.size < B
  own : OwnK (B + 1) W b v
  cur : Cur w0 W g cv code
  grw : w.grownBy W (some g)
  gl : g < w.heap.size
theorem Dk.call {w0 w W W' : World} {g B : Nat} {cv : Value} {code : List UInt8} {b : Bk} {v : Bv} (h : Dk w0 w W g B cv code b v) (hc : Cur w0 W' g cv code) (hg : W.grownBy W' (some g)) : Dk w0 w W' g B cv code b v := by
  have h1 := h.gl
  have h2 := h.lo
  have O : Oth (fun k => k = g) W W' := Oth.of_grown hg (fun k e => by injection e with e; exact e.symm)
  exact ⟨blk_notg5 h.r hg (by omega), blk_notg5 h.o hg (by omega), h2, ⟨row_oth h.own.q O (fun k e e2 => by have := (World.ownsRow.lt h.own.q k e).1; omega), row_oth h.own.p O (fun k e e2 => by have := (World.ownsRow.lt h.own.p k e).1; omega), row_oth h.own.h O (fun k e e2 => by have := (World.ownsRow.lt h.own.h k e).1; omega), row_oth h.own.t O (fun k e e2 => by have := (World.ownsRow.lt h.own.t k e).1; omega), row_oth h.own.n O (fun k e e2 => by have := (World.ownsRow.lt h.own.n k e).1; omega)⟩, hc, grw_trans h.grw hg, h1⟩
theorem Dk.bel {w0 w W W' : World} {g B : Nat} {cv : Value} {code : List UInt8} {b : Bk} {v : Bv} (h : Dk w0 w W g B cv code b v) (hb : Below W.heap.size W W') : Dk w0 w W' g B cv code b v :=
  h.call (h.cur.below hb h.cur.lt) (grw_of_below (some g) hb (Nat.le_refl _))
theorem Dk.put {w0 w W : World} {g B : Nat} {cv : Value} {code : List UInt8} {b b' : Bk} {v v' : Bv} (h : Dk w0 w W g B cv code b v) (j : Nat) (u : Value) (he : (bkC b v).set j u = bkC b' v') (ho : OwnK (B + 1) W b' v') : Dk w0 w (W.setCell ⟨B, j, none⟩ u) g B cv code b' v' := by
  have h1 := h.gl
  have h2 := h.lo
  have hb : Below w.heap.size W (W.setCell ⟨B, j, none⟩ u) := (Below.refl _ W).setCell (p := ⟨B, j, none⟩) (show w.heap.size ≤ B by omega) u
  exact ⟨h.r.otherC B j u (by omega), by rw [← he]; exact h.o.setC j u, h2, ⟨ho.q.olderC (Nat.lt_succ_self B) j u, ho.p.olderC (Nat.lt_succ_self B) j u, ho.h.olderC (Nat.lt_succ_self B) j u, ho.t.olderC (Nat.lt_succ_self B) j u, ho.n.olderC (Nat.lt_succ_self B) j u⟩, h.cur.below hb h1, grw_below h.grw hb (Nat.le_refl _), h1⟩
/-- A row of the call's own has grown; the rows of other types are as they were. -/
theorem Dk.grown {w0 w W W' : World} {g B : Nat} {cv : Value} {code : List UInt8} {b : Bk} {v : Bv} (h : Dk w0 w W g B cv code b v) {row : Option Nat} (hg : W.grownBy W' row) (hlo : ∀ k, row = some k → B + 1 ≤ k) : Blk W' w.heap.size 37 [.int .i64 0, .int .i64 0, .int .i64 0, .string { data := #[] }, .int .i64 0, .int .i64 0, .slice none 0 0, .int .i64 0, .slice none 0 0, .slice none 0 0, .slice none 0 0, .bool false, .slice none 0 0, .string { data := #[] }] ∧ Blk W' B 37 (bkC b v) ∧ Cur w0 W' g cv code ∧ w.grownBy W' (some g) := by
  have h1 := h.gl
  have h2 := h.lo
  have h3 := h.o.lt
  have O : Oth (fun k => row = some k) W W' := Oth.of_grown hg (fun k e => e)
  have hb : Below (B + 1) W W' := O.below (fun k e => hlo k e) (by omega)
  exact ⟨h.r.below hb (by omega), h.o.below hb (by omega), h.cur.below hb (by omega), grw_below h.grw hb (by omega)⟩
theorem Dk.appH {w0 w W W' : World} {g B : Nat} {cv : Value} {code : List UInt8} {b : Bk} {v : Bv} (h : Dk w0 w W g B cv code b v) {u : Value} {l : List Int} (hg : W.grownBy W' v.h.ownBlock) (ho : OwnI (B + 1) W' u l) : Blk W' B 37 (bkC b v) ∧ Dk w0 w (W'.setCell ⟨B, 9, none⟩ u) g B cv code { b with th := l } { v with h := u } := by
  obtain ⟨k1, k2, k3, k4⟩ := h.grown hg (fun k e => (World.ownsRow.lt h.own.h k e).1)
  have O : Oth (fun k => v.h.ownBlock = some k) W W' := Oth.of_grown hg (fun k e => e)
  have h1 := h.gl
  have h2 := h.lo
  have hb : Below w.heap.size W' (W'.setCell ⟨B, 9, none⟩ u) := (Below.refl _ W').setCell (p := ⟨B, 9, none⟩) (show w.heap.size ≤ B by omega) u
  have oq : OwnS (B + 1) W' v.q b.qw := row_oth h.own.q O (fun k e e2 => rows_apart h.own.h h.own.q (by decide) k e e2)
  have ow : OwnS (B + 1) W' v.w b.tw := row_oth h.own.p O (fun k e e2 => rows_apart h.own.h h.own.p (by decide) k e e2)
  have ot : OwnT (B + 1) W' v.t b.ts := row_oth h.own.t O (fun k e e2 => rows_apart h.own.h h.own.t (by decide) k e e2)
  have on : OwnV (B + 1) W' v.n b.nx := row_oth h.own.n O (fun k e e2 => rows_apart h.own.h h.own.n (by decide) k e e2)
  exact ⟨k2, k1.otherC B 9 u (by omega), k2.setC 9 u, h2, ⟨oq.olderC (Nat.lt_succ_self B) 9 u, ow.olderC (Nat.lt_succ_self B) 9 u, ho.olderC (Nat.lt_succ_self B) 9 u, ot.olderC (Nat.lt_succ_self B) 9 u, on.olderC (Nat.lt_succ_self B) 9 u⟩, k3.below hb h1, grw_below k4 hb (Nat.le_refl _), h1⟩
theorem Dk.appT {w0 w W W' : World} {g B : Nat} {cv : Value} {code : List UInt8} {b : Bk} {v : Bv} (h : Dk w0 w W g B cv code b v) {u : Value} {l : List Tx5} (hg : W.grownBy W' v.t.ownBlock) (ho : OwnT (B + 1) W' u l) : Blk W' B 37 (bkC b v) ∧ Dk w0 w (W'.setCell ⟨B, 10, none⟩ u) g B cv code { b with ts := l } { v with t := u } := by
  obtain ⟨k1, k2, k3, k4⟩ := h.grown hg (fun k e => (World.ownsRow.lt h.own.t k e).1)
  have O : Oth (fun k => v.t.ownBlock = some k) W W' := Oth.of_grown hg (fun k e => e)
  have h1 := h.gl
  have h2 := h.lo
  have hb : Below w.heap.size W' (W'.setCell ⟨B, 10, none⟩ u) := (Below.refl _ W').setCell (p := ⟨B, 10, none⟩) (show w.heap.size ≤ B by omega) u
  have oq : OwnS (B + 1) W' v.q b.qw := row_oth h.own.q O (fun k e e2 => rows_apart h.own.t h.own.q (by decide) k e e2)
  have ow : OwnS (B + 1) W' v.w b.tw := row_oth h.own.p O (fun k e e2 => rows_apart h.own.t h.own.p (by decide) k e e2)
  have oh : OwnI (B + 1) W' v.h b.th := row_oth h.own.h O (fun k e e2 => rows_apart h.own.t h.own.h (by decide) k e e2)
  have on : OwnV (B + 1) W' v.n b.nx := row_oth h.own.n O (fun k e e2 => rows_apart h.own.t h.own.n (by decide) k e e2)
  exact ⟨k2, k1.otherC B 10 u (by omega), k2.setC 10 u, h2, ⟨oq.olderC (Nat.lt_succ_self B) 10 u, ow.olderC (Nat.lt_succ_self B) 10 u, oh.olderC (Nat.lt_succ_self B) 10 u, ho.olderC (Nat.lt_succ_self B) 10 u, on.olderC (Nat.lt_succ_self B) 10 u⟩, k3.below hb h1, grw_below k4 hb (Nat.le_refl _), h1⟩
theorem Dk.putQc {w0 w W : World} {g B : Nat} {cv : Value} {code : List UInt8} {b : Bk} {v : Bv} (h : Dk w0 w W g B cv code b v) (r k : Int) {u : Value} {l : List ByteArray} (oq : OwnS (B + 1) W u l) : Dk w0 w (((W.setCell ⟨B, 4, none⟩ (.int .i64 r)).setCell ⟨B, 5, none⟩ (.int .i64 k)).setCell ⟨B, 6, none⟩ u) g B cv code { b with qr := r, qb := k, qw := l } { v with q := u } := by
  have d4 : Dk w0 w (W.setCell ⟨B, 4, none⟩ (.int .i64 r)) g B cv code { b with qr := r } v := h.put 4 (.int .i64 r) rfl ⟨h.own.q, h.own.p, h.own.h, h.own.t, h.own.n⟩
  have d5 : Dk w0 w ((W.setCell ⟨B, 4, none⟩ (.int .i64 r)).setCell ⟨B, 5, none⟩ (.int .i64 k)) g B cv code { b with qr := r, qb := k } v := d4.put 5 (.int .i64 k) rfl ⟨d4.own.q, d4.own.p, d4.own.h, d4.own.t, d4.own.n⟩
  exact d5.put 6 u rfl ⟨(oq.olderC (Nat.lt_succ_self B) 4 _).olderC (Nat.lt_succ_self B) 5 _, d5.own.p, d5.own.h, d5.own.t, d5.own.n⟩
theorem Dk.putTc {w0 w W : World} {g B : Nat} {cv : Value} {code : List UInt8} {b : Bk} {v : Bv} (h : Dk w0 w W g B cv code b v) (r : Int) {u : Value} {l : List ByteArray} (ow : OwnS (B + 1) W u l) : Dk w0 w (((W.setCell ⟨B, 7, none⟩ (.int .i64 r)).setCell ⟨B, 8, none⟩ u).setCell ⟨B, 9, none⟩ (.slice none 0 0)) g B cv code { b with tr := r, tw := l, th := [] } { v with w := u, h := .slice none 0 0 } := by
  have d4 : Dk w0 w (W.setCell ⟨B, 7, none⟩ (.int .i64 r)) g B cv code { b with tr := r } v := h.put 7 (.int .i64 r) rfl ⟨h.own.q, h.own.p, h.own.h, h.own.t, h.own.n⟩
  have d5 : Dk w0 w ((W.setCell ⟨B, 7, none⟩ (.int .i64 r)).setCell ⟨B, 8, none⟩ u) g B cv code { b with tr := r, tw := l } { v with w := u } := d4.put 8 u rfl ⟨d4.own.q, ow.olderC (Nat.lt_succ_self B) 7 _, d4.own.h, d4.own.t, d4.own.n⟩
  exact d5.put 9 (.slice none 0 0) rfl ⟨d5.own.q, d5.own.p, ⟨rfl, .inl ⟨rfl, rfl⟩⟩, d5.own.t, d5.own.n⟩
theorem nilIK (base : Nat) (w : World) : OwnI base w (.slice none 0 0) [] := ⟨rfl, .inl ⟨rfl, rfl⟩⟩
theorem nilTK (base : Nat) (w : World) : OwnT base w (.slice none 0 0) [] := ⟨rfl, .inl ⟨rfl, rfl⟩⟩
theorem nilVK (base : Nat) (w : World) : OwnV base w (.slice none 0 0) [] := ⟨rfl, .inl ⟨rfl, rfl⟩⟩
theorem nilSK (base : Nat) (w : World) : OwnS base w (.slice none 0 0) [] := ⟨rfl, .inl ⟨rfl, rfl⟩⟩
theorem step_appIK {ops : Array Oper} {o : Oper} {a : Act} {w : World} {K : Act → World → Prop} {Q : Exit → Act → World → Prop} {E : Prop} (hgd : o.guard = none) (s x : Operand)
    (ho : o.op = .call { callee := .builtin .append, args := #[s, x], argTypes := #[27, 27] })
    (base : Nat) (v : Value) (B : Nat) (l : List Int) (p : Int) (hs : a.eval s = v) (hx : a.eval x = .slice (some ⟨B, 0, none⟩) 1 1) (hown : OwnI base w v l) (hblk : Blk w B 3 [.int .i64 p])
    (hlen : l.length ≤ 100000000) (hbase : base ≤ w.heap.size)
    (h : ∀ v' w', OwnI base w' v' (l ++ [p]) → w.grownBy w' v.ownBlock → K (a.put o.dst v') w') : if Region.wanted o (yielded ops a.tmps) = true then Oper.wp Try.prog o a w K Q else E := by
  have hw : Region.wanted o (yielded ops a.tmps) = true := by simp [Region.wanted, hgd]
  rw [if_pos hw]
  obtain ⟨i0, hi, hz0, hz1, hz2⟩ := info_parts Try.infoI
  obtain ⟨v', w', hr, h2, h3, h4, h5⟩ := run_append_own_at (P := Try.prog) w base 27 o.type 3 i0 (.int .i64 0) 1 8 Try.underlying27 hi hz0 hz1 hz2 rfl (by decide) v l.length (l.map (Value.int .i64)) hown ⟨B, 0, none⟩ 1 1 [.int .i64 p] rfl (fun j u hj => by rw [add_flatR, Nat.zero_add, hblk.cell j]; exact hj) (fun u hu => by
    simp only [List.mem_cons, List.not_mem_nil, or_false] at hu
    subst hu; rfl) (by unfold maxLen; omega) (by omega) hbase
  unfold Oper.wp execOp
  simp only [ho, resolve, invoke, builtin, Sem.run_bind, Sem.run_pure, Result.andThen_ok, List.map_toArray, List.map_cons, List.map_nil, hs, hx, hr]
  exact h v' w' (by unfold OwnI; rw [List.length_append, List.map_append]; simpa using h2) h3
theorem step_appTK {ops : Array Oper} {o : Oper} {a : Act} {w : World} {K : Act → World → Prop} {Q : Exit → Act → World → Prop} {E : Prop} (hgd : o.guard = none) (s x : Operand)
    (ho : o.op = .call { callee := .builtin .append, args := #[s, x], argTypes := #[34, 34] })
    (base : Nat) (v : Value) (B : Nat) (l : List Tx5) (t : Tx5) (hs : a.eval s = v) (hx : a.eval x = .slice (some ⟨B, 0, none⟩) 1 1) (hown : OwnT base w v l) (hblk : Blk w B 94 (txC t))
    (hlen : l.length ≤ 100000000) (hbase : base ≤ w.heap.size)
    (h : ∀ v' w', OwnT base w' v' (l ++ [t]) → w.grownBy w' v.ownBlock → K (a.put o.dst v') w') : if Region.wanted o (yielded ops a.tmps) = true then Oper.wp Try.prog o a w K Q else E := by
  have hw : Region.wanted o (yielded ops a.tmps) = true := by simp [Region.wanted, hgd]
  rw [if_pos hw]
  obtain ⟨i0, hi, hz0, hz1, hz2⟩ := info_parts Try.infoTx
  obtain ⟨v', w', hr, h2, h3, h4, h5⟩ := run_append_own_at (P := Try.prog) w base 34 o.type 94 i0 _ 5 56 Try.underlying34 hi hz0 hz1 hz2 rfl (by decide) v l.length (l.map txC).flatten hown ⟨B, 0, none⟩ 1 1 (txC t) rfl (fun j u hj => by rw [add_flatR, Nat.zero_add, hblk.cell j]; exact hj) (fun u hu => by
    simp only [txC, List.mem_cons, List.not_mem_nil, or_false] at hu
    rcases hu with rfl | rfl | rfl | rfl | rfl <;> rfl) (by unfold maxLen; omega) (by omega) hbase
  unfold Oper.wp execOp
  simp only [ho, resolve, invoke, builtin, Sem.run_bind, Sem.run_pure, Result.andThen_ok, List.map_toArray, List.map_cons, List.map_nil, hs, hx, hr]
  exact h v' w' (by unfold OwnT; rw [List.length_append, List.map_append, List.flatten_append]; simpa using h2) h3

set_option maxRecDepth 20000 in
set_option maxHeartbeats 8000000 in
theorem l9Draw_any (w0 w : World) (g : Nat) (cv : Value) (code : List UInt8) (hc : Cur w0 w g cv code) (hl : code.length ≤ 1048576) :
    Calls Try.prog 99 #[.pointer (some ⟨g, 0, none⟩)] w fun e w' => ∃ (b : Bk) (v : Bv), e = .returned (bkV b v) ∧ OwnK w.heap.size w' b v ∧ SmK b ∧ Cur w0 w' g cv code ∧ w.grownBy w' (some g) := by
  have hgl := hc.lt
  obtain ⟨w1, hw1⟩ : ∃ w1, w.alloc (.cells #[.int .i64 0, .int .i64 0, .int .i64 0, .string { data := #[] }, .int .i64 0, .int .i64 0, .slice none 0 0, .int .i64 0, .slice none 0 0, .slice none 0 0, .slice none 0 0, .bool false, .slice none 0 0, .string { data := #[] }] 37) = w1 := ⟨_, rfl⟩
  have hb1 : Below w.heap.size w w1 := by rw [← hw1]; exact (Below.refl _ w).alloc (Nat.le_refl _) _
  have hs1 : w1.heap.size = w.heap.size + 1 := by rw [← hw1]; simp
  have K1 : Hid (Blk w1 w.heap.size 37 [.int .i64 0, .int .i64 0, .int .i64 0, .string { data := #[] }, .int .i64 0, .int .i64 0, .slice none 0 0, .int .i64 0, .slice none 0 0, .slice none 0 0, .slice none 0 0, .bool false, .slice none 0 0, .string { data := #[] }]) := hide (by rw [← hw1]; exact Blk.new w _ _)
  have Hc1 := hide (hc.below hb1 hgl)
  have HG1 := hide (grw_of_below (some g) hb1 (Nat.le_refl _))
  clear hc hb1
  go_enter Try.func99, Try.ntmps99
  go_wp2_with fail
  refine (l1Below_any w0 _ g cv code 4 Hc1.out hl (by omega) (by omega)).mono ?_
  rintro e w2 ⟨x1, rfl, hx, -, hc2, hg2⟩
  have hx1 : (x1 : Int) < 4 := hx (by omega)
  have K2 := hide (blk_notg5 K1.out hg2 (by omega))
  have HG2 := hide (grw_trans HG1.out hg2)
  have hs2 := hg2.size
  clear hg2 hx K1 HG1 Hc1
  go_wp2_with fail
  refine (l1Below_any w0 _ g cv code 2 hc2 hl (by omega) (by omega)).mono ?_
  rintro e w3 ⟨x2, rfl, hx, -, hc3, hg3⟩
  have hx2 : (x2 : Int) < 2 := hx (by omega)
  have K3 := hide (blk_notg5 K2.out hg3 (by omega))
  have HG3 := hide (grw_trans HG2.out hg3)
  have hs3 := hg3.size
  clear hg3 hx K2 HG2 hc2
  go_wp2_with fail
  refine (l1Below_any w0 _ g cv code 4 hc3 hl (by omega) (by omega)).mono ?_
  rintro e w4 ⟨x3, rfl, hx, -, hc4, hg4⟩
  have hx3 : (x3 : Int) < 4 := hx (by omega)
  have K4 := hide (blk_notg5 K3.out hg4 (by omega))
  have HG4 := hide (grw_trans HG3.out hg4)
  have hs4 := hg4.size
  clear hg4 hx K3 HG3 hc3
  go_wp2_with fail
  refine (l1Name_any w0 _ g cv code hc4 hl).mono ?_
  rintro e w5 ⟨nm, rfl, hnm, hc5, hg5⟩
  have hk5 := blk_notg5 K4.out hg5 (by omega)
  have hG5 := grw_trans HG4.out hg5
  have hs5 := hg5.size
  obtain ⟨w6, hw6⟩ : ∃ w6, w5.alloc (.cells #[.int .i64 (3 + (x1 : Int)), .int .i64 (x2 : Int), .int .i64 (2 + (x3 : Int)), .string nm, .int .i64 0, .int .i64 (-1), .slice none 0 0, .int .i64 0, .slice none 0 0, .slice none 0 0, .slice none 0 0, .bool false, .slice none 0 0, .string { data := #[] }] 37) = w6 := ⟨_, rfl⟩
  have hb6 : Below w5.heap.size w5 w6 := by rw [← hw6]; exact (Below.refl _ w5).alloc (Nat.le_refl _) _
  have hD6 : Dk w0 w w6 g w5.heap.size cv code ⟨3 + (x1 : Int), (x2 : Int), 2 + (x3 : Int), nm, 0, -1, [], 0, [], [], [], false, [], { data := #[] }⟩ ⟨.slice none 0 0, .slice none 0 0, .slice none 0 0, .slice none 0 0, .slice none 0 0⟩ :=
    ⟨hk5.below hb6 hk5.lt, by rw [← hw6]; exact Blk.new w5 _ [.int .i64 (3 + (x1 : Int)), .int .i64 (x2 : Int), .int .i64 (2 + (x3 : Int)), .string nm, .int .i64 0, .int .i64 (-1), .slice none 0 0, .int .i64 0, .slice none 0 0, .slice none 0 0, .slice none 0 0, .bool false, .slice none 0 0, .string { data := #[] }], by omega, ⟨nilSK _ _, nilSK _ _, nilIK _ _, nilTK _ _, nilVK _ _⟩, hc5.below hb6 hc5.lt, grw_below hG5 hb6 (by omega), hgl⟩
  have hS6 : SmK ⟨3 + (x1 : Int), (x2 : Int), 2 + (x3 : Int), nm, 0, -1, [], 0, [], [], [], false, [], { data := #[] }⟩ := ⟨by simp only; omega, by simp only; omega, by simp, by simp, by simp, by simp, by simp, by simp, hnm, by simp [ByteArray.size]⟩
  generalize hbb : (⟨3 + (x1 : Int), (x2 : Int), 2 + (x3 : Int), nm, 0, -1, [], 0, [], [], [], false, [], { data := #[] }⟩ : Bk) = b6 at hD6 hS6
  have hts : b6.ts = [] := by rw [← hbb]
  have HD6 := hide hD6
  have HS6 := hide hS6
  have Hts := hide hts
  clear hts
  have Hw6 := hide hw6
  clear hD6 hS6 hbb hb6 hk5 hG5 hg5 hc5 K4 HG4 hc4 hnm hw6
  go_wp2_with fail
  rw [Hw6.out]
  have hB : w5.heap.size < w6.heap.size := HD6.out.o.lt
  clear Hw6
  generalize w5.heap.size = B at *
  refine (l1Once_any w0 _ g cv code 4 HD6.out.cur hl (by omega) (by omega)).mono ?_
  rintro e w7 ⟨o1, rfl, hc7, hg7⟩
  have HD7 := hide (HD6.out.call hc7 hg7)
  clear HD6 hc7 hg7 hx1 hx2 hx3 hs1 hs2 hs3 hs4 hs5
  go_upto_if 20 with fail
  go_cut [] from 6 (fun wc => ∃ (b : Bk) (v : Bv), Dk w0 w wc g B cv code b v ∧ b.ts = [] ∧ SmK b)
  case first =>
    cases o1
    · have hD := HD7.out
      have c2 := hD.o.cell 2
      have hrd := HS6.out.rd
      simp only [bkC, List.getElem?_cons_zero, List.getElem?_cons_succ] at c2
      have C1 := hide (fun V (hV : Cur w0 V g cv code) => l1Below_any w0 V g cv code (IntKind.i64.wrap (b6.rd - 1)) hV hl (by rw [IntKind.wrap_i64]; omega) (by rw [IntKind.wrap_i64]; omega))
      have C2 := hide (fun V (hV : Cur w0 V g cv code) => l1Below_any w0 V g cv code 3 hV hl (by omega) (by omega))
      have C3 := hide (fun V (hV : Cur w0 V g cv code) => l1Names_any w0 V g cv code hV hl)
      have HDd := hide (hD.bel ((Below.refl _ w7).drew))
      have c2d : w7.drew.cell? ⟨B, 2, none⟩ = some (.int .i64 b6.rd) := c2
      clear hD HD7
      go_wp2
      go_region_held_law (fun w' => w'.cell? ⟨B, 2, none⟩ = some (.int .i64 b6.rd)) (first | assumption)
        (first
        | (go_simp; go_at_call 134; (with_reducible refine (C3.out _ HDb.out.cur).mono ?_); rintro e wc' ⟨vq, qs, rfl, oq, hq5, hq1, hcc, hgc⟩; have HDc := hide (HDb.out.call hcc hgc); obtain ⟨aq, cq, rfl⟩ := oq.rd.shape; have q2 := Blk.cell HDc.out.o 2; have q4 := Blk.cell HDc.out.o 4; have q5 := Blk.cell HDc.out.o 5; have q6 := Blk.cell HDc.out.o 6; have g4 := Blk.frozen HDc.out.o 4; have g5 := Blk.frozen HDc.out.o 5; have g6 := Blk.frozen HDc.out.o 6; have HDq := hide (HDc.out.putQc (IntKind.i64.wrap (IntKind.i64.wrap (b6.rd - 1) - (y1 : Int))) (y2 : Int) (oq.mono (Blk.lt HDb.out.o))); have q2q := Blk.cell HDq.out.o 2; simp only [bkC, List.getElem?_cons_zero, List.getElem?_cons_succ] at q2 q4 q5 q6 q2q; have HSq : Hid (SmK { b6 with qr := IntKind.i64.wrap (IntKind.i64.wrap (b6.rd - 1) - (y1 : Int)), qb := (y2 : Int), qw := qs }) := hide ⟨HS6.out.ie, HS6.out.rd, HS6.out.tr, ⟨hq5, fun s hs => by have := hq1 s hs; omega⟩, HS6.out.w, HS6.out.h, HS6.out.t, HS6.out.n, HS6.out.m, HS6.out.r⟩; clear oq hq5 hq1 hcc hgc)
        | (go_simp; go_at_call 46; (with_reducible refine (C2.out _ HDa.out.cur).mono ?_); rintro e wb ⟨y2, rfl, hy2, -, hcb, hgb⟩; have HDb := hide (HDa.out.call hcb hgb); have q2b := Blk.cell HDb.out.o 2; simp only [bkC, List.getElem?_cons_zero, List.getElem?_cons_succ] at q2b; clear hcb hgb)
        | (go_simp; go_at_call 46; (with_reducible refine (C1.out _ HDd.out.cur).mono ?_); rintro e wa ⟨y1, rfl, hy1, -, hca, hga⟩; have HDa := hide (HDd.out.call hca hga); have q2a := Blk.cell HDa.out.o 2; simp only [bkC, List.getElem?_cons_zero, List.getElem?_cons_succ] at q2a; clear hca hga))
      go_wp2
      go_meet
      case rel => exact ⟨_, _, HDq.out, Hts.out, HSq.out⟩
    · go_wp2
      go_meet
      case rel => exact ⟨_, _, HD7.out, Hts.out, HS6.out⟩
  case rest =>
    obtain ⟨b, v, hD, hts, hS⟩ := hcut
    have HDx := hide hD
    have HSx := hide hS
    clear hD hS HD7 HS6 Hts
    have Hts := hide hts
    clear hts
    go_wp2_with fail
    refine (l1Once_any w0 _ g cv code 2 HDx.out.cur hl (by omega) (by omega)).mono ?_
    rintro e w8 ⟨o2, rfl, hc8, hg8⟩
    have HD8 := hide (HDx.out.call hc8 hg8)
    clear HDx hc8 hg8
    go_upto_if 37 with fail
    go_cut [4] from 6 (fun iv wc => ∃ (b : Bk) (v : Bv), Dk w0 w wc g B cv code b v ∧ b.ts = [] ∧ SmK b)
    case first =>
      cases o2
      · go_wp2
        go_meet
        case rel => exact ⟨_, _, HD8.out, Hts.out, HSx.out⟩
      · have hD := HD8.out
        have c2 := hD.o.cell 2
        have hrd := HSx.out.rd
        simp only [bkC, List.getElem?_cons_zero, List.getElem?_cons_succ] at c2
        have C3 := hide (fun V (hV : Cur w0 V g cv code) => l1Names_any w0 V g cv code hV hl)
        have HDd := hide (hD.bel ((Below.refl _ w8).drew))
        have c2d : w8.drew.cell? ⟨B, 2, none⟩ = some (.int .i64 b.rd) := c2
        clear hD HD8
        go_wp2
        go_region_held_law (fun w' => w'.cell? ⟨B, 2, none⟩ = some (.int .i64 b.rd)) (first | assumption)
          (first
          | (go_simp; go_at_call 134; (with_reducible refine (C3.out _ HDd.out.cur).mono ?_); rintro e wa ⟨vq, qs, rfl, oq, hq5, hq1, hcc, hgc⟩; have HDc := hide (HDd.out.call hcc hgc); obtain ⟨aq, cq, rfl⟩ := oq.rd.shape; have q2 := Blk.cell HDc.out.o 2; have q4 := Blk.cell HDc.out.o 7; have q5 := Blk.cell HDc.out.o 8; have q6 := Blk.cell HDc.out.o 9; have g4 := Blk.frozen HDc.out.o 7; have g5 := Blk.frozen HDc.out.o 8; have g6 := Blk.frozen HDc.out.o 9; have HDq := hide (HDc.out.putTc (IntKind.i64.wrap (b.rd - 1)) (oq.mono (Blk.lt HDd.out.o))); have q2q := Blk.cell HDq.out.o 2; simp only [bkC, List.getElem?_cons_zero, List.getElem?_cons_succ] at q2 q4 q5 q6 q2q; have HSq : Hid (SmK { b with tr := IntKind.i64.wrap (b.rd - 1), tw := qs, th := [] }) := hide ⟨HSx.out.ie, HSx.out.rd, (by simp only; rw [IntKind.wrap_i64]; omega), HSx.out.q, ⟨hq5, fun s hs => by have := hq1 s hs; omega⟩, by simp, HSx.out.t, HSx.out.n, HSx.out.m, HSx.out.r⟩; clear oq hq5 hq1 hcc hgc))
        go_wp2
        go_loopw [4] (fun iv wr => ∃ (k : Nat) (b : Bk) (v : Bv), iv = .int .i64 (k : Int) ∧ Dk w0 w wr g B cv code b v ∧ b.ts = [] ∧ k ≤ b.tw.length ∧ b.th.length = k ∧ SmK b) (fun iv _ => 5 - (intOf iv).toNat)
        case atStart => exact ⟨0, _, _, rfl, HDq.out, Hts.out, Nat.zero_le _, rfl, HSq.out⟩
        case round =>
          clear HDq HSq q2q q2 q4 q5 q6 g4 g5 g6 HDc HDd HSx Hts c2 c2d hrd
          obtain ⟨k, b, v, rfl, hD, hts, hk, hth, hS⟩ := hrel
          obtain ⟨vq, vw, vh, vt, vn⟩ := v
          obtain ⟨aw, cw, hvw⟩ := hD.own.p.rd.shape
          obtain ⟨ah, ch, hvh⟩ := hD.own.h.rd.shape
          simp only at hvw hvh
          subst hvw hvh
          have hS2 := hS.w.1
          have hS3 := hS.tr
          have c7 := hD.o.cell 7
          have c8 := hD.o.cell 8
          have c9 := hD.o.cell 9
          simp only [bkC, List.getElem?_cons_zero, List.getElem?_cons_succ] at c7 c8 c9
          by_cases hlt : k < b.tw.length
          · have C1 := hide (fun V (hV : Cur w0 V g cv code) => l1Below_any w0 V g cv code b.tr hV hl (by omega) (by omega))
            have HDd := hide (hD.bel ((Below.refl _ wr).drew))
            have HS := hide hS
            have Hts := hide hts
            have Hth := hide hth
            have hth5 : b.th.length ≤ 5 := by omega
            clear hth
            have c7d : wr.drew.cell? ⟨B, 7, none⟩ = some (.int .i64 b.tr) := c7
            have c9d : wr.drew.cell? ⟨B, 9, none⟩ = some (.slice ah b.th.length ch) := c9
            clear hD hS hts
            go_wp2
            go_region_law (first
              | (refine step_appIK rfl _ _ rfl (B + 1) (.slice ah b.th.length ch) w6.heap.size b.th (y : Int) (by rfl) (by rfl) HDa.out.own.h (Blk.newV w6 _ [.int .i64 (y : Int)] _ rfl) (by omega) (by have := Blk.lt HDa.out.o; omega) ?_; intro v7 w7 ho7 hg7; have hap := HDa.out.appH hg7 ho7; have y9 := Blk.cell hap.1 9; have g9 := Blk.frozen hap.1 9; have HD7 := hide hap.2; have hsh := ho7.rd.shape; rw [List.length_append, List.length_cons, List.length_nil, Nat.zero_add] at hsh; obtain ⟨a7, c7', hv7⟩ := hsh; subst hv7; simp only [bkC, List.getElem?_cons_zero, List.getElem?_cons_succ] at y9; clear hap ho7 hg7)
              | (go_simp; go_at_call 46; (with_reducible refine (C1.out _ HDd.out.cur).mono ?_); rintro e w6 ⟨y, rfl, hy, -, hc6, hg6⟩; have HD6 := hide (HDd.out.call hc6 hg6); have HDa := hide (HD6.out.bel ((Below.refl _ w6).alloc (Nat.le_refl _) (.cells #[.int .i64 (y : Int)] 3))); have y6 := Blk.cell HD6.out.o 9; have ya := Blk.cell HDa.out.o 9; simp only [bkC, List.getElem?_cons_zero, List.getElem?_cons_succ] at y6 ya; clear hc6 hg6))
            all_goals
              have HSn : Hid (SmK { b with th := b.th ++ [(y : Int)] }) := hide ⟨HS.out.ie, HS.out.rd, HS.out.tr, HS.out.q, HS.out.w, by have := Hth.out; simp; omega, HS.out.t, HS.out.n, HS.out.m, HS.out.r⟩
              go_wp2
              go_roundw
              case rel => exact ⟨k + 1, _, _, by go_num, HD7.out, Hts.out, hlt, by simp [Hth.out], HSn.out⟩
              case measure => simp [intOf]; omega
          · go_wp2
            go_meet
            case rel => exact ⟨_, _, hD, hts, hS⟩
    case rest =>
      obtain ⟨b, v, hD, hts, hS⟩ := hcut
      have HDx := hide hD
      have HS := hide hS
      have Hts2 := hide hts
      clear hD hS hts HD8 HSx Hts
      go_wp2_with fail
      refine (l1Below_any w0 _ g cv code 4 HDx.out.cur hl (by omega) (by omega)).mono ?_
      rintro e w9 ⟨n, rfl, hn, -, hc9, hg9⟩
      have hn4 : (n : Int) < 4 := hn (by omega)
      have HD9 := hide (HDx.out.call hc9 hg9)
      have Hst : Hid (n + b.ts.length ≤ 4) := hide (by rw [Hts2.out]; simp; omega)
      clear HDx hc9 hg9 hn Hts2
      go_wp2
      go_loopw [5] (fun iv wr => ∃ (k : Nat) (b : Bk) (v : Bv), iv = .int .i64 (k : Int) ∧ Dk w0 w wr g B cv code b v ∧ k + b.ts.length ≤ 4 ∧ SmK b) (fun iv _ => (intOf iv).toNat)
      case atStart => exact ⟨n, _, _, rfl, HD9.out, Hst.out, HS.out⟩
      case round =>
        clear HD9 HS Hst
        obtain ⟨k, b, v, rfl, hD, hk4, hS⟩ := hrel
        by_cases hlt : 0 < k
        · obtain ⟨vq, vw, vh, vt, vn⟩ := v
          obtain ⟨at_, ct, hvt⟩ := hD.own.t.rd.shape
          simp only at hvt
          subst hvt
          have c10 := hD.o.cell 10
          simp only [bkC, List.getElem?_cons_zero, List.getElem?_cons_succ] at c10
          have C1 := hide (fun V (hV : Cur w0 V g cv code) => l5Tx_any w0 V g cv code hV hl)
          have HDd := hide (hD.bel ((Below.refl _ wr).drew))
          have HS := hide hS
          have c10d : wr.drew.cell? ⟨B, 10, none⟩ = some (.slice at_ b.ts.length ct) := c10
          clear hD hS
          go_wp2
          go_region_law (first
            | (refine step_appTK rfl _ _ rfl (B + 1) (.slice at_ b.ts.length ct) w6.heap.size b.ts (kd, fr, tt, am, no) (by rfl) (by rfl) HDa.out.own.t (Blk.newV w6 _ [.int .i64 kd, .string fr, .string tt, .int .i64 am, .int .i64 no] _ rfl) (by omega) (by have := Blk.lt HDa.out.o; omega) ?_; intro v7 w7 ho7 hg7; have hap := HDa.out.appT hg7 ho7; have y9 := Blk.cell hap.1 10; have g9 := Blk.frozen hap.1 10; have HD7 := hide hap.2; have hsh := ho7.rd.shape; rw [List.length_append, List.length_cons, List.length_nil, Nat.zero_add] at hsh; obtain ⟨a7, c7', hv7⟩ := hsh; subst hv7; simp only [bkC, List.getElem?_cons_zero, List.getElem?_cons_succ] at y9; clear hap ho7 hg7)
            | (go_simp; go_at_call 135; (with_reducible refine (C1.out _ HDd.out.cur).mono ?_); rintro e w6 ⟨⟨kd, fr, tt, am, no⟩, rfl, hsm, hc6, hg6⟩; simp only [txV]; have Hsm := hide hsm; have HD6 := hide (HDd.out.call hc6 hg6); have HDa := hide (HD6.out.bel ((Below.refl _ w6).alloc (Nat.le_refl _) (.cells #[.int .i64 kd, .string fr, .string tt, .int .i64 am, .int .i64 no] 94))); have y6 := Blk.cell HD6.out.o 10; have ya := Blk.cell HDa.out.o 10; simp only [bkC, List.getElem?_cons_zero, List.getElem?_cons_succ] at y6 ya; clear hc6 hg6 hsm))
          all_goals
            have HSn : Hid (SmK { b with ts := b.ts ++ [(kd, fr, tt, am, no)] }) := hide ⟨HS.out.ie, HS.out.rd, HS.out.tr, HS.out.q, HS.out.w, HS.out.h, ⟨by simp; omega, fun t ht => by
              rcases List.mem_append.1 ht with h | h
              · exact HS.out.t.2 t h
              · rw [List.mem_singleton.1 h]; exact Hsm.out⟩, HS.out.n, HS.out.m, HS.out.r⟩
            go_wp2
            go_roundw
            case rel => exact ⟨k - 1, _, _, by go_num, HD7.out, by simp; omega, HSn.out⟩
            case measure => simp [intOf]; omega
        · have HDe := hide hD
          have HSe := hide hS
          clear hD hS
          go_wp2_with fail
          refine (l1Once_any w0 _ g cv code 3 HDe.out.cur hl (by omega) (by omega)).mono ?_
          rintro e w10 ⟨o3, rfl, hc10, hg10⟩
          have HD10 := hide (HDe.out.call hc10 hg10)
          clear HDe hc10 hg10
          go_upto_if 79 with fail
          go_cut [] from 6 (fun wc => ∃ (b : Bk) (v : Bv), Dk w0 w wc g B cv code b v ∧ SmK b)
          case first =>
            cases o3
            · go_wp2
              go_meet
              case rel => exact ⟨_, _, HD10.out, HSe.out⟩
            · have HD11 := hide (HD10.out.put 11 (.bool true) (b' := { b with en := true }) rfl ⟨HD10.out.own.q, HD10.out.own.p, HD10.out.own.h, HD10.out.own.t, HD10.out.own.n⟩)
              have c11 := Blk.cell HD10.out.o 11
              have g11 := Blk.frozen HD10.out.o 11
              simp only [bkC, List.getElem?_cons_zero, List.getElem?_cons_succ] at c11
              go_wp2_with fail
              refine (l7Draw_any w0 _ g cv code HD11.out.cur hl).mono ?_
              rintro e w12 ⟨vn, ns, rfl, on, -, hfew, hc12, hg12⟩
              obtain ⟨an, cn, rfl⟩ := on.rd.shape
              have HD12 := hide (HD11.out.call hc12 hg12)
              have HD13 := hide (HD12.out.put 12 (.slice an ns.length cn) (b' := { b with en := true, nx := ns }) (v' := { v with n := .slice an ns.length cn }) rfl ⟨HD12.out.own.q, HD12.out.own.p, HD12.out.own.h, HD12.out.own.t, on.mono (Blk.lt HD11.out.o)⟩)
              have c12 := Blk.cell HD12.out.o 12
              have g12 := Blk.frozen HD12.out.o 12
              simp only [bkC, List.getElem?_cons_zero, List.getElem?_cons_succ] at c12
              have Hfew := hide hfew
              clear HD10 HD11 c11 g11 hc12 hg12 on hfew
              go_wp2_with fail
              refine (l1Byte_any w0 _ g cv code HD13.out.cur hl).mono ?_
              rintro e w14 ⟨x, rfl, hx, hc14, hg14⟩
              have HD14 := hide (HD13.out.call hc14 hg14)
              clear HD12 HD13 c12 g12 hc14 hg14
              go_wp2_with fail
              refine (specDigest_any _ [UInt8.ofNat x] _ (rd_one _ _ _ (by have := byte_of x (by omega); omega)) (by simp)).mono ?_
              rintro e w15 ⟨rfl, hb15⟩
              generalize hdg : (⟨(bytesS (shaFold (padB [UInt8.ofNat x]) (padQ [UInt8.ofNat x].length))).toArray⟩ : ByteArray) = dg
              have hdl : dg.size = 32 := by rw [← hdg]; simp [ByteArray.size, bytesS_len]
              have hb14 : Below w14.heap.size w14 w15 := ((Below.refl _ w14).alloc (Nat.le_refl _) _).trans (hb15.mono (by simp))
              have HD15 := hide (HD14.out.bel hb14)
              have HD16 := hide (HD15.out.put 13 (.string dg) (b' := { b with en := true, nx := ns, rt := dg }) rfl ⟨HD15.out.own.q, HD15.out.own.p, HD15.out.own.h, HD15.out.own.t, HD15.out.own.n⟩)
              have c13 := Blk.cell HD15.out.o 13
              have g13 := Blk.frozen HD15.out.o 13
              simp only [bkC, List.getElem?_cons_zero, List.getElem?_cons_succ] at c13
              have HSz : Hid (SmK { b with en := true, nx := ns, rt := dg }) := hide ⟨HSe.out.ie, HSe.out.rd, HSe.out.tr, HSe.out.q, HSe.out.w, HSe.out.h, HSe.out.t, ⟨Hfew.out.1, fun p hp => by have := (Hfew.out.2.2 p hp).1; omega⟩, HSe.out.m, by simp only; omega⟩
              clear hb15 hb14 hdg hdl HD14 HD15
              go_wp2
              go_meet
              case rel => exact ⟨_, _, HD16.out, HSz.out⟩
          case rest =>
            obtain ⟨b, v, hD, hS⟩ := hcut
            clear HD10 HSe
            obtain ⟨vq, vw, vh, vt, vn⟩ := v
            obtain ⟨aq, cq, hvq⟩ := hD.own.q.rd.shape
            obtain ⟨aw, cw, hvw⟩ := hD.own.p.rd.shape
            obtain ⟨ah, ch, hvh⟩ := hD.own.h.rd.shape
            obtain ⟨at_, ct, hvt_⟩ := hD.own.t.rd.shape
            obtain ⟨an, cn, hvn⟩ := hD.own.n.rd.shape
            simp only at hvq hvw hvh hvt_ hvn
            subst hvq hvw hvh hvt_ hvn
            have hlo := hD.lo
            have t0 := hD.o.cell 0
            have t1 := hD.o.cell 1
            have t2 := hD.o.cell 2
            have t3 := hD.o.cell 3
            have t4 := hD.o.cell 4
            have t5 := hD.o.cell 5
            have t6 := hD.o.cell 6
            have t7 := hD.o.cell 7
            have t8 := hD.o.cell 8
            have t9 := hD.o.cell 9
            have t10 := hD.o.cell 10
            have t11 := hD.o.cell 11
            have t12 := hD.o.cell 12
            have t13 := hD.o.cell 13
            have e0 := hD.r.cell 0
            have f0 := hD.r.frozen 0
            have e1 := hD.r.cell 1
            have f1 := hD.r.frozen 1
            have e2 := hD.r.cell 2
            have f2 := hD.r.frozen 2
            have e3 := hD.r.cell 3
            have f3 := hD.r.frozen 3
            have e4 := hD.r.cell 4
            have f4 := hD.r.frozen 4
            have e5 := hD.r.cell 5
            have f5 := hD.r.frozen 5
            have e6 := hD.r.cell 6
            have f6 := hD.r.frozen 6
            have e7 := hD.r.cell 7
            have f7 := hD.r.frozen 7
            have e8 := hD.r.cell 8
            have f8 := hD.r.frozen 8
            have e9 := hD.r.cell 9
            have f9 := hD.r.frozen 9
            have e10 := hD.r.cell 10
            have f10 := hD.r.frozen 10
            have e11 := hD.r.cell 11
            have f11 := hD.r.frozen 11
            have e12 := hD.r.cell 12
            have f12 := hD.r.frozen 12
            have e13 := hD.r.cell 13
            have f13 := hD.r.frozen 13
            simp only [bkC, List.getElem?_cons_zero, List.getElem?_cons_succ] at t0 e0 t1 e1 t2 e2 t3 e3 t4 e4 t5 e5 t6 e6 t7 e7 t8 e8 t9 e9 t10 e10 t11 e11 t12 e12 t13 e13
            have HQ := hide ((hD.own.q.put14 (g := w.heap.size) (by omega) (.int .i64 b.id) (.int .i64 b.ep) (.int .i64 b.rd) (.string b.md) (.int .i64 b.qr) (.int .i64 b.qb) (.slice aq b.qw.length cq) (.int .i64 b.tr) (.slice aw b.tw.length cw) (.slice ah b.th.length ch) (.slice at_ b.ts.length ct) (.bool b.en) (.slice an b.nx.length cn) (.string b.rt)).mono (show w.heap.size ≤ B + 1 by omega))
            have HP := hide ((hD.own.p.put14 (g := w.heap.size) (by omega) (.int .i64 b.id) (.int .i64 b.ep) (.int .i64 b.rd) (.string b.md) (.int .i64 b.qr) (.int .i64 b.qb) (.slice aq b.qw.length cq) (.int .i64 b.tr) (.slice aw b.tw.length cw) (.slice ah b.th.length ch) (.slice at_ b.ts.length ct) (.bool b.en) (.slice an b.nx.length cn) (.string b.rt)).mono (show w.heap.size ≤ B + 1 by omega))
            have HH := hide ((hD.own.h.put14 (g := w.heap.size) (by omega) (.int .i64 b.id) (.int .i64 b.ep) (.int .i64 b.rd) (.string b.md) (.int .i64 b.qr) (.int .i64 b.qb) (.slice aq b.qw.length cq) (.int .i64 b.tr) (.slice aw b.tw.length cw) (.slice ah b.th.length ch) (.slice at_ b.ts.length ct) (.bool b.en) (.slice an b.nx.length cn) (.string b.rt)).mono (show w.heap.size ≤ B + 1 by omega))
            have HT := hide ((hD.own.t.put14 (g := w.heap.size) (by omega) (.int .i64 b.id) (.int .i64 b.ep) (.int .i64 b.rd) (.string b.md) (.int .i64 b.qr) (.int .i64 b.qb) (.slice aq b.qw.length cq) (.int .i64 b.tr) (.slice aw b.tw.length cw) (.slice ah b.th.length ch) (.slice at_ b.ts.length ct) (.bool b.en) (.slice an b.nx.length cn) (.string b.rt)).mono (show w.heap.size ≤ B + 1 by omega))
            have HN := hide ((hD.own.n.put14 (g := w.heap.size) (by omega) (.int .i64 b.id) (.int .i64 b.ep) (.int .i64 b.rd) (.string b.md) (.int .i64 b.qr) (.int .i64 b.qb) (.slice aq b.qw.length cq) (.int .i64 b.tr) (.slice aw b.tw.length cw) (.slice ah b.th.length ch) (.slice at_ b.ts.length ct) (.bool b.en) (.slice an b.nx.length cn) (.string b.rt)).mono (show w.heap.size ≤ B + 1 by omega))
            have hbR := below_put14 wc w.heap.size (.int .i64 b.id) (.int .i64 b.ep) (.int .i64 b.rd) (.string b.md) (.int .i64 b.qr) (.int .i64 b.qb) (.slice aq b.qw.length cq) (.int .i64 b.tr) (.slice aw b.tw.length cw) (.slice ah b.th.length ch) (.slice at_ b.ts.length ct) (.bool b.en) (.slice an b.nx.length cn) (.string b.rt)
            have HC := hide (hD.cur.below hbR hgl)
            have HG := hide (grw_below hD.grw hbR (Nat.le_refl _))
            have HS := hide hS
            clear hD hS hbR
            go_wp2
            refine bodyPost_ret (v := .agg #[.int .i64 b.id, .int .i64 b.ep, .int .i64 b.rd, .string b.md, .int .i64 b.qr, .int .i64 b.qb, .slice aq b.qw.length cq, .int .i64 b.tr, .slice aw b.tw.length cw, .slice ah b.th.length ch, .slice at_ b.ts.length ct, .bool b.en, .slice an b.nx.length cn, .string b.rt]) (by simp [results, Try.f99, go_sem, e0, e1, e2, e3, e4, e5, e6, e7, e8, e9, e10, e11, e12, e13]) rfl ?_
            exact ⟨b, ⟨_, _, _, _, _⟩, rfl, ⟨HQ.out, HP.out, HH.out, HT.out, HN.out⟩, HS.out, HC.out, HG.out⟩

end Go.Proofs.Ytbjeonnaannofaa
