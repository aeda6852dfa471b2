/- Blocks drawn, and bent. -/
import Derived.Test.YtbjeonnaannofaaZaDrawBk
import Derived.Test.YtbjeonnaannofaaZaIntApp
import Derived.Test.YtbjeonnaannofaaZaDrawTt
import Derived.Test.YtbjeonnaannofaaZaKsCopy
import Derived.Deep.CutBlock
namespace Go.Proofs.Ytbjeonnaannofaa
open Go.RowKit
set_option linter.unusedVariables false

/-- A block that is being bent: it stands in the argument's place, the answer's place is still empty. -/
structure Db (w0 w W : World) (g : Nat) (cv : Value) (code : List UInt8) (b : Bk) (v : Bv) : Prop where
  r : Blk W (w.heap.size + 1) 37 [.int .i64 0, .int .i64 0, .int .i64 0, .string { data := #[] }, .int .i64 0, .int .i64 0, .slice none 0 0, .int .i64 0, .slice none 0 0, .slice none 0 0, .slice none 0 0, .bool false, .slice none 0 0, .string { data := #[] }]
  o : Blk W w.heap.size 37 (bkC b v)
  own : OwnK (w.heap.size + 2) W b v
  cur : Cur w0 W g cv code
  grw : w.grownBy W (some g)
  gl : g < w.heap.size
/-- What is bent is small. -/
structure SmB (b : Bk) : Prop where
  ie : (-1 ≤ b.id ∧ b.id ≤ 100001) ∧ -1 ≤ b.ep ∧ b.ep ≤ 901
  rd : 0 ≤ b.rd ∧ b.rd ≤ 10001
  tr : 0 ≤ b.tr ∧ b.tr ≤ 5
  q : b.qw.length ≤ 7 ∧ ∀ s ∈ b.qw, s.size ≤ 9
  w : b.tw.length ≤ 7 ∧ ∀ s ∈ b.tw, s.size ≤ 9
  h : b.th.length ≤ 8
  t : b.ts.length ≤ 5 ∧ ∀ t ∈ b.ts, SmT t
  n : b.nx.length ≤ 6 ∧ ∀ p ∈ b.nx, p.1.size ≤ 9
  m : b.md.size ≤ 9
  r : b.rt.size ≤ 40
theorem SmK.bent {b : Bk} (h : SmK b) : SmB b :=
  ⟨by have := h.ie; omega, by have := h.rd; omega, h.tr, ⟨by have := h.q.1; omega, h.q.2⟩, ⟨by have := h.w.1; omega, h.w.2⟩, by have := h.h; omega, ⟨by have := h.t.1; omega, h.t.2⟩, ⟨by have := h.n.1; omega, h.n.2⟩, h.m, h.r⟩
theorem SmB.few {b : Bk} (h : SmB b) : FewK b := by
  have m : 1000 ≤ maxLen := by unfold maxLen; omega
  have h1 := h.q
  have h2 := h.w
  have h3 := h.h
  have h4 := h.t
  have h5 := h.n
  have h6 := h.m
  have h7 := h.r
  exact ⟨by omega, by omega, by omega, by omega, by omega, fun s hs => by have := h1.2 s hs; omega, fun s hs => by have := h2.2 s hs; omega, fun t ht => by have := h4.2 t ht; unfold SmT at this; omega, fun p hp => by have := h5.2 p hp; omega, by omega, by omega⟩
theorem Db.call {w0 w W : World} {g : Nat} {cv : Value} {code : List UInt8} {b : Bk} {v : Bv} (h : Db w0 w W g cv code b v) {W' : World} (hc : Cur w0 W' g cv code) (hg : W.grownBy W' (some g)) : Db w0 w W' g cv code b v := by
  have h1 := h.gl
  have O : Oth (fun k => k = g) W W' := Oth.of_grown hg (fun k e => by injection e with e; exact e.symm)
  exact ⟨blk_notg5 h.r hg (by omega), blk_notg5 h.o hg (by omega), ⟨row_oth h.own.q O (fun k e e2 => by have := (World.ownsRow.lt h.own.q k e).1; omega), row_oth h.own.p O (fun k e e2 => by have := (World.ownsRow.lt h.own.p k e).1; omega), row_oth h.own.h O (fun k e e2 => by have := (World.ownsRow.lt h.own.h k e).1; omega), row_oth h.own.t O (fun k e e2 => by have := (World.ownsRow.lt h.own.t k e).1; omega), row_oth h.own.n O (fun k e e2 => by have := (World.ownsRow.lt h.own.n k e).1; omega)⟩, hc, grw_trans h.grw hg, h1⟩
theorem Db.bel {w0 w W : World} {g : Nat} {cv : Value} {code : List UInt8} {b : Bk} {v : Bv} (h : Db w0 w W g cv code b v) {W' : World} (hb : Below W.heap.size W W') : Db w0 w W' g cv code b v :=
  h.call (h.cur.below hb h.cur.lt) (grw_of_below (some g) hb (Nat.le_refl _))
theorem Db.put {w0 w W : World} {g : Nat} {cv : Value} {code : List UInt8} {b : Bk} {v : Bv} (h : Db w0 w W g cv code b v) {b' : Bk} {v' : Bv} (j : Nat) (u : Value) (he : (bkC b v).set j u = bkC b' v') (ho : OwnK (w.heap.size + 2) W b' v') : Db w0 w (W.setCell ⟨w.heap.size, j, none⟩ u) g cv code b' v' := by
  have h1 := h.gl
  have hb : Below w.heap.size W (W.setCell ⟨w.heap.size, j, none⟩ u) := (Below.refl _ W).setCell (p := ⟨w.heap.size, j, none⟩) (show w.heap.size ≤ w.heap.size by omega) u
  exact ⟨h.r.otherC w.heap.size j u (by omega), by rw [← he]; exact h.o.setC j u, ⟨ho.q.olderC (by omega) j u, ho.p.olderC (by omega) j u, ho.h.olderC (by omega) j u, ho.t.olderC (by omega) j u, ho.n.olderC (by omega) j u⟩, h.cur.below hb h1, grw_below h.grw hb (Nat.le_refl _), h1⟩
/-- A row of the call's own has grown; the rows of other types are as they were. -/
theorem Db.grown {w0 w W W' : World} {g : Nat} {cv : Value} {code : List UInt8} {b : Bk} {v : Bv} (h : Db w0 w W g cv code b v) {row : Option Nat} (hg : W.grownBy W' row) (hlo : ∀ k, row = some k → w.heap.size + 2 ≤ k) : Blk W' (w.heap.size + 1) 37 [.int .i64 0, .int .i64 0, .int .i64 0, .string { data := #[] }, .int .i64 0, .int .i64 0, .slice none 0 0, .int .i64 0, .slice none 0 0, .slice none 0 0, .slice none 0 0, .bool false, .slice none 0 0, .string { data := #[] }] ∧ Blk W' w.heap.size 37 (bkC b v) ∧ Cur w0 W' g cv code ∧ w.grownBy W' (some g) := by
  have h1 := h.gl
  have h3 := h.r.lt
  have O : Oth (fun k => row = some k) W W' := Oth.of_grown hg (fun k e => e)
  have hb : Below (w.heap.size + 2) W W' := O.below (fun k e => hlo k e) (by omega)
  exact ⟨h.r.below hb (by omega), h.o.below hb (by omega), h.cur.below hb (by omega), grw_below h.grw hb (by omega)⟩
theorem Db.appT {w0 w W W' : World} {g : Nat} {cv : Value} {code : List UInt8} {b : Bk} {v : Bv} (h : Db w0 w W g cv code b v) {u : Value} {l : List Tx5} (hg : W.grownBy W' v.t.ownBlock) (ho : OwnT (w.heap.size + 2) W' u l) : Blk W' w.heap.size 37 (bkC b v) ∧ Db w0 w (W'.setCell ⟨w.heap.size, 10, none⟩ u) g cv code { b with ts := l } { v with t := u } := by
  obtain ⟨k1, k2, k3, k4⟩ := h.grown hg (fun k e => (World.ownsRow.lt h.own.t k e).1)
  have O : Oth (fun k => v.t.ownBlock = some k) W W' := Oth.of_grown hg (fun k e => e)
  have h1 := h.gl
  have hb : Below w.heap.size W' (W'.setCell ⟨w.heap.size, 10, none⟩ u) := (Below.refl _ W').setCell (p := ⟨w.heap.size, 10, none⟩) (show w.heap.size ≤ w.heap.size by omega) u
  have oq : OwnS (w.heap.size + 2) W' v.q b.qw := row_oth h.own.q O (fun k e e2 => rows_apart h.own.t h.own.q (by decide) k e e2)
  have ow : OwnS (w.heap.size + 2) W' v.w b.tw := row_oth h.own.p O (fun k e e2 => rows_apart h.own.t h.own.p (by decide) k e e2)
  have oh : OwnI (w.heap.size + 2) W' v.h b.th := row_oth h.own.h O (fun k e e2 => rows_apart h.own.t h.own.h (by decide) k e e2)
  have on : OwnV (w.heap.size + 2) W' v.n b.nx := row_oth h.own.n O (fun k e e2 => rows_apart h.own.t h.own.n (by decide) k e e2)
  exact ⟨k2, k1.otherC w.heap.size 10 u (by omega), k2.setC 10 u, ⟨oq.olderC (by omega) 10 u, ow.olderC (by omega) 10 u, oh.olderC (by omega) 10 u, ho.olderC (by omega) 10 u, on.olderC (by omega) 10 u⟩, k3.below hb h1, grw_below k4 hb (Nat.le_refl _), h1⟩
theorem Db.appN {w0 w W W' : World} {g : Nat} {cv : Value} {code : List UInt8} {b : Bk} {v : Bv} (h : Db w0 w W g cv code b v) {u : Value} {l : List Vl} (hg : W.grownBy W' v.n.ownBlock) (ho : OwnV (w.heap.size + 2) W' u l) : Blk W' w.heap.size 37 (bkC b v) ∧ Db w0 w (W'.setCell ⟨w.heap.size, 12, none⟩ u) g cv code { b with nx := l } { v with n := u } := by
  obtain ⟨k1, k2, k3, k4⟩ := h.grown hg (fun k e => (World.ownsRow.lt h.own.n k e).1)
  have O : Oth (fun k => v.n.ownBlock = some k) W W' := Oth.of_grown hg (fun k e => e)
  have h1 := h.gl
  have hb : Below w.heap.size W' (W'.setCell ⟨w.heap.size, 12, none⟩ u) := (Below.refl _ W').setCell (p := ⟨w.heap.size, 12, none⟩) (show w.heap.size ≤ w.heap.size by omega) u
  have oq : OwnS (w.heap.size + 2) W' v.q b.qw := row_oth h.own.q O (fun k e e2 => rows_apart h.own.n h.own.q (by decide) k e e2)
  have ow : OwnS (w.heap.size + 2) W' v.w b.tw := row_oth h.own.p O (fun k e e2 => rows_apart h.own.n h.own.p (by decide) k e e2)
  have oh : OwnI (w.heap.size + 2) W' v.h b.th := row_oth h.own.h O (fun k e e2 => rows_apart h.own.n h.own.h (by decide) k e e2)
  have ot : OwnT (w.heap.size + 2) W' v.t b.ts := row_oth h.own.t O (fun k e e2 => rows_apart h.own.n h.own.t (by decide) k e e2)
  exact ⟨k2, k1.otherC w.heap.size 12 u (by omega), k2.setC 12 u, ⟨oq.olderC (by omega) 12 u, ow.olderC (by omega) 12 u, oh.olderC (by omega) 12 u, ot.olderC (by omega) 12 u, ho.olderC (by omega) 12 u⟩, k3.below hb h1, grw_below k4 hb (Nat.le_refl _), h1⟩
theorem Db.putQc {w0 w W : World} {g : Nat} {cv : Value} {code : List UInt8} {b : Bk} {v : Bv} (h : Db w0 w W g cv code b v) (r k : Int) {u : Value} {l : List ByteArray} (oq : OwnS (w.heap.size + 2) W u l) : Db w0 w (((W.setCell ⟨w.heap.size, 4, none⟩ (.int .i64 r)).setCell ⟨w.heap.size, 5, none⟩ (.int .i64 k)).setCell ⟨w.heap.size, 6, none⟩ u) g cv code { b with qr := r, qb := k, qw := l } { v with q := u } := by
  have d4 : Db w0 w (W.setCell ⟨w.heap.size, 4, none⟩ (.int .i64 r)) g cv code { b with qr := r } v := h.put 4 (.int .i64 r) rfl ⟨h.own.q, h.own.p, h.own.h, h.own.t, h.own.n⟩
  have d5 : Db w0 w ((W.setCell ⟨w.heap.size, 4, none⟩ (.int .i64 r)).setCell ⟨w.heap.size, 5, none⟩ (.int .i64 k)) g cv code { b with qr := r, qb := k } v := d4.put 5 (.int .i64 k) rfl ⟨d4.own.q, d4.own.p, d4.own.h, d4.own.t, d4.own.n⟩
  exact d5.put 6 u rfl ⟨(oq.olderC (by omega) 4 _).olderC (by omega) 5 _, d5.own.p, d5.own.h, d5.own.t, d5.own.n⟩
theorem Db.putTc {w0 w W : World} {g : Nat} {cv : Value} {code : List UInt8} {b : Bk} {v : Bv} (h : Db w0 w W g cv code b v) (r : Int) {u x : Value} {l : List ByteArray} {m : List Int} (ow : OwnS (w.heap.size + 2) W u l) (oh : OwnI (w.heap.size + 2) W x m) : Db w0 w (((W.setCell ⟨w.heap.size, 7, none⟩ (.int .i64 r)).setCell ⟨w.heap.size, 8, none⟩ u).setCell ⟨w.heap.size, 9, none⟩ x) g cv code { b with tr := r, tw := l, th := m } { v with w := u, h := x } := by
  have d4 : Db w0 w (W.setCell ⟨w.heap.size, 7, none⟩ (.int .i64 r)) g cv code { b with tr := r } v := h.put 7 (.int .i64 r) rfl ⟨h.own.q, h.own.p, h.own.h, h.own.t, h.own.n⟩
  have d5 : Db w0 w ((W.setCell ⟨w.heap.size, 7, none⟩ (.int .i64 r)).setCell ⟨w.heap.size, 8, none⟩ u) g cv code { b with tr := r, tw := l } { v with w := u } := d4.put 8 u rfl ⟨d4.own.q, ow.olderC (by omega) 7 _, d4.own.h, d4.own.t, d4.own.n⟩
  exact d5.put 9 x rfl ⟨d5.own.q, d5.own.p, (oh.olderC (by omega) 7 _).olderC (by omega) 8 _, d5.own.t, d5.own.n⟩
set_option maxRecDepth 20000 in
set_option maxHeartbeats 8000000 in
theorem l9Bend_any (w0 w : World) (g : Nat) (cv : Value) (code : List UInt8) (b : Bk) (v : Bv) (hc : Cur w0 w g cv code) (hl : code.length ≤ 1048576) (hr : RdK w b v) (hS : SmK b) :
    Calls Try.prog 100 #[.pointer (some ⟨g, 0, none⟩), bkV b v] w fun e w' => ∃ (b' : Bk) (v' : Bv), e = .returned (bkV b' v') ∧ OwnK w.heap.size w' b' v' ∧ SmB b' ∧ Cur w0 w' g cv code ∧ w.grownBy w' (some g) := by
  have hgl := hc.lt
  have hrd := hS.rd
  have HS := hide hS.bent
  have HK := hide hS
  have Hf := hide hS.few
  clear hS
  obtain ⟨vq, vw, vh, vt, vn⟩ := v
  obtain ⟨aq, cq, hvq⟩ := hr.q.shape
  obtain ⟨aw, cw, hvw⟩ := hr.p.shape
  obtain ⟨ah, ch, hvh⟩ := hr.h.shape
  obtain ⟨at_, ct, hvt⟩ := hr.t.shape
  obtain ⟨an, cn, hvn⟩ := hr.n.shape
  simp only at hvq hvw hvh hvt hvn
  subst hvq hvw hvh hvt hvn
  have HR := hide hr
  clear hr
  simp only [bkV]
  obtain ⟨S0, hS0⟩ : ∃ x, (w.alloc (.cells #[.int .i64 b.id, .int .i64 b.ep, .int .i64 b.rd, .string b.md, .int .i64 b.qr, .int .i64 b.qb, .slice aq b.qw.length cq, .int .i64 b.tr, .slice aw b.tw.length cw, .slice ah b.th.length ch, .slice at_ b.ts.length ct, .bool b.en, .slice an b.nx.length cn, .string b.rt] 37)).alloc (.cells #[.int .i64 0, .int .i64 0, .int .i64 0, .string { data := #[] }, .int .i64 0, .int .i64 0, .slice none 0 0, .int .i64 0, .slice none 0 0, .slice none 0 0, .slice none 0 0, .bool false, .slice none 0 0, .string { data := #[] }] 37) = x := ⟨_, rfl⟩
  have C0 := hide (show Cp w S0 [.int .i64 b.id, .int .i64 b.ep, .int .i64 b.rd, .string b.md, .int .i64 b.qr, .int .i64 b.qb, .slice aq b.qw.length cq, .int .i64 b.tr, .slice aw b.tw.length cw, .slice ah b.th.length ch, .slice at_ b.ts.length ct, .bool b.en, .slice an b.nx.length cn, .string b.rt] from by rw [← hS0]; exact cp_start w [.int .i64 b.id, .int .i64 b.ep, .int .i64 b.rd, .string b.md, .int .i64 b.qr, .int .i64 b.qb, .slice aq b.qw.length cq, .int .i64 b.tr, .slice aw b.tw.length cw, .slice ah b.th.length ch, .slice at_ b.ts.length ct, .bool b.en, .slice an b.nx.length cn, .string b.rt])
  have HC := hide (specCopied_any b ⟨.slice aq b.qw.length cq, .slice aw b.tw.length cw, .slice ah b.th.length ch, .slice at_ b.ts.length ct, .slice an b.nx.length cn⟩ S0 (HR.out.below C0.out.b (Nat.le_refl _)) Hf.out)
  simp only [bkV] at HC
  have Hcur0 := hide (hc.below C0.out.b hgl)
  clear hc HR
  have x0 := C0.out.p.cell 0
  have x1 := C0.out.p.cell 1
  have x2 := C0.out.p.cell 2
  have x3 := C0.out.p.cell 3
  have x4 := C0.out.p.cell 4
  have x5 := C0.out.p.cell 5
  have x6 := C0.out.p.cell 6
  have x7 := C0.out.p.cell 7
  have x8 := C0.out.p.cell 8
  have x9 := C0.out.p.cell 9
  have x10 := C0.out.p.cell 10
  have x11 := C0.out.p.cell 11
  have x12 := C0.out.p.cell 12
  have x13 := C0.out.p.cell 13
  simp only [List.getElem?_cons_zero, List.getElem?_cons_succ] at x0 x1 x2 x3 x4 x5 x6 x7 x8 x9 x10 x11 x12 x13
  go_enter Try.func100, Try.ntmps100
  go_wp2_with fail
  (try rw [hS0])
  refine HC.out.mono ?_
  rintro e w3 ⟨⟨uq, uw, uh, ut, un⟩, rfl, o3, -, hb3⟩
  obtain ⟨a1, c1, hu1⟩ := o3.q.rd.shape
  obtain ⟨a2, c2, hu2⟩ := o3.p.rd.shape
  obtain ⟨a3, c3, hu3⟩ := o3.h.rd.shape
  obtain ⟨a4, c4, hu4⟩ := o3.t.rd.shape
  obtain ⟨a5, c5, hu5⟩ := o3.n.rd.shape
  simp only at hu1 hu2 hu3 hu4 hu5
  subst hu1 hu2 hu3 hu4 hu5
  simp only
  have kp := C0.out.p.below hb3 C0.out.p.lt
  have kr := C0.out.r.below hb3 C0.out.r.lt
  have hz0 := C0.out.lt
  have hcur := Hcur0.out.below hb3 Hcur0.out.lt
  have hgw := (grw_of_below (some g) (C0.out.b.trans (hb3.mono (C0.out.b.size))) (Nat.le_refl _))
  clear x0 x1 x2 x3 x4 x5 x6 x7 x8 x9 x10 x11 x12 x13 HC Hcur0
  have y0 := kp.cell 0
  have g0 := kp.frozen 0
  have y1 := kp.cell 1
  have g1 := kp.frozen 1
  have y2 := kp.cell 2
  have g2 := kp.frozen 2
  have y3 := kp.cell 3
  have g3 := kp.frozen 3
  have y4 := kp.cell 4
  have g4 := kp.frozen 4
  have y5 := kp.cell 5
  have g5 := kp.frozen 5
  have y6 := kp.cell 6
  have g6 := kp.frozen 6
  have y7 := kp.cell 7
  have g7 := kp.frozen 7
  have y8 := kp.cell 8
  have g8 := kp.frozen 8
  have y9 := kp.cell 9
  have g9 := kp.frozen 9
  have y10 := kp.cell 10
  have g10 := kp.frozen 10
  have y11 := kp.cell 11
  have g11 := kp.frozen 11
  have y12 := kp.cell 12
  have g12 := kp.frozen 12
  have y13 := kp.cell 13
  have g13 := kp.frozen 13
  simp only [List.getElem?_cons_zero, List.getElem?_cons_succ] at y0 y1 y2 y3 y4 y5 y6 y7 y8 y9 y10 y11 y12 y13
  obtain ⟨S1, hS1⟩ : ∃ x, ((((((((((((((w3).setCell ⟨w.heap.size, 0, none⟩ (.int .i64 b.id)).setCell ⟨w.heap.size, 1, none⟩ (.int .i64 b.ep)).setCell ⟨w.heap.size, 2, none⟩ (.int .i64 b.rd)).setCell ⟨w.heap.size, 3, none⟩ (.string b.md)).setCell ⟨w.heap.size, 4, none⟩ (.int .i64 b.qr)).setCell ⟨w.heap.size, 5, none⟩ (.int .i64 b.qb)).setCell ⟨w.heap.size, 6, none⟩ (.slice a1 b.qw.length c1)).setCell ⟨w.heap.size, 7, none⟩ (.int .i64 b.tr)).setCell ⟨w.heap.size, 8, none⟩ (.slice a2 b.tw.length c2)).setCell ⟨w.heap.size, 9, none⟩ (.slice a3 b.th.length c3)).setCell ⟨w.heap.size, 10, none⟩ (.slice a4 b.ts.length c4)).setCell ⟨w.heap.size, 11, none⟩ (.bool b.en)).setCell ⟨w.heap.size, 12, none⟩ (.slice a5 b.nx.length c5)).setCell ⟨w.heap.size, 13, none⟩ (.string b.rt) = x := ⟨_, rfl⟩
  have hbp := below_put14 w3 w.heap.size (.int .i64 b.id) (.int .i64 b.ep) (.int .i64 b.rd) (.string b.md) (.int .i64 b.qr) (.int .i64 b.qb) (.slice a1 b.qw.length c1) (.int .i64 b.tr) (.slice a2 b.tw.length c2) (.slice a3 b.th.length c3) (.slice a4 b.ts.length c4) (.bool b.en) (.slice a5 b.nx.length c5) (.string b.rt)
  have HD1 : Hid (Db w0 w S1 g cv code b ⟨.slice a1 b.qw.length c1, .slice a2 b.tw.length c2, .slice a3 b.th.length c3, .slice a4 b.ts.length c4, .slice a5 b.nx.length c5⟩) := hide (by
    rw [← hS1]
    exact ⟨((((((((((((((kr.otherC w.heap.size 0 _ (by omega)).otherC w.heap.size 1 _ (by omega)).otherC w.heap.size 2 _ (by omega)).otherC w.heap.size 3 _ (by omega)).otherC w.heap.size 4 _ (by omega)).otherC w.heap.size 5 _ (by omega)).otherC w.heap.size 6 _ (by omega)).otherC w.heap.size 7 _ (by omega)).otherC w.heap.size 8 _ (by omega)).otherC w.heap.size 9 _ (by omega)).otherC w.heap.size 10 _ (by omega)).otherC w.heap.size 11 _ (by omega)).otherC w.heap.size 12 _ (by omega)).otherC w.heap.size 13 _ (by omega)), ((((((((((((((kp.setC 0 _).setC 1 _).setC 2 _).setC 3 _).setC 4 _).setC 5 _).setC 6 _).setC 7 _).setC 8 _).setC 9 _).setC 10 _).setC 11 _).setC 12 _).setC 13 _), ⟨(o3.q.put14 (g := w.heap.size) (by omega) (.int .i64 b.id) (.int .i64 b.ep) (.int .i64 b.rd) (.string b.md) (.int .i64 b.qr) (.int .i64 b.qb) (.slice a1 b.qw.length c1) (.int .i64 b.tr) (.slice a2 b.tw.length c2) (.slice a3 b.th.length c3) (.slice a4 b.ts.length c4) (.bool b.en) (.slice a5 b.nx.length c5) (.string b.rt)).mono (by omega), (o3.p.put14 (g := w.heap.size) (by omega) (.int .i64 b.id) (.int .i64 b.ep) (.int .i64 b.rd) (.string b.md) (.int .i64 b.qr) (.int .i64 b.qb) (.slice a1 b.qw.length c1) (.int .i64 b.tr) (.slice a2 b.tw.length c2) (.slice a3 b.th.length c3) (.slice a4 b.ts.length c4) (.bool b.en) (.slice a5 b.nx.length c5) (.string b.rt)).mono (by omega), (o3.h.put14 (g := w.heap.size) (by omega) (.int .i64 b.id) (.int .i64 b.ep) (.int .i64 b.rd) (.string b.md) (.int .i64 b.qr) (.int .i64 b.qb) (.slice a1 b.qw.length c1) (.int .i64 b.tr) (.slice a2 b.tw.length c2) (.slice a3 b.th.length c3) (.slice a4 b.ts.length c4) (.bool b.en) (.slice a5 b.nx.length c5) (.string b.rt)).mono (by omega), (o3.t.put14 (g := w.heap.size) (by omega) (.int .i64 b.id) (.int .i64 b.ep) (.int .i64 b.rd) (.string b.md) (.int .i64 b.qr) (.int .i64 b.qb) (.slice a1 b.qw.length c1) (.int .i64 b.tr) (.slice a2 b.tw.length c2) (.slice a3 b.th.length c3) (.slice a4 b.ts.length c4) (.bool b.en) (.slice a5 b.nx.length c5) (.string b.rt)).mono (by omega), (o3.n.put14 (g := w.heap.size) (by omega) (.int .i64 b.id) (.int .i64 b.ep) (.int .i64 b.rd) (.string b.md) (.int .i64 b.qr) (.int .i64 b.qb) (.slice a1 b.qw.length c1) (.int .i64 b.tr) (.slice a2 b.tw.length c2) (.slice a3 b.th.length c3) (.slice a4 b.ts.length c4) (.bool b.en) (.slice a5 b.nx.length c5) (.string b.rt)).mono (by omega)⟩, hcur.below hbp hgl, grw_below hgw hbp (Nat.le_refl _), hgl⟩)
  clear o3 hb3 kp kr hcur hgw hbp C0
  go_wp2_with fail
  (try rw [hS1])
  refine (l1Below_any w0 _ g cv code 12 HD1.out.cur hl (by omega) (by omega)).mono ?_
  rintro e w4 ⟨y, rfl, hy, -, hc4, hg4⟩
  have HD4 := hide (HD1.out.call hc4 hg4)
  have hg4l := HD4.out.cur.lt
  have hz4 := HD4.out.r.lt
  clear HD1 hS1 hS0 hc4 hg4 hy y0 y1 y2 y3 y4 y5 y6 y7 y8 y9 y10 y11 y12 y13 g0 g1 g2 g3 g4 g5 g6 g7 g8 g9 g10 g11 g12 g13
  generalize (⟨.slice a1 b.qw.length c1, .slice a2 b.tw.length c2, .slice a3 b.th.length c3, .slice a4 b.ts.length c4, .slice a5 b.nx.length c5⟩ : Bv) = v at HD4
  go_upto_block 0 with fail
  go_cut [] from 9 (fun wc => ∃ (b' : Bk) (v' : Bv), Db w0 w wc g cv code b' v' ∧ SmB b')
  case first =>
    by_cases hy0 : y = 0
    · subst hy0
      obtain ⟨w5, hw5⟩ : ∃ w5, w4.alloc (.cells #[.int .i64 (-1), .int .i64 0, .int .i64 100001] 3) = w5 := ⟨_, rfl⟩
      have b5 : Below w4.heap.size w4 w5 := by rw [← hw5]; exact (Below.refl _ w4).alloc (Nat.le_refl _) _
      have HI5 : Hid (IntsAt w5 w4.heap.size [-1, 0, 100001]) := hide (by rw [← hw5]; exact ints_new w4 [-1, 0, 100001] 3)
      have HD5 := hide (HD4.out.bel b5)
      clear b5
      go_wp2_with fail
      refine (l1Int_any w0 _ g w4.heap.size cv code [-1, 0, 100001] HD5.out.cur hl HI5.out (by omega) (by simp) (by simp) 3).mono ?_
      rintro e w6 ⟨n, rfl, hn, hc6, hg6⟩
      have HD6 := hide (HD5.out.call hc6 hg6)
      have HD7 := hide (HD6.out.put 0 (.int .i64 n) (b' := { b with id := n }) rfl ⟨HD6.out.own.q, HD6.out.own.p, HD6.out.own.h, HD6.out.own.t, HD6.out.own.n⟩)
      have c0 := Blk.cell HD6.out.o 0
      have f0 := Blk.frozen HD6.out.o 0
      simp only [bkC, List.getElem?_cons_zero] at c0
      have HSn : Hid (SmB { b with id := n }) := hide (by
        simp only [List.mem_cons, List.not_mem_nil, or_false] at hn
        have h1 := HS.out.ie
        exact ⟨⟨by simp only; omega, h1.2⟩, HS.out.rd, HS.out.tr, HS.out.q, HS.out.w, HS.out.h, HS.out.t, HS.out.n, HS.out.m, HS.out.r⟩)
      clear hw5 HI5 HD5 HD6 HD4 hc6 hg6 hn
      go_wp2
      go_meet
      case rel => exact ⟨_, _, HD7.out, HSn.out⟩
    have ny0 : ((y : Int) == 0) = false := by rw [beq_eq_false_iff_ne]; omega
    by_cases hy1 : y = 1
    · subst hy1
      obtain ⟨w5, hw5⟩ : ∃ w5, w4.alloc (.cells #[.int .i64 (-1), .int .i64 901, .int .i64 1] 3) = w5 := ⟨_, rfl⟩
      have b5 : Below w4.heap.size w4 w5 := by rw [← hw5]; exact (Below.refl _ w4).alloc (Nat.le_refl _) _
      have HI5 : Hid (IntsAt w5 w4.heap.size [-1, 901, 1]) := hide (by rw [← hw5]; exact ints_new w4 [-1, 901, 1] 3)
      have HD5 := hide (HD4.out.bel b5)
      clear b5
      go_wp2_with fail
      refine (l1Int_any w0 _ g w4.heap.size cv code [-1, 901, 1] HD5.out.cur hl HI5.out (by omega) (by simp) (by simp) 3).mono ?_
      rintro e w6 ⟨n, rfl, hn, hc6, hg6⟩
      have HD6 := hide (HD5.out.call hc6 hg6)
      have HD7 := hide (HD6.out.put 1 (.int .i64 n) (b' := { b with ep := n }) rfl ⟨HD6.out.own.q, HD6.out.own.p, HD6.out.own.h, HD6.out.own.t, HD6.out.own.n⟩)
      have c0 := Blk.cell HD6.out.o 1
      have f0 := Blk.frozen HD6.out.o 1
      simp only [bkC, List.getElem?_cons_zero, List.getElem?_cons_succ] at c0
      have HSn : Hid (SmB { b with ep := n }) := hide (by
        simp only [List.mem_cons, List.not_mem_nil, or_false] at hn
        have h1 := HS.out.ie
        exact ⟨⟨h1.1, by simp only; omega⟩, HS.out.rd, HS.out.tr, HS.out.q, HS.out.w, HS.out.h, HS.out.t, HS.out.n, HS.out.m, HS.out.r⟩)
      clear hw5 HI5 HD5 HD6 HD4 hc6 hg6 hn
      go_wp2
      go_meet
      case rel => exact ⟨_, _, HD7.out, HSn.out⟩
    have ny1 : ((y : Int) == 1) = false := by rw [beq_eq_false_iff_ne]; omega
    by_cases hy2 : y = 2
    · subst hy2
      have x2 := HD4.out.o.cell 2
      simp only [bkC, List.getElem?_cons_zero, List.getElem?_cons_succ] at x2
      have ew : IntKind.i64.wrap (b.rd + 1) = b.rd + 1 := by rw [IntKind.wrap_i64]; omega
      obtain ⟨w5, hw5⟩ : ∃ w5, w4.alloc (.cells #[.int .i64 0, .int .i64 1, .int .i64 10001, .int .i64 (b.rd + 1)] 3) = w5 := ⟨_, rfl⟩
      have b5 : Below w4.heap.size w4 w5 := by rw [← hw5]; exact (Below.refl _ w4).alloc (Nat.le_refl _) _
      have HI5 : Hid (IntsAt w5 w4.heap.size [0, 1, 10001, b.rd + 1]) := hide (by rw [← hw5]; exact ints_new w4 [0, 1, 10001, b.rd + 1] 3)
      have HD5 := hide (HD4.out.bel b5)
      clear b5
      go_wp2_with fail
      refine (l1Int_any w0 _ g w4.heap.size cv code [0, 1, 10001, b.rd + 1] HD5.out.cur hl HI5.out (by omega) (by simp) (by simp) 4).mono ?_
      rintro e w6 ⟨n, rfl, hn, hc6, hg6⟩
      have HD6 := hide (HD5.out.call hc6 hg6)
      have HD7 := hide (HD6.out.put 2 (.int .i64 n) (b' := { b with rd := n }) rfl ⟨HD6.out.own.q, HD6.out.own.p, HD6.out.own.h, HD6.out.own.t, HD6.out.own.n⟩)
      have c0 := Blk.cell HD6.out.o 2
      have f0 := Blk.frozen HD6.out.o 2
      simp only [bkC, List.getElem?_cons_zero, List.getElem?_cons_succ] at c0
      have HSn : Hid (SmB { b with rd := n }) := hide (by
        simp only [List.mem_cons, List.not_mem_nil, or_false] at hn
        have h1 := HS.out.ie
        exact ⟨HS.out.ie, (by simp only; omega), HS.out.tr, HS.out.q, HS.out.w, HS.out.h, HS.out.t, HS.out.n, HS.out.m, HS.out.r⟩)
      clear hw5 HI5 HD5 HD6 HD4 hc6 hg6 hn
      go_wp2
      go_meet
      case rel => exact ⟨_, _, HD7.out, HSn.out⟩
    have ny2 : ((y : Int) == 2) = false := by rw [beq_eq_false_iff_ne]; omega
    by_cases hy3 : y = 3
    · subst hy3
      go_wp2_with fail
      refine (l1NameAny_any w0 _ g cv code HD4.out.cur hl).mono ?_
      rintro e w6 ⟨s, rfl, hs, hc6, hg6⟩
      have HD6 := hide (HD4.out.call hc6 hg6)
      have HD7 := hide (HD6.out.put 3 (.string s) (b' := { b with md := s }) rfl ⟨HD6.out.own.q, HD6.out.own.p, HD6.out.own.h, HD6.out.own.t, HD6.out.own.n⟩)
      have c0 := Blk.cell HD6.out.o 3
      have f0 := Blk.frozen HD6.out.o 3
      simp only [bkC, List.getElem?_cons_zero, List.getElem?_cons_succ] at c0
      have HSn : Hid (SmB { b with md := s }) := hide ⟨HS.out.ie, HS.out.rd, HS.out.tr, HS.out.q, HS.out.w, HS.out.h, HS.out.t, HS.out.n, hs, HS.out.r⟩
      clear HD6 HD4 hc6 hg6
      go_wp2
      go_meet
      case rel => exact ⟨_, _, HD7.out, HSn.out⟩
    have ny3 : ((y : Int) == 3) = false := by rw [beq_eq_false_iff_ne]; omega
    by_cases hy4 : y = 4
    · subst hy4
      go_wp2_with fail
      refine (l8Qc_any w0 _ g cv code HD4.out.cur hl).mono ?_
      rintro e w6 ⟨r, k, v6, ls, rfl, -, o6, hl6, hs6, hc6, hg6⟩
      obtain ⟨a6, c6, rfl⟩ := o6.rd.shape
      have HD6 := hide (HD4.out.call hc6 hg6)
      have HD7 := hide (HD6.out.putQc r k (o6.mono (show w.heap.size + 2 ≤ w4.heap.size by omega)))
      have c4 := Blk.cell HD6.out.o 4
      have f4 := Blk.frozen HD6.out.o 4
      have c5 := Blk.cell HD6.out.o 5
      have f5 := Blk.frozen HD6.out.o 5
      have c6 := Blk.cell HD6.out.o 6
      have f6 := Blk.frozen HD6.out.o 6
      simp only [bkC, List.getElem?_cons_zero, List.getElem?_cons_succ] at c4 c5 c6
      have HSn : Hid (SmB { b with qr := r, qb := k, qw := ls }) := hide ⟨HS.out.ie, HS.out.rd, HS.out.tr, ⟨hl6, hs6⟩, HS.out.w, HS.out.h, HS.out.t, HS.out.n, HS.out.m, HS.out.r⟩
      simp only [qcV]
      clear HD6 HD4 hc6 hg6 o6
      go_wp2
      go_meet
      case rel => exact ⟨_, _, HD7.out, HSn.out⟩
    have ny4 : ((y : Int) == 4) = false := by rw [beq_eq_false_iff_ne]; omega
    by_cases hy5 : y = 5
    · subst hy5
      go_wp2_with fail
      refine (l8Tc_any w0 _ g cv code HD4.out.cur hl).mono ?_
      rintro e w6 ⟨r, v6, v7, ls, is, rfl, hr6, o6, o7, hl6, hs6, hl7, hc6, hg6⟩
      obtain ⟨a6, c6, rfl⟩ := o6.rd.shape
      obtain ⟨a7, c7, rfl⟩ := o7.rd.shape
      have HD6 := hide (HD4.out.call hc6 hg6)
      have HD7 := hide (HD6.out.putTc r (o6.mono (show w.heap.size + 2 ≤ w4.heap.size by omega)) (o7.mono (show w.heap.size + 2 ≤ w4.heap.size by omega)))
      have c7 := Blk.cell HD6.out.o 7
      have f7 := Blk.frozen HD6.out.o 7
      have c8 := Blk.cell HD6.out.o 8
      have f8 := Blk.frozen HD6.out.o 8
      have c9 := Blk.cell HD6.out.o 9
      have f9 := Blk.frozen HD6.out.o 9
      simp only [bkC, List.getElem?_cons_zero, List.getElem?_cons_succ] at c7 c8 c9
      have HSn : Hid (SmB { b with tr := r, tw := ls, th := is }) := hide ⟨HS.out.ie, HS.out.rd, (by simp only; omega), HS.out.q, ⟨hl6, hs6⟩, hl7, HS.out.t, HS.out.n, HS.out.m, HS.out.r⟩
      simp only [tcV]
      clear HD6 HD4 hc6 hg6 o6 o7
      go_wp2
      go_meet
      case rel => exact ⟨_, _, HD7.out, HSn.out⟩
    have ny5 : ((y : Int) == 5) = false := by rw [beq_eq_false_iff_ne]; omega
    by_cases hy6 : y = 6
    · subst hy6
      obtain ⟨vq, vw, vh, vt, vn⟩ := v
      obtain ⟨at_, ct, hvt⟩ := HD4.out.own.t.rd.shape
      simp only at hvt
      subst hvt
      have c10 := HD4.out.o.cell 10
      simp only [bkC, List.getElem?_cons_zero, List.getElem?_cons_succ] at c10
      have C1 := hide (fun V (hV : Cur w0 V g cv code) => l5Any_any w0 V g cv code hV hl)
      have HDd := hide (HD4.out.bel ((Below.refl _ w4).drew))
      have c10d : w4.drew.cell? ⟨w.heap.size, 10, none⟩ = some (.slice at_ b.ts.length ct) := c10
      have hts := HK.out.t.1
      clear HD4
      go_wp2
      go_region_law (first
        | (refine step_appTK rfl _ _ rfl (w.heap.size + 2) (.slice at_ b.ts.length ct) w6.heap.size b.ts (kd, fr, tt, am, no) (by rfl) (by rfl) HDa.out.own.t (Blk.newV w6 _ [.int .i64 kd, .string fr, .string tt, .int .i64 am, .int .i64 no] _ rfl) (by omega) (by have := Blk.lt HDa.out.r; omega) ?_; intro v7 w7 ho7 hg7; have hap := HDa.out.appT hg7 ho7; have y9 := Blk.cell hap.1 10; have g9 := Blk.frozen hap.1 10; have HD7 := hide hap.2; have hsh := ho7.rd.shape; rw [List.length_append, List.length_cons, List.length_nil, Nat.zero_add] at hsh; obtain ⟨a7, c7', hv7⟩ := hsh; subst hv7; simp only [bkC, List.getElem?_cons_zero, List.getElem?_cons_succ] at y9; clear hap ho7 hg7)
        | (go_simp; go_at_call 140; (with_reducible refine (C1.out _ HDd.out.cur).mono ?_); rintro e w6 ⟨⟨kd, fr, tt, am, no⟩, rfl, hsm, hc6, hg6⟩; simp only [txV]; have Hsm := hide hsm; have HD6 := hide (HDd.out.call hc6 hg6); have HDa := hide (HD6.out.bel ((Below.refl _ w6).alloc (Nat.le_refl _) (.cells #[.int .i64 kd, .string fr, .string tt, .int .i64 am, .int .i64 no] 94))); have y6 := Blk.cell HD6.out.o 10; have ya := Blk.cell HDa.out.o 10; simp only [bkC, List.getElem?_cons_zero, List.getElem?_cons_succ] at y6 ya; clear hc6 hg6 hsm))
      all_goals
        have HSn : Hid (SmB { b with ts := b.ts ++ [(kd, fr, tt, am, no)] }) := hide ⟨HS.out.ie, HS.out.rd, HS.out.tr, HS.out.q, HS.out.w, HS.out.h, ⟨by simp; omega, fun t ht => by
          rcases List.mem_append.1 ht with h | h
          · exact HS.out.t.2 t h
          · rw [List.mem_singleton.1 h]; exact Hsm.out⟩, HS.out.n, HS.out.m, HS.out.r⟩
        go_wp2
        go_meet
        case rel => exact ⟨_, _, HD7.out, HSn.out⟩
    have ny6 : ((y : Int) == 6) = false := by rw [beq_eq_false_iff_ne]; omega
    by_cases hy7 : y = 7
    · subst hy7
      have HD7 := hide (HD4.out.put 11 (.bool (!b.en)) (b' := { b with en := !b.en }) rfl ⟨HD4.out.own.q, HD4.out.own.p, HD4.out.own.h, HD4.out.own.t, HD4.out.own.n⟩)
      have c0 := Blk.cell HD4.out.o 11
      have f0 := Blk.frozen HD4.out.o 11
      simp only [bkC, List.getElem?_cons_zero, List.getElem?_cons_succ] at c0
      have HSn : Hid (SmB { b with en := !b.en }) := hide ⟨HS.out.ie, HS.out.rd, HS.out.tr, HS.out.q, HS.out.w, HS.out.h, HS.out.t, HS.out.n, HS.out.m, HS.out.r⟩
      clear HD4
      go_wp2
      go_meet
      case rel => exact ⟨_, _, HD7.out, HSn.out⟩
    have ny7 : ((y : Int) == 7) = false := by rw [beq_eq_false_iff_ne]; omega
    by_cases hy8 : y = 8
    · subst hy8
      obtain ⟨vq, vw, vh, vt, vn⟩ := v
      obtain ⟨an, cn, hvn⟩ := HD4.out.own.n.rd.shape
      simp only at hvn
      subst hvn
      have c12 := HD4.out.o.cell 12
      simp only [bkC, List.getElem?_cons_zero, List.getElem?_cons_succ] at c12
      have C1 := hide (fun V (hV : Cur w0 V g cv code) => l1Name_any w0 V g cv code hV hl)
      have HDd := hide (HD4.out.bel ((Below.refl _ w4).drew))
      have c12d : w4.drew.cell? ⟨w.heap.size, 12, none⟩ = some (.slice an b.nx.length cn) := c12
      have hts := HK.out.n.1
      clear HD4
      go_wp2
      go_region_law (first
        | (refine step_appVat rfl _ _ rfl (w.heap.size + 2) (.slice an b.nx.length cn) w6.heap.size b.nx (nm, 1) (by rfl) (by rfl) HDa.out.own.n (Blk.newV w6 _ [.string nm, .int .i64 1] _ rfl) (by omega) (by have := Blk.lt HDa.out.r; omega) ?_; intro v7 w7 ho7 hg7 _; have hap := HDa.out.appN hg7 ho7; have y9 := Blk.cell hap.1 12; have g9 := Blk.frozen hap.1 12; have HD7 := hide hap.2; have hsh := ho7.rd.shape; rw [List.length_append, List.length_cons, List.length_nil, Nat.zero_add] at hsh; obtain ⟨a7, c7', hv7⟩ := hsh; subst hv7; simp only [bkC, List.getElem?_cons_zero, List.getElem?_cons_succ] at y9; clear hap ho7 hg7)
        | (go_simp; go_at_call 87; (with_reducible refine (C1.out _ HDd.out.cur).mono ?_); rintro e w6 ⟨nm, rfl, hsm, hc6, hg6⟩; have Hsm := hide hsm; have HD6 := hide (HDd.out.call hc6 hg6); have HDa := hide (HD6.out.bel ((Below.refl _ w6).alloc (Nat.le_refl _) (.cells #[.string nm, .int .i64 1] 97))); have y6 := Blk.cell HD6.out.o 12; have ya := Blk.cell HDa.out.o 12; simp only [bkC, List.getElem?_cons_zero, List.getElem?_cons_succ] at y6 ya; clear hc6 hg6 hsm))
      all_goals
        have HSn : Hid (SmB { b with nx := b.nx ++ [(nm, 1)] }) := hide ⟨HS.out.ie, HS.out.rd, HS.out.tr, HS.out.q, HS.out.w, HS.out.h, HS.out.t, ⟨by simp; omega, fun t ht => by
          rcases List.mem_append.1 ht with h | h
          · exact HS.out.n.2 t h
          · rw [List.mem_singleton.1 h]; exact Hsm.out⟩, HS.out.m, HS.out.r⟩
        go_wp2
        go_meet
        case rel => exact ⟨_, _, HD7.out, HSn.out⟩
    have ny8 : ((y : Int) == 8) = false := by rw [beq_eq_false_iff_ne]; omega
    by_cases hy9 : y = 9
    · subst hy9
      have HD7 := hide (HD4.out.put 13 (.string { data := #[120] }) (b' := { b with rt := { data := #[120] } }) rfl ⟨HD4.out.own.q, HD4.out.own.p, HD4.out.own.h, HD4.out.own.t, HD4.out.own.n⟩)
      have c0 := Blk.cell HD4.out.o 13
      have f0 := Blk.frozen HD4.out.o 13
      simp only [bkC, List.getElem?_cons_zero, List.getElem?_cons_succ] at c0
      have HSn : Hid (SmB { b with rt := { data := #[120] } }) := hide ⟨HS.out.ie, HS.out.rd, HS.out.tr, HS.out.q, HS.out.w, HS.out.h, HS.out.t, HS.out.n, HS.out.m, (by simp [ByteArray.size])⟩
      clear HD4
      go_wp2
      go_meet
      case rel => exact ⟨_, _, HD7.out, HSn.out⟩
    have ny9 : ((y : Int) == 9) = false := by rw [beq_eq_false_iff_ne]; omega
    go_wp2
    go_meet
    case rel => exact ⟨_, _, HD4.out, HS.out⟩
  case rest =>
    obtain ⟨b, v, hD, hS⟩ := hcut
    clear HD4 HS hrd Hf
    obtain ⟨vq, vw, vh, vt, vn⟩ := v
    obtain ⟨aq, cq, hvq⟩ := hD.own.q.rd.shape
    obtain ⟨aw, cw, hvw⟩ := hD.own.p.rd.shape
    obtain ⟨ah, ch, hvh⟩ := hD.own.h.rd.shape
    obtain ⟨at_, ct, hvt_⟩ := hD.own.t.rd.shape
    obtain ⟨an, cn, hvn⟩ := hD.own.n.rd.shape
    simp only at hvq hvw hvh hvt_ hvn
    subst hvq hvw hvh hvt_ hvn
    have t0 := hD.o.cell 0
    have e0 := hD.r.cell 0
    have f0 := hD.r.frozen 0
    have t1 := hD.o.cell 1
    have e1 := hD.r.cell 1
    have f1 := hD.r.frozen 1
    have t2 := hD.o.cell 2
    have e2 := hD.r.cell 2
    have f2 := hD.r.frozen 2
    have t3 := hD.o.cell 3
    have e3 := hD.r.cell 3
    have f3 := hD.r.frozen 3
    have t4 := hD.o.cell 4
    have e4 := hD.r.cell 4
    have f4 := hD.r.frozen 4
    have t5 := hD.o.cell 5
    have e5 := hD.r.cell 5
    have f5 := hD.r.frozen 5
    have t6 := hD.o.cell 6
    have e6 := hD.r.cell 6
    have f6 := hD.r.frozen 6
    have t7 := hD.o.cell 7
    have e7 := hD.r.cell 7
    have f7 := hD.r.frozen 7
    have t8 := hD.o.cell 8
    have e8 := hD.r.cell 8
    have f8 := hD.r.frozen 8
    have t9 := hD.o.cell 9
    have e9 := hD.r.cell 9
    have f9 := hD.r.frozen 9
    have t10 := hD.o.cell 10
    have e10 := hD.r.cell 10
    have f10 := hD.r.frozen 10
    have t11 := hD.o.cell 11
    have e11 := hD.r.cell 11
    have f11 := hD.r.frozen 11
    have t12 := hD.o.cell 12
    have e12 := hD.r.cell 12
    have f12 := hD.r.frozen 12
    have t13 := hD.o.cell 13
    have e13 := hD.r.cell 13
    have f13 := hD.r.frozen 13
    simp only [bkC, List.getElem?_cons_zero, List.getElem?_cons_succ] at t0 e0 t1 e1 t2 e2 t3 e3 t4 e4 t5 e5 t6 e6 t7 e7 t8 e8 t9 e9 t10 e10 t11 e11 t12 e12 t13 e13
    have HQ := hide ((hD.own.q.put14 (g := w.heap.size + 1) (by omega) (.int .i64 b.id) (.int .i64 b.ep) (.int .i64 b.rd) (.string b.md) (.int .i64 b.qr) (.int .i64 b.qb) (.slice aq b.qw.length cq) (.int .i64 b.tr) (.slice aw b.tw.length cw) (.slice ah b.th.length ch) (.slice at_ b.ts.length ct) (.bool b.en) (.slice an b.nx.length cn) (.string b.rt)).mono (show w.heap.size ≤ w.heap.size + 2 by omega))
    have HP := hide ((hD.own.p.put14 (g := w.heap.size + 1) (by omega) (.int .i64 b.id) (.int .i64 b.ep) (.int .i64 b.rd) (.string b.md) (.int .i64 b.qr) (.int .i64 b.qb) (.slice aq b.qw.length cq) (.int .i64 b.tr) (.slice aw b.tw.length cw) (.slice ah b.th.length ch) (.slice at_ b.ts.length ct) (.bool b.en) (.slice an b.nx.length cn) (.string b.rt)).mono (show w.heap.size ≤ w.heap.size + 2 by omega))
    have HH := hide ((hD.own.h.put14 (g := w.heap.size + 1) (by omega) (.int .i64 b.id) (.int .i64 b.ep) (.int .i64 b.rd) (.string b.md) (.int .i64 b.qr) (.int .i64 b.qb) (.slice aq b.qw.length cq) (.int .i64 b.tr) (.slice aw b.tw.length cw) (.slice ah b.th.length ch) (.slice at_ b.ts.length ct) (.bool b.en) (.slice an b.nx.length cn) (.string b.rt)).mono (show w.heap.size ≤ w.heap.size + 2 by omega))
    have HT := hide ((hD.own.t.put14 (g := w.heap.size + 1) (by omega) (.int .i64 b.id) (.int .i64 b.ep) (.int .i64 b.rd) (.string b.md) (.int .i64 b.qr) (.int .i64 b.qb) (.slice aq b.qw.length cq) (.int .i64 b.tr) (.slice aw b.tw.length cw) (.slice ah b.th.length ch) (.slice at_ b.ts.length ct) (.bool b.en) (.slice an b.nx.length cn) (.string b.rt)).mono (show w.heap.size ≤ w.heap.size + 2 by omega))
    have HN := hide ((hD.own.n.put14 (g := w.heap.size + 1) (by omega) (.int .i64 b.id) (.int .i64 b.ep) (.int .i64 b.rd) (.string b.md) (.int .i64 b.qr) (.int .i64 b.qb) (.slice aq b.qw.length cq) (.int .i64 b.tr) (.slice aw b.tw.length cw) (.slice ah b.th.length ch) (.slice at_ b.ts.length ct) (.bool b.en) (.slice an b.nx.length cn) (.string b.rt)).mono (show w.heap.size ≤ w.heap.size + 2 by omega))
    have hbR := (below_put14 wc (w.heap.size + 1) (.int .i64 b.id) (.int .i64 b.ep) (.int .i64 b.rd) (.string b.md) (.int .i64 b.qr) (.int .i64 b.qb) (.slice aq b.qw.length cq) (.int .i64 b.tr) (.slice aw b.tw.length cw) (.slice ah b.th.length ch) (.slice at_ b.ts.length ct) (.bool b.en) (.slice an b.nx.length cn) (.string b.rt)).mono (show w.heap.size ≤ w.heap.size + 1 by omega)
    have HC := hide (hD.cur.below hbR hgl)
    have HG := hide (grw_below hD.grw hbR (Nat.le_refl _))
    have HS := hide hS
    clear hD hS hbR
    go_wp2
    refine bodyPost_ret (v := .agg #[.int .i64 b.id, .int .i64 b.ep, .int .i64 b.rd, .string b.md, .int .i64 b.qr, .int .i64 b.qb, .slice aq b.qw.length cq, .int .i64 b.tr, .slice aw b.tw.length cw, .slice ah b.th.length ch, .slice at_ b.ts.length ct, .bool b.en, .slice an b.nx.length cn, .string b.rt]) (by simp [results, Try.f100, go_sem, e0, e1, e2, e3, e4, e5, e6, e7, e8, e9, e10, e11, e12, e13]) rfl ?_
    exact ⟨b, ⟨_, _, _, _, _⟩, rfl, ⟨HQ.out, HP.out, HH.out, HT.out, HN.out⟩, HS.out, HC.out, HG.out⟩
end Go.Proofs.Ytbjeonnaannofaa
