/- New nodes as values: held against each other, marked, and held against the marks. -/
import Derived.Test.YtljkmoffpgpeoaaNdNil
import Derived.Test.YtljkmoffpgpeoaaVsMark
import Derived.Test.YtljkmoffpgpeoaaAcHeld
import Derived.Test.YtljkmoffpgpeoaaLgVal
import Derived.Test.YtljkmoffpgpeoaaCtVal
import Derived.Test.YtljkmoffpgpeoaaLgFacts
import Derived.Deep.MidRow
namespace Go.Proofs.Ytljkmoffpgpeoaa
open Go.RowKit
set_option linter.unusedVariables false

/-- A new node's cells: a name, an epoch, accounts, who votes, a round, High's block. -/
def ndC (nm : ByteArray) (e : Int) (va vs : Value) (rd hb : Int) : List Value := [.string nm, .int .i64 e, .int .i64 e, va, vs, .slice none 0 0, .int .i64 rd, .int .i64 0, .int .i64 0, .int .i64 hb, .slice none 0 0, .int .i64 0, .slice none 0 0, .slice none 0 0, .int .i64 0, .slice none 0 0, .slice none 0 0, .slice none 0 0, .slice none 0 0, .slice none 0 0]
def ndV (nm : ByteArray) (e : Int) (va vs : Value) (rd hb : Int) : Value := .agg #[.string nm, .int .i64 e, .int .i64 e, va, vs, .slice none 0 0, .int .i64 rd, .int .i64 0, .int .i64 0, .int .i64 hb, .slice none 0 0, .int .i64 0, .slice none 0 0, .slice none 0 0, .int .i64 0, .slice none 0 0, .slice none 0 0, .slice none 0 0, .slice none 0 0, .slice none 0 0]
theorem blk20a {W : World} {B : Nat} {t : TypeId} {u0 u1 u2 u3 u4 z0 z1 z2 z3 z4 z5 z6 z7 z8 z9 z10 z11 z12 z13 z14 z15 z16 z17 z18 z19 : Value} (h : Blk W B t [z0, z1, z2, z3, z4, z5, z6, z7, z8, z9, z10, z11, z12, z13, z14, z15, z16, z17, z18, z19]) : Blk (((((W.setCell ⟨B, 0, none⟩ u0).setCell ⟨B, 1, none⟩ u1).setCell ⟨B, 2, none⟩ u2).setCell ⟨B, 3, none⟩ u3).setCell ⟨B, 4, none⟩ u4) B t [u0, u1, u2, u3, u4, z5, z6, z7, z8, z9, z10, z11, z12, z13, z14, z15, z16, z17, z18, z19] := (((((h.setC 0 u0).setC 1 u1).setC 2 u2).setC 3 u3).setC 4 u4)
theorem blk20b {W : World} {B : Nat} {t : TypeId} {u0 u1 u2 u3 u4 u5 u6 u7 u8 u9 z5 z6 z7 z8 z9 z10 z11 z12 z13 z14 z15 z16 z17 z18 z19 : Value} (h : Blk W B t [u0, u1, u2, u3, u4, z5, z6, z7, z8, z9, z10, z11, z12, z13, z14, z15, z16, z17, z18, z19]) : Blk (((((W.setCell ⟨B, 5, none⟩ u5).setCell ⟨B, 6, none⟩ u6).setCell ⟨B, 7, none⟩ u7).setCell ⟨B, 8, none⟩ u8).setCell ⟨B, 9, none⟩ u9) B t [u0, u1, u2, u3, u4, u5, u6, u7, u8, u9, z10, z11, z12, z13, z14, z15, z16, z17, z18, z19] := (((((h.setC 5 u5).setC 6 u6).setC 7 u7).setC 8 u8).setC 9 u9)
theorem blk20c {W : World} {B : Nat} {t : TypeId} {u0 u1 u2 u3 u4 u5 u6 u7 u8 u9 u10 u11 u12 u13 u14 z10 z11 z12 z13 z14 z15 z16 z17 z18 z19 : Value} (h : Blk W B t [u0, u1, u2, u3, u4, u5, u6, u7, u8, u9, z10, z11, z12, z13, z14, z15, z16, z17, z18, z19]) : Blk (((((W.setCell ⟨B, 10, none⟩ u10).setCell ⟨B, 11, none⟩ u11).setCell ⟨B, 12, none⟩ u12).setCell ⟨B, 13, none⟩ u13).setCell ⟨B, 14, none⟩ u14) B t [u0, u1, u2, u3, u4, u5, u6, u7, u8, u9, u10, u11, u12, u13, u14, z15, z16, z17, z18, z19] := (((((h.setC 10 u10).setC 11 u11).setC 12 u12).setC 13 u13).setC 14 u14)
theorem blk20d {W : World} {B : Nat} {t : TypeId} {u0 u1 u2 u3 u4 u5 u6 u7 u8 u9 u10 u11 u12 u13 u14 u15 u16 u17 u18 u19 z15 z16 z17 z18 z19 : Value} (h : Blk W B t [u0, u1, u2, u3, u4, u5, u6, u7, u8, u9, u10, u11, u12, u13, u14, z15, z16, z17, z18, z19]) : Blk (((((W.setCell ⟨B, 15, none⟩ u15).setCell ⟨B, 16, none⟩ u16).setCell ⟨B, 17, none⟩ u17).setCell ⟨B, 18, none⟩ u18).setCell ⟨B, 19, none⟩ u19) B t [u0, u1, u2, u3, u4, u5, u6, u7, u8, u9, u10, u11, u12, u13, u14, u15, u16, u17, u18, u19] := (((((h.setC 15 u15).setC 16 u16).setC 17 u17).setC 18 u18).setC 19 u19)
theorem blk20 {W : World} {B : Nat} {t : TypeId} {z0 z1 z2 z3 z4 z5 z6 z7 z8 z9 z10 z11 z12 z13 z14 z15 z16 z17 z18 z19 u0 u1 u2 u3 u4 u5 u6 u7 u8 u9 u10 u11 u12 u13 u14 u15 u16 u17 u18 u19 : Value} (h : Blk W B t [z0, z1, z2, z3, z4, z5, z6, z7, z8, z9, z10, z11, z12, z13, z14, z15, z16, z17, z18, z19]) : Blk ((((((((((((((((((((W.setCell ⟨B, 0, none⟩ u0).setCell ⟨B, 1, none⟩ u1).setCell ⟨B, 2, none⟩ u2).setCell ⟨B, 3, none⟩ u3).setCell ⟨B, 4, none⟩ u4).setCell ⟨B, 5, none⟩ u5).setCell ⟨B, 6, none⟩ u6).setCell ⟨B, 7, none⟩ u7).setCell ⟨B, 8, none⟩ u8).setCell ⟨B, 9, none⟩ u9).setCell ⟨B, 10, none⟩ u10).setCell ⟨B, 11, none⟩ u11).setCell ⟨B, 12, none⟩ u12).setCell ⟨B, 13, none⟩ u13).setCell ⟨B, 14, none⟩ u14).setCell ⟨B, 15, none⟩ u15).setCell ⟨B, 16, none⟩ u16).setCell ⟨B, 17, none⟩ u17).setCell ⟨B, 18, none⟩ u18).setCell ⟨B, 19, none⟩ u19) B t [u0, u1, u2, u3, u4, u5, u6, u7, u8, u9, u10, u11, u12, u13, u14, u15, u16, u17, u18, u19] := blk20d (blk20c (blk20b (blk20a h)))
theorem OwnV.btw {base lo hi : Nat} {w w' : World} {v : Value} {l : List Vl} (h : OwnV base w v l) (hb : Btw lo hi w w') (hd : hi ≤ base ∨ ∀ k, v.ownBlock = some k → k < lo) : OwnV base w' v l :=
  row_btw h hb (fun k hk => by rcases hd with h' | h'; exact .inr (by have := h.ge k hk; omega); exact .inl (h' k hk))
theorem btw_four {base hi top : Nat} {w w1 w2 w3 w5 : World} (h1 : Below w.heap.size w w1) (h2 : Btw base hi w1 w2) (h3 : Btw hi top w2 w3) (h4 : Below w3.heap.size w3 w5) (hbh : base ≤ hi) (hht : hi ≤ top) (htw : top ≤ w.heap.size) : Btw base top w w5 := by
  refine ⟨h4.os.trans (h3.os.trans (h2.os.trans h1.os)), h4.tape.trans (h3.tape.trans (h2.tape.trans h1.tape)), h4.output.trans (h3.output.trans (h2.output.trans h1.output)), Nat.le_trans h1.size (Nat.le_trans h2.size (Nat.le_trans h3.size h4.size)), fun k hk hn => ?_⟩
  have s1 := h1.size
  have s2 := h2.size
  have s3 := h3.size
  rw [h4.block k (by omega), h3.block k (by omega) (by omega), h2.block k (by omega) (by omega), h1.block k hk]
set_option maxRecDepth 20000 in
set_option maxHeartbeats 4000000 in
theorem eqNode_any (nm : ByteArray) (e rd hb : Int) (aa aa' av av' : Option Addr) (na ca ca' ns cs cs' : Nat) (w : World)
    (HL : ∀ V, Below w.heap.size w V → Calls Try.prog 9 #[.agg #[.int .i64 e, .slice aa na ca], .agg #[.int .i64 e, .slice aa' na ca']] V fun en w' => en = .returned (.bool true) ∧ Below V.heap.size V w')
    (HV : ∀ V, Below w.heap.size w V → Calls Try.prog 24 #[.slice av ns cs, .slice av' ns cs'] V fun en w' => en = .returned (.bool true) ∧ Below V.heap.size V w') :
    Calls Try.prog 8 #[ndV nm e (.slice aa na ca) (.slice av ns cs) rd hb, ndV nm e (.slice aa' na ca') (.slice av' ns cs') rd hb] w fun en w' => en = .returned (.bool true) ∧ Below w.heap.size w w' := by
  obtain ⟨w1, hw1⟩ : ∃ x, w.alloc (.cells #[.string nm, .int .i64 e, .int .i64 e, .slice aa na ca, .slice av ns cs, .slice none 0 0, .int .i64 rd, .int .i64 0, .int .i64 0, .int .i64 hb, .slice none 0 0, .int .i64 0, .slice none 0 0, .slice none 0 0, .int .i64 0, .slice none 0 0, .slice none 0 0, .slice none 0 0, .slice none 0 0, .slice none 0 0] 42) = x := ⟨_, rfl⟩
  obtain ⟨w2, hw2⟩ : ∃ x, w1.alloc (.cells #[.string nm, .int .i64 e, .int .i64 e, .slice aa' na ca', .slice av' ns cs', .slice none 0 0, .int .i64 rd, .int .i64 0, .int .i64 0, .int .i64 hb, .slice none 0 0, .int .i64 0, .slice none 0 0, .slice none 0 0, .int .i64 0, .slice none 0 0, .slice none 0 0, .slice none 0 0, .slice none 0 0, .slice none 0 0] 42) = x := ⟨_, rfl⟩
  have b1 : Below w.heap.size w w1 := by rw [← hw1]; exact (Below.refl _ w).alloc (Nat.le_refl _) _
  have b2 : Below w1.heap.size w1 w2 := by rw [← hw2]; exact (Below.refl _ w1).alloc (Nat.le_refl _) _
  have k1 : Blk w1 w.heap.size 42 [.string nm, .int .i64 e, .int .i64 e, .slice aa na ca, .slice av ns cs, .slice none 0 0, .int .i64 rd, .int .i64 0, .int .i64 0, .int .i64 hb, .slice none 0 0, .int .i64 0, .slice none 0 0, .slice none 0 0, .int .i64 0, .slice none 0 0, .slice none 0 0, .slice none 0 0, .slice none 0 0, .slice none 0 0] := by rw [← hw1]; exact Blk.new w _ _
  have k2 : Blk w2 w1.heap.size 42 [.string nm, .int .i64 e, .int .i64 e, .slice aa' na ca', .slice av' ns cs', .slice none 0 0, .int .i64 rd, .int .i64 0, .int .i64 0, .int .i64 hb, .slice none 0 0, .int .i64 0, .slice none 0 0, .slice none 0 0, .int .i64 0, .slice none 0 0, .slice none 0 0, .slice none 0 0, .slice none 0 0, .slice none 0 0] := by rw [← hw2]; exact Blk.new w1 _ _
  have k1' := k1.below b2 k1.lt
  have b02 := b1.trans (b2.mono b1.size)
  have HK1 := hide (fun V (hV : Below w2.heap.size w2 V) => k1'.below hV k1'.lt)
  have HK2 := hide (fun V (hV : Below w2.heap.size w2 V) => k2.below hV k2.lt)
  have HB := hide b02
  have HLa := hide HL
  have HVa := hide HV
  have x0 := k1'.cell 0
  have x1 := k1'.cell 1
  have x2 := k1'.cell 2
  have x3 := k1'.cell 3
  simp only [List.getElem?_cons_zero, List.getElem?_cons_succ] at x0 x1 x2 x3
  have y0 := k2.cell 0
  have y1 := k2.cell 1
  have y2 := k2.cell 2
  have y3 := k2.cell 3
  simp only [List.getElem?_cons_zero, List.getElem?_cons_succ] at y0 y1 y2 y3
  clear b1 b2 k1 k2 k1' b02 HL HV
  simp only [ndV]
  go_enter Try.func8, Try.ntmps8
  go_wp2_with fail
  refine (HLa.out w2 HB.out).mono ?_
  rintro en w3 ⟨rfl, hb3⟩
  have B3 := hide hb3
  have p := HK1.out w3 hb3
  have q := HK2.out w3 hb3
  have x4 := p.cell 4
  simp only [List.getElem?_cons_zero, List.getElem?_cons_succ] at x4
  have y4 := q.cell 4
  simp only [List.getElem?_cons_zero, List.getElem?_cons_succ] at y4
  clear p q hb3 x0 x1 x2 x3 y0 y1 y2 y3
  go_wp2_with fail
  refine (HVa.out w3 (HB.out.trans (B3.out.mono HB.out.size))).mono ?_
  rintro en w4 ⟨rfl, hb4⟩
  have hb24 := B3.out.trans (hb4.mono B3.out.size)
  have B4 := hide hb24
  have p := HK1.out w4 hb24
  have q := HK2.out w4 hb24
  have x5 := p.cell 5
  have x6 := p.cell 6
  have x7 := p.cell 7
  have x8 := p.cell 8
  have x9 := p.cell 9
  have x10 := p.cell 10
  simp only [List.getElem?_cons_zero, List.getElem?_cons_succ] at x5 x6 x7 x8 x9 x10
  have y5 := q.cell 5
  have y6 := q.cell 6
  have y7 := q.cell 7
  have y8 := q.cell 8
  have y9 := q.cell 9
  have y10 := q.cell 10
  simp only [List.getElem?_cons_zero, List.getElem?_cons_succ] at y5 y6 y7 y8 y9 y10
  clear p q hb4 hb24 x4 y4 B3
  go_wp2_with fail
  refine (eqBlockS_nil w4).mono ?_
  rintro en w4 ⟨rfl, rfl⟩
  go_wp2_with fail
  refine (eqQc_nil 0 hb w4).mono ?_
  rintro en w5 ⟨rfl, hb5⟩
  have hb25 := B4.out.trans (hb5.mono B4.out.size)
  have B5 := hide hb25
  have p := HK1.out w5 hb25
  have q := HK2.out w5 hb25
  have x11 := p.cell 11
  have x12 := p.cell 12
  have x13 := p.cell 13
  simp only [List.getElem?_cons_zero, List.getElem?_cons_succ] at x11 x12 x13
  have y11 := q.cell 11
  have y12 := q.cell 12
  have y13 := q.cell 13
  simp only [List.getElem?_cons_zero, List.getElem?_cons_succ] at y11 y12 y13
  clear p q hb5 hb25 x5 x6 x7 x8 x9 x10 y5 y6 y7 y8 y9 y10 B4
  go_wp2_with fail
  refine (eqTc_nil 0 w5).mono ?_
  rintro en w6 ⟨rfl, hb6⟩
  have hb26 := B5.out.trans (hb6.mono B5.out.size)
  have B6 := hide hb26
  have p := HK1.out w6 hb26
  have q := HK2.out w6 hb26
  have x14 := p.cell 14
  have x15 := p.cell 15
  have x16 := p.cell 16
  have x17 := p.cell 17
  have x18 := p.cell 18
  have x19 := p.cell 19
  simp only [List.getElem?_cons_zero, List.getElem?_cons_succ] at x14 x15 x16 x17 x18 x19
  have y14 := q.cell 14
  have y15 := q.cell 15
  have y16 := q.cell 16
  have y17 := q.cell 17
  have y18 := q.cell 18
  have y19 := q.cell 19
  simp only [List.getElem?_cons_zero, List.getElem?_cons_succ] at y14 y15 y16 y17 y18 y19
  clear p q hb6 hb26 x11 x12 x13 y11 y12 y13 B5
  go_wp2_with fail
  refine (eqVoteS_nil w6).mono ?_
  rintro en w6 ⟨rfl, rfl⟩
  go_wp2_with fail
  refine (eqGoneS_nil w6).mono ?_
  rintro en w6 ⟨rfl, rfl⟩
  go_wp2_with fail
  refine (eqIntS_nil w6).mono ?_
  rintro en w6 ⟨rfl, rfl⟩
  go_wp2_with fail
  refine (eqTxS_nil w6).mono ?_
  rintro en w6 ⟨rfl, rfl⟩
  go_wp2_with fail
  refine (eqProofS_nil w6).mono ?_
  rintro en w6 ⟨rfl, rfl⟩
  have BZ := hide (HB.out.trans (B6.out.mono HB.out.size))
  go_wp2
  go_ret
  exact ⟨rfl, BZ.out⟩
set_option maxRecDepth 20000 in
set_option maxHeartbeats 4000000 in
theorem heldNode_any (nm : ByteArray) (e rd hb : Int) (aa av : Option Addr) (na ca ns cs : Nat) (k K1 K : Int) (hK1 : 0 ≤ K1) (hK : 0 ≤ K) (w : World)
    (HL : ∀ V, Below w.heap.size w V → Calls Try.prog 44 #[.agg #[.int .i64 e, .slice aa na ca], .int .i64 k] V fun en w' => en = .returned (.int .i64 K1) ∧ Below V.heap.size V w')
    (HV : ∀ V, Below w.heap.size w V → Calls Try.prog 45 #[.slice av ns cs, .int .i64 K1] V fun en w' => en = .returned (.int .i64 K) ∧ Below V.heap.size V w') :
    Calls Try.prog 12 #[ndV nm e (.slice aa na ca) (.slice av ns cs) rd hb, .int .i64 k] w fun en w' => en = .returned (.int .i64 K) ∧ Below w.heap.size w w' := by
  obtain ⟨w1, hw1⟩ : ∃ x, w.alloc (.cells #[.string nm, .int .i64 e, .int .i64 e, .slice aa na ca, .slice av ns cs, .slice none 0 0, .int .i64 rd, .int .i64 0, .int .i64 0, .int .i64 hb, .slice none 0 0, .int .i64 0, .slice none 0 0, .slice none 0 0, .int .i64 0, .slice none 0 0, .slice none 0 0, .slice none 0 0, .slice none 0 0, .slice none 0 0] 42) = x := ⟨_, rfl⟩
  have b1 : Below w.heap.size w w1 := by rw [← hw1]; exact (Below.refl _ w).alloc (Nat.le_refl _) _
  have k1 : Blk w1 w.heap.size 42 [.string nm, .int .i64 e, .int .i64 e, .slice aa na ca, .slice av ns cs, .slice none 0 0, .int .i64 rd, .int .i64 0, .int .i64 0, .int .i64 hb, .slice none 0 0, .int .i64 0, .slice none 0 0, .slice none 0 0, .int .i64 0, .slice none 0 0, .slice none 0 0, .slice none 0 0, .slice none 0 0, .slice none 0 0] := by rw [← hw1]; exact Blk.new w _ _
  have HK := hide (fun V (hV : Below w1.heap.size w1 V) => k1.below hV k1.lt)
  have HB := hide b1
  have HLa := hide HL
  have HVa := hide HV
  have hk1n : ¬ K1 < 0 := by omega
  have hkn : ¬ K < 0 := by omega
  have x2 := k1.cell 2
  have x3 := k1.cell 3
  simp only [List.getElem?_cons_zero, List.getElem?_cons_succ] at x2 x3
  clear b1 k1 HL HV
  simp only [ndV]
  go_enter Try.func12, Try.ntmps12
  go_wp2_with fail
  refine (HLa.out w1 HB.out).mono ?_
  rintro en w2 ⟨rfl, hb2⟩
  have B2 := hide hb2
  have p := HK.out w2 hb2
  have x4 := p.cell 4
  simp only [List.getElem?_cons_zero, List.getElem?_cons_succ] at x4
  clear p hb2 x2 x3
  go_wp2_with fail
  refine (HVa.out w2 (HB.out.trans (B2.out.mono HB.out.size))).mono ?_
  rintro en w3 ⟨rfl, hb3⟩
  have B3 := hide (B2.out.trans (hb3.mono B2.out.size))
  clear hb3 x4
  have p := HK.out w3 B3.out
  have x5 := p.cell 5
  have x8 := p.cell 8
  have x9 := p.cell 9
  have x10 := p.cell 10
  simp only [List.getElem?_cons_zero, List.getElem?_cons_succ] at x5 x8 x9 x10
  clear p
  go_wp2_with fail
  refine (heldBlockS_nil K w3).mono ?_
  rintro en w3 ⟨rfl, rfl⟩
  go_wp2_with fail
  refine (heldQc_nil 0 hb K hK w3).mono ?_
  rintro en w4 ⟨rfl, hb4⟩
  have B4 := hide (B3.out.trans (hb4.mono B3.out.size))
  have p := HK.out w4 B4.out
  have x11 := p.cell 11
  have x12 := p.cell 12
  have x13 := p.cell 13
  simp only [List.getElem?_cons_zero, List.getElem?_cons_succ] at x11 x12 x13
  clear p hb4
  go_wp2_with fail
  refine (heldTc_nil 0 K hK w4).mono ?_
  rintro en w5 ⟨rfl, hb5⟩
  have B5 := hide (B4.out.trans (hb5.mono B4.out.size))
  have p := HK.out w5 B5.out
  have x15 := p.cell 15
  have x16 := p.cell 16
  have x17 := p.cell 17
  have x18 := p.cell 18
  have x19 := p.cell 19
  simp only [List.getElem?_cons_zero, List.getElem?_cons_succ] at x15 x16 x17 x18 x19
  clear p
  go_wp2_with fail
  refine (heldVoteS_nil K w5).mono ?_
  rintro en w5 ⟨rfl, rfl⟩
  go_wp2_with fail
  refine (heldGoneS_nil K w5).mono ?_
  rintro en w5 ⟨rfl, rfl⟩
  go_wp2_with fail
  refine (heldIntS_nil K w5).mono ?_
  rintro en w5 ⟨rfl, rfl⟩
  go_wp2_with fail
  refine (heldTxS_nil K w5).mono ?_
  rintro en w5 ⟨rfl, rfl⟩
  go_wp2_with fail
  refine (heldProofS_nil K w5).mono ?_
  rintro en w5 ⟨rfl, rfl⟩
  have BZ := hide (HB.out.trans (B5.out.mono HB.out.size))
  go_wp2
  go_ret
  exact ⟨rfl, BZ.out⟩
set_option maxRecDepth 20000 in
set_option maxHeartbeats 4000000 in
theorem markNode_nil (nm : ByteArray) (e rd hb k : Int) (w : World) : Calls Try.prog 11 #[ndV nm e (.slice none 0 0) (.slice none 0 0) rd hb, .int .i64 k] w fun en w' => en = .returned (.int .i64 k) ∧ Below w.heap.size w w' := by
  obtain ⟨w1, hw1⟩ : ∃ x, w.alloc (.cells #[.string nm, .int .i64 e, .int .i64 e, .slice none 0 0, .slice none 0 0, .slice none 0 0, .int .i64 rd, .int .i64 0, .int .i64 0, .int .i64 hb, .slice none 0 0, .int .i64 0, .slice none 0 0, .slice none 0 0, .int .i64 0, .slice none 0 0, .slice none 0 0, .slice none 0 0, .slice none 0 0, .slice none 0 0] 42) = x := ⟨_, rfl⟩
  have b1 : Below w.heap.size w w1 := by rw [← hw1]; exact (Below.refl _ w).alloc (Nat.le_refl _) _
  have k1 : Blk w1 w.heap.size 42 [.string nm, .int .i64 e, .int .i64 e, .slice none 0 0, .slice none 0 0, .slice none 0 0, .int .i64 rd, .int .i64 0, .int .i64 0, .int .i64 hb, .slice none 0 0, .int .i64 0, .slice none 0 0, .slice none 0 0, .int .i64 0, .slice none 0 0, .slice none 0 0, .slice none 0 0, .slice none 0 0, .slice none 0 0] := by rw [← hw1]; exact Blk.new w _ _
  have HK := hide (fun V (hV : Below w1.heap.size w1 V) => k1.below hV k1.lt)
  have HB := hide b1
  have x2 := k1.cell 2
  have x3 := k1.cell 3
  simp only [List.getElem?_cons_zero, List.getElem?_cons_succ] at x2 x3
  clear b1 k1
  simp only [ndV]
  go_enter Try.func11, Try.ntmps11
  go_wp2_with fail
  refine (markLedger_nil e k w1).mono ?_
  rintro en w2 ⟨rfl, hb2⟩
  have B2 := hide hb2
  have p := HK.out w2 hb2
  have x4 := p.cell 4
  simp only [List.getElem?_cons_zero, List.getElem?_cons_succ] at x4
  clear p hb2 x2 x3
  go_wp2_with fail
  refine (markValS_nil k w2).mono ?_
  rintro en w2 ⟨rfl, rfl⟩
  clear x4
  have p := HK.out w2 B2.out
  have x5 := p.cell 5
  have x8 := p.cell 8
  have x9 := p.cell 9
  have x10 := p.cell 10
  simp only [List.getElem?_cons_zero, List.getElem?_cons_succ] at x5 x8 x9 x10
  clear p
  go_wp2_with fail
  refine (markBlockS_nil k w2).mono ?_
  rintro en w2 ⟨rfl, rfl⟩
  go_wp2_with fail
  refine (markQc_nil 0 hb k w2).mono ?_
  rintro en w3 ⟨rfl, hb3⟩
  have B3 := hide (B2.out.trans (hb3.mono B2.out.size))
  have p := HK.out w3 B3.out
  have x11 := p.cell 11
  have x12 := p.cell 12
  have x13 := p.cell 13
  simp only [List.getElem?_cons_zero, List.getElem?_cons_succ] at x11 x12 x13
  clear p hb3
  go_wp2_with fail
  refine (markTc_nil 0 k w3).mono ?_
  rintro en w4 ⟨rfl, hb4⟩
  have B4 := hide (B3.out.trans (hb4.mono B3.out.size))
  have p := HK.out w4 B4.out
  have x15 := p.cell 15
  have x16 := p.cell 16
  have x17 := p.cell 17
  have x18 := p.cell 18
  have x19 := p.cell 19
  simp only [List.getElem?_cons_zero, List.getElem?_cons_succ] at x15 x16 x17 x18 x19
  clear p
  go_wp2_with fail
  refine (markVoteS_nil k w4).mono ?_
  rintro en w4 ⟨rfl, rfl⟩
  go_wp2_with fail
  refine (markGoneS_nil k w4).mono ?_
  rintro en w4 ⟨rfl, rfl⟩
  go_wp2_with fail
  refine (markIntS_nil k w4).mono ?_
  rintro en w4 ⟨rfl, rfl⟩
  go_wp2_with fail
  refine (markTxS_nil k w4).mono ?_
  rintro en w4 ⟨rfl, rfl⟩
  go_wp2_with fail
  refine (markProofS_nil k w4).mono ?_
  rintro en w4 ⟨rfl, rfl⟩
  have BZ := hide (HB.out.trans (B4.out.mono HB.out.size))
  go_wp2
  go_ret
  exact ⟨rfl, BZ.out⟩
set_option maxRecDepth 20000 in
set_option maxHeartbeats 4000000 in
theorem markNode_any (nm : ByteArray) (e rd hb : Int) (aa av : Option Addr) (ca cs base hi top : Nat) (P : List Ac) (S : List Vl) (w : World)
    (hx : OwnX base hi w (.slice aa P.length ca) P) (hv : OwnV hi w (.slice av S.length cs) S) (hbh : base ≤ hi) (hhi : hi ≤ w.heap.size) (htop : ∀ k, (Value.slice av S.length cs).ownBlock = some k → k < top) (hht : hi ≤ top) (htw : top ≤ w.heap.size)
    (HM : ∀ V, OwnX base hi V (.slice aa P.length ca) P → Calls Try.prog 10 #[.agg #[.int .i64 e, .slice aa P.length ca], .int .i64 1] V fun en w' => en = .returned (.int .i64 ((nxs 1 P : Nat) : Int)) ∧ OwnX base hi w' (.slice aa P.length ca) (mkAs 1 P) ∧ Btw base hi V w')
    (HV : ∀ V, OwnV hi V (.slice av S.length cs) S → Calls Try.prog 35 #[.slice av S.length cs, .int .i64 ((nxs 1 P : Nat) : Int)] V fun en w' => en = .returned (.int .i64 ((nxs 1 P + 2 * S.length : Nat) : Int)) ∧ OwnV hi w' (.slice av S.length cs) (mkV (nxs 1 P) S.length) ∧ V.grownBy w' (Value.slice av S.length cs).ownBlock) :
    Calls Try.prog 11 #[ndV nm e (.slice aa P.length ca) (.slice av S.length cs) rd hb, .int .i64 1] w fun en w' => en = .returned (.int .i64 ((nxs 1 P + 2 * S.length : Nat) : Int)) ∧ OwnX base hi w' (.slice aa P.length ca) (mkAs 1 P) ∧ OwnV hi w' (.slice av S.length cs) (mkV (nxs 1 P) S.length) ∧ Btw base top w w' := by
  obtain ⟨w1, hw1⟩ : ∃ x, w.alloc (.cells #[.string nm, .int .i64 e, .int .i64 e, .slice aa P.length ca, .slice av S.length cs, .slice none 0 0, .int .i64 rd, .int .i64 0, .int .i64 0, .int .i64 hb, .slice none 0 0, .int .i64 0, .slice none 0 0, .slice none 0 0, .int .i64 0, .slice none 0 0, .slice none 0 0, .slice none 0 0, .slice none 0 0, .slice none 0 0] 42) = x := ⟨_, rfl⟩
  have b1 : Below w.heap.size w w1 := by rw [← hw1]; exact (Below.refl _ w).alloc (Nat.le_refl _) _
  have k1 : Blk w1 w.heap.size 42 [.string nm, .int .i64 e, .int .i64 e, .slice aa P.length ca, .slice av S.length cs, .slice none 0 0, .int .i64 rd, .int .i64 0, .int .i64 0, .int .i64 hb, .slice none 0 0, .int .i64 0, .slice none 0 0, .slice none 0 0, .int .i64 0, .slice none 0 0, .slice none 0 0, .slice none 0 0, .slice none 0 0, .slice none 0 0] := by rw [← hw1]; exact Blk.new w _ _
  have HX1 := hide (hx.below b1 (Nat.le_refl _))
  have HV1 := hide (hv.below b1 (Nat.le_refl _))
  have HK1 := hide k1
  have HB := hide b1
  have HMa := hide HM
  have HVa := hide HV
  have Htop := hide htop
  have s1 : w1.heap.size = w.heap.size + 1 := by rw [← hw1]; simp
  have x2 := k1.cell 2
  have x3 := k1.cell 3
  simp only [List.getElem?_cons_zero, List.getElem?_cons_succ] at x2 x3
  clear b1 k1 HM HV hx hv htop
  simp only [ndV]
  generalize hKK : ((nxs 1 P + 2 * S.length : Nat) : Int) = KK at HVa ⊢
  clear hKK
  go_enter Try.func11, Try.ntmps11
  go_wp2_with fail
  refine (HMa.out w1 HX1.out).mono ?_
  rintro en w2 ⟨rfl, ox2, bt2⟩
  have k2 := HK1.out.btw bt2 (.inr (by omega))
  have x4 := k2.cell 4
  simp only [List.getElem?_cons_zero, List.getElem?_cons_succ] at x4
  have K2 := hide k2
  have OX2 := hide ox2
  have OV2 := hide (HV1.out.btw bt2 (.inl (Nat.le_refl _)))
  have BT2 := hide bt2
  clear k2 ox2 bt2 x2 x3 HX1 HV1 HK1
  go_wp2_with fail
  refine (HVa.out w2 OV2.out).mono ?_
  rintro en w3 ⟨rfl, ov3, g3⟩
  have bt3 : Btw hi top w2 w3 := Btw.of_grown g3 (fun k hk => ⟨OV2.out.ge k hk, Htop.out k hk⟩)
  have k3 := K2.out.btw bt3 (.inr (by omega))
  have OX3 := hide (OX2.out.btw bt3 (.inl (Nat.le_refl _)))
  have OV3 := hide ov3
  have BT3 := hide bt3
  have HK := hide (fun V (hV : Below w3.heap.size w3 V) => k3.below hV k3.lt)
  have B3 := hide (Below.refl w3.heap.size w3)
  clear k3 ov3 g3 bt3 x4 K2 OX2 OV2
  have p := HK.out w3 B3.out
  have x5 := p.cell 5
  have x8 := p.cell 8
  have x9 := p.cell 9
  have x10 := p.cell 10
  simp only [List.getElem?_cons_zero, List.getElem?_cons_succ] at x5 x8 x9 x10
  clear p
  go_wp2_with fail
  refine (markBlockS_nil KK w3).mono ?_
  rintro en w3 ⟨rfl, rfl⟩
  go_wp2_with fail
  refine (markQc_nil 0 hb KK w3).mono ?_
  rintro en w4 ⟨rfl, hb4⟩
  have B4 := hide (B3.out.trans (hb4.mono B3.out.size))
  have p := HK.out w4 B4.out
  have x11 := p.cell 11
  have x12 := p.cell 12
  have x13 := p.cell 13
  simp only [List.getElem?_cons_zero, List.getElem?_cons_succ] at x11 x12 x13
  clear p hb4
  go_wp2_with fail
  refine (markTc_nil 0 KK w4).mono ?_
  rintro en w5 ⟨rfl, hb5⟩
  have B5 := hide (B4.out.trans (hb5.mono B4.out.size))
  have p := HK.out w5 B5.out
  have x15 := p.cell 15
  have x16 := p.cell 16
  have x17 := p.cell 17
  have x18 := p.cell 18
  have x19 := p.cell 19
  simp only [List.getElem?_cons_zero, List.getElem?_cons_succ] at x15 x16 x17 x18 x19
  clear p
  go_wp2_with fail
  refine (markVoteS_nil KK w5).mono ?_
  rintro en w5 ⟨rfl, rfl⟩
  go_wp2_with fail
  refine (markGoneS_nil KK w5).mono ?_
  rintro en w5 ⟨rfl, rfl⟩
  go_wp2_with fail
  refine (markIntS_nil KK w5).mono ?_
  rintro en w5 ⟨rfl, rfl⟩
  go_wp2_with fail
  refine (markTxS_nil KK w5).mono ?_
  rintro en w5 ⟨rfl, rfl⟩
  go_wp2_with fail
  refine (markProofS_nil KK w5).mono ?_
  rintro en w5 ⟨rfl, rfl⟩
  have OXZ := hide (OX3.out.below B5.out (Nat.le_refl _))
  have OVZ := hide (OV3.out.below B5.out (Nat.le_refl _))
  have BTZ : Hid (Btw base top w w5) := hide (btw_four HB.out BT2.out BT3.out B5.out hbh hht htw)
  go_wp2
  go_ret
  exact ⟨rfl, OXZ.out, OVZ.out, BTZ.out⟩
end Go.Proofs.Ytljkmoffpgpeoaa
