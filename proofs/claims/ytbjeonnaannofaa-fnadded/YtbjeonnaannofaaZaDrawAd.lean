/- A drawn tree, and a block that may be put into it. -/
import Derived.Test.YtbjeonnaannofaaZaDrawLs
import Derived.Test.YtbjeonnaannofaaZaStrs
import Derived.Test.YtbjeonnaannofaaZaDrawSz
import Derived.Test.YtbjeonnaannofaaZaKsApp
namespace Go.Proofs.Ytbjeonnaannofaa
open Go.RowKit
set_option linter.unusedVariables false

theorem oth_newD {S : Nat → Prop} {w W : World} (h : Oth S w W) {g : Nat} (hg : w.heap.size ≤ g) (j : Nat) (u : Value) : Oth S w (W.setCell ⟨g, j, none⟩ u) := by
  have k := grown_set W g j u
  exact ⟨k.os.trans h.os, k.tape.trans h.tape, k.output.trans h.output, Nat.le_trans h.size k.size, fun i hi hn => (k.block i (Nat.lt_of_lt_of_le hi h.size) (fun e => by simp only [Option.some.injEq] at e; omega)).trans (h.block i hi hn)⟩
theorem few_new (i e r qr qb : Int) : FewK ⟨i, e, r, { data := #[97] }, qr, qb, [{ data := #[97] }], 0, [], [], [], false, [], { data := #[] }⟩ := by
  have m : 1000 ≤ maxLen := by unfold maxLen; omega
  refine ⟨by simp, by simp, by simp, by simp, by simp, fun s hs => ?_, by simp, by simp, by simp, ?_, ?_⟩
  · rw [List.mem_singleton.1 hs]; show (1 : Nat) ≤ maxLen; omega
  · show (1 : Nat) ≤ maxLen; omega
  · show (0 : Nat) ≤ maxLen; omega
set_option maxRecDepth 20000 in
set_option maxHeartbeats 16000000 in
theorem drawAddTo_any (w : World) (cv : Value) (code : List UInt8) (hr : RdB w cv code) (hl : code.length ≤ 1048576) :
    Calls Try.prog 14 #[cv] w fun e w' => ∃ (v : Value) (l : List Bk) (b : Bk) (bv : Bv), e = .returned (.tuple #[v, bkV b bv]) ∧ RdKs w' v l ∧ l.length ≤ 1001 ∧ (∀ x ∈ l, Lk x) ∧ RdK w' b bv ∧ (FewK b ∧ 0 ≤ b.tr ∧ b.tr ≤ 5) ∧ Below w.heap.size w w' := by
  obtain ⟨a, c, rfl⟩ : ∃ a c, cv = .slice a code.length c := by
    rcases hr with ⟨a, c, h1, h2, -⟩ | ⟨b, off, c, h0, h1, _⟩
    · subst h2; exact ⟨a, c, h1⟩
    · exact ⟨_, c, h1⟩
  obtain ⟨w1, hw1⟩ : ∃ x, w.alloc (.cells #[.int .i64 0, .int .i64 0, .int .i64 0, .string { data := #[] }, .int .i64 0, .int .i64 0, .slice none 0 0, .int .i64 0, .slice none 0 0, .slice none 0 0, .slice none 0 0, .bool false, .slice none 0 0, .string { data := #[] }] 37) = x := ⟨_, rfl⟩
  have b1 : Below w.heap.size w w1 := by rw [← hw1]; exact (Below.refl _ w).alloc (Nat.le_refl _) _
  have z1 : w1.heap.size = w.heap.size + 1 := by rw [← hw1]; simp
  have K1 : Hid (Blk w1 w.heap.size 37 [.int .i64 0, .int .i64 0, .int .i64 0, .string { data := #[] }, .int .i64 0, .int .i64 0, .slice none 0 0, .int .i64 0, .slice none 0 0, .slice none 0 0, .slice none 0 0, .bool false, .slice none 0 0, .string { data := #[] }]) := hide (by rw [← hw1]; exact Blk.new w _ _)
  have HN := hide (l1New_any w1 (.slice a code.length c) code (hr.below b1 (Nat.le_refl _)) hl)
  have Hr := hide (hr.below b1 (Nat.le_refl _))
  have HB1 := hide b1
  have Hz1 := hide z1
  clear hr b1 z1
  go_enter Try.func14, Try.ntmps14
  go_wp2_with fail
  refine HN.out.mono ?_
  rintro e w2 ⟨rfl, hc2, hb2⟩
  have HC2 := hide hc2
  have Hr2 := hide (Hr.out.below hb2 (Nat.le_refl _))
  have z2 := hc2.lt
  have K2 := hide (K1.out.below hb2 K1.out.lt)
  clear hc2 hb2 HN Hr K1 hw1
  go_wp2_with fail
  refine (l1Size_any (.slice a code.length c) code 10 w2 Hr2.out hl (by omega)).mono ?_
  rintro e w3 ⟨⟨n, rfl, hn⟩, rfl⟩
  clear Hr2
  go_wp2_with fail
  refine (l10Any_any w1 w3 w1.heap.size _ code n HC2.out hl (by omega)).mono ?_
  rintro e w4 ⟨v, l, rfl, hst, hlen, hlk, hc4, hg4⟩
  obtain ⟨va, vc, rfl⟩ := hst.rd.shape
  have Hst := hide hst
  have Hlk := hide hlk
  have z4 := hg4.size
  have zz := Hz1.out
  have K4 := hide (blk_notg5 K2.out hg4 (by omega))
  have HC4 := hide hc4
  clear hst hlk hc4 hg4 K2 HC2 zz
  have HST4 := hide Hst.out
  go_wp2_with fail
  refine (l9Any_any w1 _ w1.heap.size _ code HC4.out hl).mono ?_
  rintro e w5 ⟨b, v5, rfl, o5, hS5, hc5, hg5⟩
  have z5 := hg5.size
  have zz := Hz1.out
  have k5 := blk_notg5 K4.out hg5 (by omega)
  have HO5 := hide (Oth.of_grown (S := fun k => k < w3.heap.size) hg5 (fun k e => by cases e; exact z2))
  have Hs5 := hide (Hst.out.call hg5 z2)
  have HFew : Hid (FewK b ∧ 0 ≤ b.tr ∧ b.tr ≤ 5) := hide ⟨hS5.few, hS5.tr⟩
  obtain ⟨vq5, vw5, vh5, vt5, vn5⟩ := v5
  obtain ⟨aq5, cq5, hvq5⟩ := o5.q.rd.shape
  obtain ⟨aw5, cw5, hvw5⟩ := o5.p.rd.shape
  obtain ⟨ah5, ch5, hvh5⟩ := o5.h.rd.shape
  obtain ⟨at5, ct5, hvt5⟩ := o5.t.rd.shape
  obtain ⟨an5, cn5, hvn5⟩ := o5.n.rd.shape
  simp only at hvq5 hvw5 hvh5 hvt5 hvn5
  subst hvq5 hvw5 hvh5 hvt5 hvn5
  simp only [bkV]
  obtain ⟨w6, hw6⟩ : ∃ x, w5.alloc (.cells #[.int .i64 b.id, .int .i64 b.ep, .int .i64 b.rd, .string b.md, .int .i64 b.qr, .int .i64 b.qb, .slice aq5 b.qw.length cq5, .int .i64 b.tr, .slice aw5 b.tw.length cw5, .slice ah5 b.th.length ch5, .slice at5 b.ts.length ct5, .bool b.en, .slice an5 b.nx.length cn5, .string b.rt] 37) = x := ⟨_, rfl⟩
  have b6 : Below w5.heap.size w5 w6 := by rw [← hw6]; exact (Below.refl _ w5).alloc (Nat.le_refl _) _
  have T6 : Hid (Blk w6 w5.heap.size 37 [.int .i64 b.id, .int .i64 b.ep, .int .i64 b.rd, .string b.md, .int .i64 b.qr, .int .i64 b.qb, .slice aq5 b.qw.length cq5, .int .i64 b.tr, .slice aw5 b.tw.length cw5, .slice ah5 b.th.length ch5, .slice at5 b.ts.length ct5, .bool b.en, .slice an5 b.nx.length cn5, .string b.rt]) := hide (by rw [← hw6]; exact Blk.new w5 _ _)
  have K6 := hide (k5.below b6 k5.lt)
  have O6 := hide (o5.below9 b6 (Nat.le_refl _))
  have Hs6 := hide (Hs5.out.bel b6)
  have HO6 := hide (HO5.out.trans (Oth.of_below b6))
  have HC6 := hide (hc5.below b6 hc5.lt)
  have z6 := T6.out.lt
  have Hw6 := hide hw6
  clear o5 hS5 hc5 hg5 k5 b6 hw6 K4 HC4 Hst Hs5 zz
  by_cases hl0 : 0 < l.length
  · have hli : (0 : Int) < (l.length : Int) := by omega
    have hlb : decide ((0 : Int) < (l.length : Int)) = true := by simpa using hli
    go_wp2_with fail
    rw [Hw6.out]
    clear Hw6
    refine (l1Once_any w1 _ w1.heap.size _ code 3 HC6.out hl (by omega) (by omega)).mono ?_
    rintro e w7 ⟨o1, rfl, hc7, hg7⟩
    have z7 := hg7.size
    have zz := Hz1.out
    have K7 := hide (blk_notg5 K6.out hg7 (by omega))
    have T7 := hide (blk_notg5 T6.out hg7 (by omega))
    have O7 := hide (O6.out.grown9 hg7 (fun e => by have := (O6.out.in9 _ e).1; omega))
    have Hs7 := hide (Hs6.out.call hg7 z2)
    have HO7 := hide (HO6.out.trans (Oth.of_grown (S := fun k => k < w3.heap.size) hg7 (fun k e => by cases e; exact z2)))
    have HC7 := hide hc7
    clear hc7 hg7 K6 T6 O6 Hs6 HC6 zz
    cases o1
    · clear O7
      go_wp2_with fail
      refine (l1Below_any w1 _ w1.heap.size _ code (l.length : Int) HC7.out hl (by omega) (by omega)).mono ?_
      rintro e w8 ⟨y, rfl, hy, -, hc8, hg8⟩
      have hyl : y < l.length := by have := hy hli; omega
      have z8 := hg8.size
      have zz := Hz1.out
      have K8 := hide (blk_notg5 K7.out hg8 (by omega))
      have T8 := hide (blk_notg5 T7.out hg8 (by omega))
      have Hs8 := hide (Hs7.out.call hg8 z2)
      have HO8 := hide (HO7.out.trans (Oth.of_grown (S := fun k => k < w3.heap.size) hg8 (fun k e => by cases e; exact z2)))
      have HC8 := hide hc8
      clear hc8 hg8 K7 T7 HC7 Hs7 hy zz
      obtain ⟨g, off, hag, hgl, hcell⟩ := Hs8.out.rd.parts9 (by omega)
      obtain ⟨lv, hat, hrl⟩ := hcell y hyl
      have hlast : w8.cell? ⟨g, off + (l.length - 1) * 14, none⟩ = some (.int .i64 (l[l.length - 1]'(by omega)).id) := by
        obtain ⟨lv2, hat2, _⟩ := hcell (l.length - 1) (by omega)
        exact hat2.cells.1
      subst hag
      obtain ⟨c0, c1, c2, c3, c4, c5, c6, c7, c8, c9, c10, c11, c12, c13⟩ := hat.cells
      have hbl := (Hlk.out _ (List.getElem_mem (show l.length - 1 < l.length by omega))).ie
      have hbd := (Hlk.out _ (List.getElem_mem hyl)).rd
      have Hsh := hide hrl.shapes9
      have hyi : (y : Int) < (l.length : Int) := by omega
      have Hgl := hide hgl
      clear hat hrl hcell hgl
      generalize (l[l.length - 1]'(by omega)).id = idL at hlast hbl
      generalize l[y] = ak at c0 c1 c2 c3 c4 c5 c6 c7 c8 c9 c10 c11 c12 c13 Hsh hbd
      obtain ⟨aq2, cq2, aw2, cw2, ah2, ch2, at2, ct2, an2, cn2, rfl⟩ := Hsh.out
      clear Hsh
      obtain ⟨id2, ep2, rd2, md2, qr2, qb2, qw2, tr2, tw2, th2, ts2, en2, nx2, rt2⟩ := ak
      simp only at c0 c1 c2 c3 c4 c5 c6 c7 c8 c9 c10 c11 c12 c13 hbd
      obtain ⟨w9, hw9⟩ : ∃ x, w8.alloc (.cells #[.int .i64 id2, .int .i64 ep2, .int .i64 rd2, .string md2, .int .i64 qr2, .int .i64 qb2, .slice aq2 qw2.length cq2, .int .i64 tr2, .slice aw2 tw2.length cw2, .slice ah2 th2.length ch2, .slice at2 ts2.length ct2, .bool en2, .slice an2 nx2.length cn2, .string rt2] 37) = x := ⟨_, rfl⟩
      have b9 : Below w8.heap.size w8 w9 := by rw [← hw9]; exact (Below.refl _ w8).alloc (Nat.le_refl _) _
      have p9 : Blk w9 w8.heap.size 37 [.int .i64 id2, .int .i64 ep2, .int .i64 rd2, .string md2, .int .i64 qr2, .int .i64 qb2, .slice aq2 qw2.length cq2, .int .i64 tr2, .slice aw2 tw2.length cw2, .slice ah2 th2.length ch2, .slice at2 ts2.length ct2, .bool en2, .slice an2 nx2.length cn2, .string rt2] := by rw [← hw9]; exact Blk.new w8 _ _
      have K9 := hide (K8.out.below b9 K8.out.lt)
      have T9 := hide (T8.out.below b9 T8.out.lt)
      have HO9 := hide (HO8.out.trans (Oth.of_below b9))
      have HC9 := hide (HC8.out.below b9 HC8.out.lt)
      have l9 := (b9.cell (p := ⟨g, off + (l.length - 1) * 14, none⟩) Hgl.out).trans hlast
      have y0 := p9.cell 0
      have y1 := p9.cell 1
      have y2 := p9.cell 2
      simp only [List.getElem?_cons_zero, List.getElem?_cons_succ] at y0 y1 y2
      have z9 := p9.lt
      have Hw9 := hide hw9
      clear hw9 b9 p9 K8 T8 Hs8 HC8 hlast
      go_upto_region 6 with fail
      rw [Hw9.out]
      clear Hw9 c0 c1 c2 c3 c4 c5 c6 c7 c8 c9 c10 c11 c12 c13
      have b10 : Below w9.heap.size w9 (w9.alloc (.cells #[.string { data := #[97] }] 9)) := (Below.refl _ w9).alloc (Nat.le_refl _) _
      have t10 := T9.out.below b10 T9.out.lt
      have k10 := K9.out.below b10 K9.out.lt
      have y0' := (b10.cell (p := ⟨w8.heap.size, 0, none⟩) z9).trans y0
      have y1' := (b10.cell (p := ⟨w8.heap.size, 1, none⟩) z9).trans y1
      have y2' := (b10.cell (p := ⟨w8.heap.size, 2, none⟩) z9).trans y2
      have hg9 := Hgl.out
      have l9' := (b10.cell (p := ⟨g, off + (l.length - 1) * 14, none⟩) (show g < w9.heap.size by omega)).trans l9
      have ew1 : IntKind.i64.wrap (idL + 1) = idL + 1 := by rw [IntKind.wrap_i64]; omega
      have ew2 : IntKind.i64.wrap (rd2 + 1) = rd2 + 1 := by rw [IntKind.wrap_i64]; omega
      have ew3 : IntKind.i64.wrap ((l.length : Int) - 1) = ((l.length - 1 : Nat) : Int) := by rw [IntKind.wrap_i64]; omega
      have hl3 : ((l.length - 1 : Nat) : Int) < (l.length : Int) := by omega
      have m0 := t10.cell 0
      have n0 := t10.frozen 0
      have m1 := t10.cell 1
      have n1 := t10.frozen 1
      have m2 := t10.cell 2
      have n2 := t10.frozen 2
      have m3 := t10.cell 3
      have n3 := t10.frozen 3
      have m4 := t10.cell 4
      have n4 := t10.frozen 4
      have m5 := t10.cell 5
      have n5 := t10.frozen 5
      have m6 := t10.cell 6
      have n6 := t10.frozen 6
      have m7 := t10.cell 7
      have n7 := t10.frozen 7
      have m8 := t10.cell 8
      have n8 := t10.frozen 8
      have m9 := t10.cell 9
      have n9 := t10.frozen 9
      have m10 := t10.cell 10
      have n10 := t10.frozen 10
      have m11 := t10.cell 11
      have n11 := t10.frozen 11
      have m12 := t10.cell 12
      have n12 := t10.frozen 12
      have m13 := t10.cell 13
      have n13 := t10.frozen 13
      simp only [List.getElem?_cons_zero, List.getElem?_cons_succ] at m0 m1 m2 m3 m4 m5 m6 m7 m8 m9 m10 m11 m12 m13
      have zz := Hz1.out
      obtain ⟨S1, hS1⟩ : ∃ x, (((((((((((((((w9.alloc (.cells #[.string { data := #[97] }] 9))).setCell ⟨w5.heap.size, 0, none⟩ (.int .i64 (idL + 1))).setCell ⟨w5.heap.size, 1, none⟩ (.int .i64 ep2)).setCell ⟨w5.heap.size, 2, none⟩ (.int .i64 (rd2 + 1))).setCell ⟨w5.heap.size, 3, none⟩ (.string { data := #[97] })).setCell ⟨w5.heap.size, 4, none⟩ (.int .i64 rd2)).setCell ⟨w5.heap.size, 5, none⟩ (.int .i64 id2)).setCell ⟨w5.heap.size, 6, none⟩ (.slice (some ⟨w9.heap.size, 0, none⟩) 1 1)).setCell ⟨w5.heap.size, 7, none⟩ (.int .i64 0)).setCell ⟨w5.heap.size, 8, none⟩ (.slice none 0 0)).setCell ⟨w5.heap.size, 9, none⟩ (.slice none 0 0)).setCell ⟨w5.heap.size, 10, none⟩ (.slice none 0 0)).setCell ⟨w5.heap.size, 11, none⟩ (.bool false)).setCell ⟨w5.heap.size, 12, none⟩ (.slice none 0 0)).setCell ⟨w5.heap.size, 13, none⟩ (.string { data := #[] }) = x := ⟨_, rfl⟩
      have TE := hide (show Blk S1 w5.heap.size 37 [.int .i64 (idL + 1), .int .i64 ep2, .int .i64 (rd2 + 1), .string { data := #[97] }, .int .i64 rd2, .int .i64 id2, .slice (some ⟨w9.heap.size, 0, none⟩) 1 1, .int .i64 0, .slice none 0 0, .slice none 0 0, .slice none 0 0, .bool false, .slice none 0 0, .string { data := #[] }] from by rw [← hS1]; exact ((((((((((((((t10.setC 0 _).setC 1 _).setC 2 _).setC 3 _).setC 4 _).setC 5 _).setC 6 _).setC 7 _).setC 8 _).setC 9 _).setC 10 _).setC 11 _).setC 12 _).setC 13 _))
      have KE := hide (show Blk S1 w.heap.size 37 [.int .i64 0, .int .i64 0, .int .i64 0, .string { data := #[] }, .int .i64 0, .int .i64 0, .slice none 0 0, .int .i64 0, .slice none 0 0, .slice none 0 0, .slice none 0 0, .bool false, .slice none 0 0, .string { data := #[] }] from by rw [← hS1]; exact ((((((((((((((k10.otherC w5.heap.size 0 _ (by omega)).otherC w5.heap.size 1 _ (by omega)).otherC w5.heap.size 2 _ (by omega)).otherC w5.heap.size 3 _ (by omega)).otherC w5.heap.size 4 _ (by omega)).otherC w5.heap.size 5 _ (by omega)).otherC w5.heap.size 6 _ (by omega)).otherC w5.heap.size 7 _ (by omega)).otherC w5.heap.size 8 _ (by omega)).otherC w5.heap.size 9 _ (by omega)).otherC w5.heap.size 10 _ (by omega)).otherC w5.heap.size 11 _ (by omega)).otherC w5.heap.size 12 _ (by omega)).otherC w5.heap.size 13 _ (by omega)))
      have OE : Hid (OwnK w9.heap.size S1 ⟨idL + 1, ep2, rd2 + 1, { data := #[97] }, rd2, id2, [{ data := #[97] }], 0, [], [], [], false, [], { data := #[] }⟩ ⟨.slice (some ⟨w9.heap.size, 0, none⟩) 1 1, .slice none 0 0, .slice none 0 0, .slice none 0 0, .slice none 0 0⟩) := hide (by
        have r0 : OwnS w9.heap.size (w9.alloc (.cells #[.string { data := #[97] }] 9)) (.slice (some ⟨w9.heap.size, 0, none⟩) 1 1) [{ data := #[97] }] := World.ownsRow_lit w9 #[.string { data := #[97] }] 1 (Nat.le_refl _) (by unfold maxLen; omega) (by simp)
        have r1 := r0.put14 (g := w5.heap.size) (by omega) (.int .i64 (idL + 1)) (.int .i64 ep2) (.int .i64 (rd2 + 1)) (.string { data := #[97] }) (.int .i64 rd2) (.int .i64 id2) (.slice (some ⟨w9.heap.size, 0, none⟩) 1 1) (.int .i64 0) (.slice none 0 0) (.slice none 0 0) (.slice none 0 0) (.bool false) (.slice none 0 0) (.string { data := #[] })
        rw [hS1] at r1
        exact ⟨r1, nilSK _ _, nilIK _ _, nilTK _ _, nilVK _ _⟩)
      have hO1 := HO9.out.trans (Oth.of_below (S := fun k => k < w3.heap.size) b10)
      have SE := hide (show Stay S1 w3.heap.size (.slice (some ⟨g, off, none⟩) l.length vc) l from by
        rw [← hS1]
        exact HST4.out.step (oth_newD (oth_newD (oth_newD (oth_newD (oth_newD (oth_newD (oth_newD (oth_newD (oth_newD (oth_newD (oth_newD (oth_newD (oth_newD (oth_newD hO1 (by omega) 0 _) (by omega) 1 _) (by omega) 2 _) (by omega) 3 _) (by omega) 4 _) (by omega) 5 _) (by omega) 6 _) (by omega) 7 _) (by omega) 8 _) (by omega) 9 _) (by omega) 10 _) (by omega) 11 _) (by omega) 12 _) (by omega) 13 _))
      have BE : Hid (Below w.heap.size w S1) := hide (by
        have hbp := below_put14 (w9.alloc (.cells #[.string { data := #[97] }] 9)) w5.heap.size (.int .i64 (idL + 1)) (.int .i64 ep2) (.int .i64 (rd2 + 1)) (.string { data := #[97] }) (.int .i64 rd2) (.int .i64 id2) (.slice (some ⟨w9.heap.size, 0, none⟩) 1 1) (.int .i64 0) (.slice none 0 0) (.slice none 0 0) (.slice none 0 0) (.bool false) (.slice none 0 0) (.string { data := #[] })
        rw [hS1] at hbp
        exact (((HB1.out.trans (HC9.out.bel.mono (by omega))).trans (b10.mono (by omega))).trans (hbp.mono (by omega))))
      have HS1 := hide hS1
      clear hS1 hO1 b10 t10 k10 T9 K9 HC9 HO9 HO8 HO7 HO6 HO5
      go_region
      all_goals
        rw [HS1.out]
        have k9 := KE.out
        have t9 := TE.out
        have t0_ := t9.cell 0
        have e0 := k9.cell 0
        have f0 := k9.frozen 0
        have t1_ := t9.cell 1
        have e1 := k9.cell 1
        have f1 := k9.frozen 1
        have t2_ := t9.cell 2
        have e2 := k9.cell 2
        have f2 := k9.frozen 2
        have t3_ := t9.cell 3
        have e3 := k9.cell 3
        have f3 := k9.frozen 3
        have t4_ := t9.cell 4
        have e4 := k9.cell 4
        have f4 := k9.frozen 4
        have t5_ := t9.cell 5
        have e5 := k9.cell 5
        have f5 := k9.frozen 5
        have t6_ := t9.cell 6
        have e6 := k9.cell 6
        have f6 := k9.frozen 6
        have t7_ := t9.cell 7
        have e7 := k9.cell 7
        have f7 := k9.frozen 7
        have t8_ := t9.cell 8
        have e8 := k9.cell 8
        have f8 := k9.frozen 8
        have t9_ := t9.cell 9
        have e9 := k9.cell 9
        have f9 := k9.frozen 9
        have t10_ := t9.cell 10
        have e10 := k9.cell 10
        have f10 := k9.frozen 10
        have t11_ := t9.cell 11
        have e11 := k9.cell 11
        have f11 := k9.frozen 11
        have t12_ := t9.cell 12
        have e12 := k9.cell 12
        have f12 := k9.frozen 12
        have t13_ := t9.cell 13
        have e13 := k9.cell 13
        have f13 := k9.frozen 13
        simp only [List.getElem?_cons_zero, List.getElem?_cons_succ] at t0_ e0 t1_ e1 t2_ e2 t3_ e3 t4_ e4 t5_ e5 t6_ e6 t7_ e7 t8_ e8 t9_ e9 t10_ e10 t11_ e11 t12_ e12 t13_ e13
        have zz := Hz1.out
        have hSx := SE.out
        have hSx := hSx.set w.heap.size 0 (.int .i64 (idL + 1)) (by omega)
        have hSx := hSx.set w.heap.size 1 (.int .i64 ep2) (by omega)
        have hSx := hSx.set w.heap.size 2 (.int .i64 (rd2 + 1)) (by omega)
        have hSx := hSx.set w.heap.size 3 (.string { data := #[97] }) (by omega)
        have hSx := hSx.set w.heap.size 4 (.int .i64 rd2) (by omega)
        have hSx := hSx.set w.heap.size 5 (.int .i64 id2) (by omega)
        have hSx := hSx.set w.heap.size 6 (.slice (some ⟨w9.heap.size, 0, none⟩) 1 1) (by omega)
        have hSx := hSx.set w.heap.size 7 (.int .i64 0) (by omega)
        have hSx := hSx.set w.heap.size 8 (.slice none 0 0) (by omega)
        have hSx := hSx.set w.heap.size 9 (.slice none 0 0) (by omega)
        have hSx := hSx.set w.heap.size 10 (.slice none 0 0) (by omega)
        have hSx := hSx.set w.heap.size 11 (.bool false) (by omega)
        have hSx := hSx.set w.heap.size 12 (.slice none 0 0) (by omega)
        have hSx := hSx.set w.heap.size 13 (.string { data := #[] }) (by omega)
        have HS9 := hide hSx
        have Q9 := hide (OwnK.rd ⟨OE.out.q.put14 (g := w.heap.size) (by omega) (.int .i64 (idL + 1)) (.int .i64 ep2) (.int .i64 (rd2 + 1)) (.string { data := #[97] }) (.int .i64 rd2) (.int .i64 id2) (.slice (some ⟨w9.heap.size, 0, none⟩) 1 1) (.int .i64 0) (.slice none 0 0) (.slice none 0 0) (.slice none 0 0) (.bool false) (.slice none 0 0) (.string { data := #[] }), OE.out.p.put14 (g := w.heap.size) (by omega) (.int .i64 (idL + 1)) (.int .i64 ep2) (.int .i64 (rd2 + 1)) (.string { data := #[97] }) (.int .i64 rd2) (.int .i64 id2) (.slice (some ⟨w9.heap.size, 0, none⟩) 1 1) (.int .i64 0) (.slice none 0 0) (.slice none 0 0) (.slice none 0 0) (.bool false) (.slice none 0 0) (.string { data := #[] }), OE.out.h.put14 (g := w.heap.size) (by omega) (.int .i64 (idL + 1)) (.int .i64 ep2) (.int .i64 (rd2 + 1)) (.string { data := #[97] }) (.int .i64 rd2) (.int .i64 id2) (.slice (some ⟨w9.heap.size, 0, none⟩) 1 1) (.int .i64 0) (.slice none 0 0) (.slice none 0 0) (.slice none 0 0) (.bool false) (.slice none 0 0) (.string { data := #[] }), OE.out.t.put14 (g := w.heap.size) (by omega) (.int .i64 (idL + 1)) (.int .i64 ep2) (.int .i64 (rd2 + 1)) (.string { data := #[97] }) (.int .i64 rd2) (.int .i64 id2) (.slice (some ⟨w9.heap.size, 0, none⟩) 1 1) (.int .i64 0) (.slice none 0 0) (.slice none 0 0) (.slice none 0 0) (.bool false) (.slice none 0 0) (.string { data := #[] }), OE.out.n.put14 (g := w.heap.size) (by omega) (.int .i64 (idL + 1)) (.int .i64 ep2) (.int .i64 (rd2 + 1)) (.string { data := #[97] }) (.int .i64 rd2) (.int .i64 id2) (.slice (some ⟨w9.heap.size, 0, none⟩) 1 1) (.int .i64 0) (.slice none 0 0) (.slice none 0 0) (.slice none 0 0) (.bool false) (.slice none 0 0) (.string { data := #[] })⟩)
        have B9 := hide (BE.out.trans (below_put14 S1 w.heap.size (.int .i64 (idL + 1)) (.int .i64 ep2) (.int .i64 (rd2 + 1)) (.string { data := #[97] }) (.int .i64 rd2) (.int .i64 id2) (.slice (some ⟨w9.heap.size, 0, none⟩) 1 1) (.int .i64 0) (.slice none 0 0) (.slice none 0 0) (.slice none 0 0) (.bool false) (.slice none 0 0) (.string { data := #[] })))
        clear k9 t9 hSx KE TE OE SE BE
        go_wp2
        go_region
        all_goals
          go_wp2
          refine bodyPost_ret (v := .tuple #[.slice (some ⟨g, off, none⟩) l.length vc, .agg #[.int .i64 (idL + 1), .int .i64 ep2, .int .i64 (rd2 + 1), .string { data := #[97] }, .int .i64 rd2, .int .i64 id2, .slice (some ⟨w9.heap.size, 0, none⟩) 1 1, .int .i64 0, .slice none 0 0, .slice none 0 0, .slice none 0 0, .bool false, .slice none 0 0, .string { data := #[] }]]) (by simp [results, Try.f14, go_sem, e0, e1, e2, e3, e4, e5, e6, e7, e8, e9, e10, e11, e12, e13]) rfl ?_
          exact ⟨_, l, ⟨idL + 1, ep2, rd2 + 1, { data := #[97] }, rd2, id2, [{ data := #[97] }], 0, [], [], [], false, [], { data := #[] }⟩, ⟨.slice (some ⟨w9.heap.size, 0, none⟩) 1 1, .slice none 0 0, .slice none 0 0, .slice none 0 0, .slice none 0 0⟩, rfl, HS9.out.rd.below ((Below.refl _ _).drew.drew) (Nat.le_refl _), hlen, Hlk.out, Q9.out.below ((Below.refl _ _).drew.drew) (Nat.le_refl _), ⟨few_new _ _ _ _ _, by simp only; omega⟩, B9.out.drew.drew⟩
    · have KE := K7
      have TE := T7
      have OE := O7
      have SE := Hs7
      have zz := Hz1.out
      have BE := hide (HB1.out.trans (HC7.out.bel.mono (by omega)))
      clear K7 T7 O7 Hs7 HC7 zz HO5 HO6 HO7 HST4
      have k9 := KE.out
      have t9 := TE.out
      have t0_ := t9.cell 0
      have e0 := k9.cell 0
      have f0 := k9.frozen 0
      have t1_ := t9.cell 1
      have e1 := k9.cell 1
      have f1 := k9.frozen 1
      have t2_ := t9.cell 2
      have e2 := k9.cell 2
      have f2 := k9.frozen 2
      have t3_ := t9.cell 3
      have e3 := k9.cell 3
      have f3 := k9.frozen 3
      have t4_ := t9.cell 4
      have e4 := k9.cell 4
      have f4 := k9.frozen 4
      have t5_ := t9.cell 5
      have e5 := k9.cell 5
      have f5 := k9.frozen 5
      have t6_ := t9.cell 6
      have e6 := k9.cell 6
      have f6 := k9.frozen 6
      have t7_ := t9.cell 7
      have e7 := k9.cell 7
      have f7 := k9.frozen 7
      have t8_ := t9.cell 8
      have e8 := k9.cell 8
      have f8 := k9.frozen 8
      have t9_ := t9.cell 9
      have e9 := k9.cell 9
      have f9 := k9.frozen 9
      have t10_ := t9.cell 10
      have e10 := k9.cell 10
      have f10 := k9.frozen 10
      have t11_ := t9.cell 11
      have e11 := k9.cell 11
      have f11 := k9.frozen 11
      have t12_ := t9.cell 12
      have e12 := k9.cell 12
      have f12 := k9.frozen 12
      have t13_ := t9.cell 13
      have e13 := k9.cell 13
      have f13 := k9.frozen 13
      simp only [List.getElem?_cons_zero, List.getElem?_cons_succ] at t0_ e0 t1_ e1 t2_ e2 t3_ e3 t4_ e4 t5_ e5 t6_ e6 t7_ e7 t8_ e8 t9_ e9 t10_ e10 t11_ e11 t12_ e12 t13_ e13
      have zz := Hz1.out
      have hSx := SE.out
      have hSx := hSx.set w.heap.size 0 (.int .i64 b.id) (by omega)
      have hSx := hSx.set w.heap.size 1 (.int .i64 b.ep) (by omega)
      have hSx := hSx.set w.heap.size 2 (.int .i64 b.rd) (by omega)
      have hSx := hSx.set w.heap.size 3 (.string b.md) (by omega)
      have hSx := hSx.set w.heap.size 4 (.int .i64 b.qr) (by omega)
      have hSx := hSx.set w.heap.size 5 (.int .i64 b.qb) (by omega)
      have hSx := hSx.set w.heap.size 6 (.slice aq5 b.qw.length cq5) (by omega)
      have hSx := hSx.set w.heap.size 7 (.int .i64 b.tr) (by omega)
      have hSx := hSx.set w.heap.size 8 (.slice aw5 b.tw.length cw5) (by omega)
      have hSx := hSx.set w.heap.size 9 (.slice ah5 b.th.length ch5) (by omega)
      have hSx := hSx.set w.heap.size 10 (.slice at5 b.ts.length ct5) (by omega)
      have hSx := hSx.set w.heap.size 11 (.bool b.en) (by omega)
      have hSx := hSx.set w.heap.size 12 (.slice an5 b.nx.length cn5) (by omega)
      have hSx := hSx.set w.heap.size 13 (.string b.rt) (by omega)
      have HS9 := hide hSx
      have Q9 := hide (OwnK.rd ⟨OE.out.q.put14 (g := w.heap.size) (by omega) (.int .i64 b.id) (.int .i64 b.ep) (.int .i64 b.rd) (.string b.md) (.int .i64 b.qr) (.int .i64 b.qb) (.slice aq5 b.qw.length cq5) (.int .i64 b.tr) (.slice aw5 b.tw.length cw5) (.slice ah5 b.th.length ch5) (.slice at5 b.ts.length ct5) (.bool b.en) (.slice an5 b.nx.length cn5) (.string b.rt), OE.out.p.put14 (g := w.heap.size) (by omega) (.int .i64 b.id) (.int .i64 b.ep) (.int .i64 b.rd) (.string b.md) (.int .i64 b.qr) (.int .i64 b.qb) (.slice aq5 b.qw.length cq5) (.int .i64 b.tr) (.slice aw5 b.tw.length cw5) (.slice ah5 b.th.length ch5) (.slice at5 b.ts.length ct5) (.bool b.en) (.slice an5 b.nx.length cn5) (.string b.rt), OE.out.h.put14 (g := w.heap.size) (by omega) (.int .i64 b.id) (.int .i64 b.ep) (.int .i64 b.rd) (.string b.md) (.int .i64 b.qr) (.int .i64 b.qb) (.slice aq5 b.qw.length cq5) (.int .i64 b.tr) (.slice aw5 b.tw.length cw5) (.slice ah5 b.th.length ch5) (.slice at5 b.ts.length ct5) (.bool b.en) (.slice an5 b.nx.length cn5) (.string b.rt), OE.out.t.put14 (g := w.heap.size) (by omega) (.int .i64 b.id) (.int .i64 b.ep) (.int .i64 b.rd) (.string b.md) (.int .i64 b.qr) (.int .i64 b.qb) (.slice aq5 b.qw.length cq5) (.int .i64 b.tr) (.slice aw5 b.tw.length cw5) (.slice ah5 b.th.length ch5) (.slice at5 b.ts.length ct5) (.bool b.en) (.slice an5 b.nx.length cn5) (.string b.rt), OE.out.n.put14 (g := w.heap.size) (by omega) (.int .i64 b.id) (.int .i64 b.ep) (.int .i64 b.rd) (.string b.md) (.int .i64 b.qr) (.int .i64 b.qb) (.slice aq5 b.qw.length cq5) (.int .i64 b.tr) (.slice aw5 b.tw.length cw5) (.slice ah5 b.th.length ch5) (.slice at5 b.ts.length ct5) (.bool b.en) (.slice an5 b.nx.length cn5) (.string b.rt)⟩)
      have B9 := hide (BE.out.trans (below_put14 w7 w.heap.size (.int .i64 b.id) (.int .i64 b.ep) (.int .i64 b.rd) (.string b.md) (.int .i64 b.qr) (.int .i64 b.qb) (.slice aq5 b.qw.length cq5) (.int .i64 b.tr) (.slice aw5 b.tw.length cw5) (.slice ah5 b.th.length ch5) (.slice at5 b.ts.length ct5) (.bool b.en) (.slice an5 b.nx.length cn5) (.string b.rt)))
      clear k9 t9 hSx KE TE OE SE BE
      go_wp2
      go_region
      all_goals
        go_wp2
        refine bodyPost_ret (v := .tuple #[.slice va l.length vc, .agg #[.int .i64 b.id, .int .i64 b.ep, .int .i64 b.rd, .string b.md, .int .i64 b.qr, .int .i64 b.qb, .slice aq5 b.qw.length cq5, .int .i64 b.tr, .slice aw5 b.tw.length cw5, .slice ah5 b.th.length ch5, .slice at5 b.ts.length ct5, .bool b.en, .slice an5 b.nx.length cn5, .string b.rt]]) (by simp [results, Try.f14, go_sem, e0, e1, e2, e3, e4, e5, e6, e7, e8, e9, e10, e11, e12, e13]) rfl ?_
        exact ⟨_, l, b, ⟨.slice aq5 b.qw.length cq5, .slice aw5 b.tw.length cw5, .slice ah5 b.th.length ch5, .slice at5 b.ts.length ct5, .slice an5 b.nx.length cn5⟩, rfl, HS9.out.rd.below ((Below.refl _ _).drew) (Nat.le_refl _), hlen, Hlk.out, Q9.out.below ((Below.refl _ _).drew) (Nat.le_refl _), HFew.out, B9.out.drew⟩
  · have hli : ¬ (0 : Int) < (l.length : Int) := by omega
    have hlb : decide ((0 : Int) < (l.length : Int)) = false := by simpa using hli
    have KE := K6
    have TE := T6
    have OE := O6
    have SE := Hs6
    have zz := Hz1.out
    have BE := hide (HB1.out.trans (HC6.out.bel.mono (by omega)))
    clear K6 T6 O6 Hs6 HC6 zz HO5 HO6 HST4
    go_upto_region 7 with fail
    rw [Hw6.out]
    clear Hw6
    have k9 := KE.out
    have t9 := TE.out
    have t0_ := t9.cell 0
    have e0 := k9.cell 0
    have f0 := k9.frozen 0
    have t1_ := t9.cell 1
    have e1 := k9.cell 1
    have f1 := k9.frozen 1
    have t2_ := t9.cell 2
    have e2 := k9.cell 2
    have f2 := k9.frozen 2
    have t3_ := t9.cell 3
    have e3 := k9.cell 3
    have f3 := k9.frozen 3
    have t4_ := t9.cell 4
    have e4 := k9.cell 4
    have f4 := k9.frozen 4
    have t5_ := t9.cell 5
    have e5 := k9.cell 5
    have f5 := k9.frozen 5
    have t6_ := t9.cell 6
    have e6 := k9.cell 6
    have f6 := k9.frozen 6
    have t7_ := t9.cell 7
    have e7 := k9.cell 7
    have f7 := k9.frozen 7
    have t8_ := t9.cell 8
    have e8 := k9.cell 8
    have f8 := k9.frozen 8
    have t9_ := t9.cell 9
    have e9 := k9.cell 9
    have f9 := k9.frozen 9
    have t10_ := t9.cell 10
    have e10 := k9.cell 10
    have f10 := k9.frozen 10
    have t11_ := t9.cell 11
    have e11 := k9.cell 11
    have f11 := k9.frozen 11
    have t12_ := t9.cell 12
    have e12 := k9.cell 12
    have f12 := k9.frozen 12
    have t13_ := t9.cell 13
    have e13 := k9.cell 13
    have f13 := k9.frozen 13
    simp only [List.getElem?_cons_zero, List.getElem?_cons_succ] at t0_ e0 t1_ e1 t2_ e2 t3_ e3 t4_ e4 t5_ e5 t6_ e6 t7_ e7 t8_ e8 t9_ e9 t10_ e10 t11_ e11 t12_ e12 t13_ e13
    have zz := Hz1.out
    have hSx := SE.out
    have hSx := hSx.set w.heap.size 0 (.int .i64 b.id) (by omega)
    have hSx := hSx.set w.heap.size 1 (.int .i64 b.ep) (by omega)
    have hSx := hSx.set w.heap.size 2 (.int .i64 b.rd) (by omega)
    have hSx := hSx.set w.heap.size 3 (.string b.md) (by omega)
    have hSx := hSx.set w.heap.size 4 (.int .i64 b.qr) (by omega)
    have hSx := hSx.set w.heap.size 5 (.int .i64 b.qb) (by omega)
    have hSx := hSx.set w.heap.size 6 (.slice aq5 b.qw.length cq5) (by omega)
    have hSx := hSx.set w.heap.size 7 (.int .i64 b.tr) (by omega)
    have hSx := hSx.set w.heap.size 8 (.slice aw5 b.tw.length cw5) (by omega)
    have hSx := hSx.set w.heap.size 9 (.slice ah5 b.th.length ch5) (by omega)
    have hSx := hSx.set w.heap.size 10 (.slice at5 b.ts.length ct5) (by omega)
    have hSx := hSx.set w.heap.size 11 (.bool b.en) (by omega)
    have hSx := hSx.set w.heap.size 12 (.slice an5 b.nx.length cn5) (by omega)
    have hSx := hSx.set w.heap.size 13 (.string b.rt) (by omega)
    have HS9 := hide hSx
    have Q9 := hide (OwnK.rd ⟨OE.out.q.put14 (g := w.heap.size) (by omega) (.int .i64 b.id) (.int .i64 b.ep) (.int .i64 b.rd) (.string b.md) (.int .i64 b.qr) (.int .i64 b.qb) (.slice aq5 b.qw.length cq5) (.int .i64 b.tr) (.slice aw5 b.tw.length cw5) (.slice ah5 b.th.length ch5) (.slice at5 b.ts.length ct5) (.bool b.en) (.slice an5 b.nx.length cn5) (.string b.rt), OE.out.p.put14 (g := w.heap.size) (by omega) (.int .i64 b.id) (.int .i64 b.ep) (.int .i64 b.rd) (.string b.md) (.int .i64 b.qr) (.int .i64 b.qb) (.slice aq5 b.qw.length cq5) (.int .i64 b.tr) (.slice aw5 b.tw.length cw5) (.slice ah5 b.th.length ch5) (.slice at5 b.ts.length ct5) (.bool b.en) (.slice an5 b.nx.length cn5) (.string b.rt), OE.out.h.put14 (g := w.heap.size) (by omega) (.int .i64 b.id) (.int .i64 b.ep) (.int .i64 b.rd) (.string b.md) (.int .i64 b.qr) (.int .i64 b.qb) (.slice aq5 b.qw.length cq5) (.int .i64 b.tr) (.slice aw5 b.tw.length cw5) (.slice ah5 b.th.length ch5) (.slice at5 b.ts.length ct5) (.bool b.en) (.slice an5 b.nx.length cn5) (.string b.rt), OE.out.t.put14 (g := w.heap.size) (by omega) (.int .i64 b.id) (.int .i64 b.ep) (.int .i64 b.rd) (.string b.md) (.int .i64 b.qr) (.int .i64 b.qb) (.slice aq5 b.qw.length cq5) (.int .i64 b.tr) (.slice aw5 b.tw.length cw5) (.slice ah5 b.th.length ch5) (.slice at5 b.ts.length ct5) (.bool b.en) (.slice an5 b.nx.length cn5) (.string b.rt), OE.out.n.put14 (g := w.heap.size) (by omega) (.int .i64 b.id) (.int .i64 b.ep) (.int .i64 b.rd) (.string b.md) (.int .i64 b.qr) (.int .i64 b.qb) (.slice aq5 b.qw.length cq5) (.int .i64 b.tr) (.slice aw5 b.tw.length cw5) (.slice ah5 b.th.length ch5) (.slice at5 b.ts.length ct5) (.bool b.en) (.slice an5 b.nx.length cn5) (.string b.rt)⟩)
    have B9 := hide (BE.out.trans (below_put14 w6 w.heap.size (.int .i64 b.id) (.int .i64 b.ep) (.int .i64 b.rd) (.string b.md) (.int .i64 b.qr) (.int .i64 b.qb) (.slice aq5 b.qw.length cq5) (.int .i64 b.tr) (.slice aw5 b.tw.length cw5) (.slice ah5 b.th.length ch5) (.slice at5 b.ts.length ct5) (.bool b.en) (.slice an5 b.nx.length cn5) (.string b.rt)))
    clear k9 t9 hSx KE TE OE SE BE
    go_wp2
    go_region
    all_goals
      go_wp2
      refine bodyPost_ret (v := .tuple #[.slice va l.length vc, .agg #[.int .i64 b.id, .int .i64 b.ep, .int .i64 b.rd, .string b.md, .int .i64 b.qr, .int .i64 b.qb, .slice aq5 b.qw.length cq5, .int .i64 b.tr, .slice aw5 b.tw.length cw5, .slice ah5 b.th.length ch5, .slice at5 b.ts.length ct5, .bool b.en, .slice an5 b.nx.length cn5, .string b.rt]]) (by simp [results, Try.f14, go_sem, e0, e1, e2, e3, e4, e5, e6, e7, e8, e9, e10, e11, e12, e13]) rfl ?_
      exact ⟨_, l, b, ⟨.slice aq5 b.qw.length cq5, .slice aw5 b.tw.length cw5, .slice ah5 b.th.length ch5, .slice at5 b.ts.length ct5, .slice an5 b.nx.length cn5⟩, rfl, HS9.out.rd.below ((Below.refl _ _).drew) (Nat.le_refl _), hlen, Hlk.out, Q9.out.below ((Below.refl _ _).drew) (Nat.le_refl _), HFew.out, B9.out.drew⟩
end Go.Proofs.Ytbjeonnaannofaa
