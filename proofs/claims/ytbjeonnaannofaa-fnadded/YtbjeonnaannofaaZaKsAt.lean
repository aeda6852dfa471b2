/- The block of a number in a list of blocks, by the model and by the landed code. -/
import Derived.Test.YtbjeonnaannofaaZaBkSpec
import Derived.Test.YtbjeonnaannofaaZaKsCopy
namespace Go.Proofs.Ytbjeonnaannofaa
open Go.RowKit
set_option linter.unusedVariables false

def bk0 : Bk := ⟨0, 0, 0, ⟨#[]⟩, 0, 0, [], 0, [], [], [], false, [], ⟨#[]⟩⟩
def bv0 : Bv := ⟨.slice none 0 0, .slice none 0 0, .slice none 0 0, .slice none 0 0, .slice none 0 0⟩
theorem own_bk0 (base : Nat) (w : World) : OwnK base w bk0 bv0 := ⟨World.ownsRow_nil _ _ _ _, World.ownsRow_nil _ _ _ _, World.ownsRow_nil _ _ _ _, World.ownsRow_nil _ _ _ _, World.ownsRow_nil _ _ _ _⟩
/-- What BlockAt answers. -/
def baK (l : List Bk) (id : Int) : Bk := if 0 ≤ atI l id then (l[(atI l id).toNat]?).getD bk0 else bk0
theorem baK_yes {l : List Bk} {id : Int} {k : Nat} (hk : k < l.length) (e : atI l id = (k : Int)) : baK l id = l[k] := by rw [baK, e, if_pos (by omega)]; simp [hk]
theorem baK_no {l : List Bk} {id : Int} (e : atI l id < 0) : baK l id = bk0 := by rw [baK, if_neg (by omega)]
theorem at_two (l : List Bk) (id : Int) : (atI l id = -1 ∧ ∀ j (h : j < l.length), l[j].id ≠ id) ∨ ∃ k, ∃ hk : k < l.length, atI l id = (k : Int) ∧ l[k].id = id ∧ ∀ i (h2 : i < l.length), i < k → l[i].id ≠ id := by
  rcases atI_is l id with ⟨e, h⟩ | ⟨k, hk, e, f, h⟩
  · exact .inl ⟨e, h⟩
  · exact .inr ⟨k, hk, e, f, h⟩
/-- What stands in an answer of BlockAt. -/
def BaP (w w' : World) (l : List Bk) (id : Int) (e : Ending) : Prop := ∃ v', e = .returned (.tuple #[bkV (baK l id) v', .bool (decide (0 ≤ atI l id))]) ∧ OwnK w.heap.size w' (baK l id) v' ∧ (∀ g, v'.q.ownBlock = some g → v'.w.ownBlock ≠ some g) ∧ Below w.heap.size w w'
set_option maxRecDepth 20000 in
set_option maxHeartbeats 8000000 in
theorem specBlockAt_any (v : Value) (l : List Bk) (id : Int) (w : World) (hr : RdKs w v l) (hl : l.length ≤ 4000000) (hf : ∀ b ∈ l, FewK b) :
    Calls Try.prog 24 #[v, .int .i64 id] w fun e w' => BaP w w' l id e := by
  obtain ⟨a, cap, rfl⟩ := hr.shape
  obtain ⟨S0, hS0⟩ : ∃ x, w.alloc (.cells #[.int .i64 0, .int .i64 0, .int .i64 0, .string { data := #[] }, .int .i64 0, .int .i64 0, .slice none 0 0, .int .i64 0, .slice none 0 0, .slice none 0 0, .slice none 0 0, .bool false, .slice none 0 0, .string { data := #[] }] 37) = x := ⟨_, rfl⟩
  have b0 : Below w.heap.size w S0 := by rw [← hS0]; exact (Below.refl _ w).alloc (Nat.le_refl _) _
  have k0 : Blk S0 w.heap.size 37 [.int .i64 0, .int .i64 0, .int .i64 0, .string { data := #[] }, .int .i64 0, .int .i64 0, .slice none 0 0, .int .i64 0, .slice none 0 0, .slice none 0 0, .slice none 0 0, .bool false, .slice none 0 0, .string { data := #[] }] := by rw [← hS0]; exact Blk.new w _ _
  have HA := hide (specAt_any (.slice a l.length cap) l id S0 (hr.below b0 (Nat.le_refl _)) hl)
  have HK := hide k0
  have HB := hide b0
  have Hr := hide hr
  have Hf := hide hf
  clear hr hf k0 b0
  go_enter Try.func24, Try.ntmps24
  go_wp2_with fail
  (try rw [hS0])
  refine HA.out.mono ?_
  rintro e w1 ⟨rfl, rfl⟩
  rcases at_two l id with ⟨hneg, -⟩ | ⟨k, hkl, hk, -, -⟩
  · have HX := hide (baK_no (l := l) (id := id) (by omega))
    have HD : Hid (decide (0 ≤ atI l id) = false) := hide (by rw [decide_eq_false_iff_not]; omega)
    have hneg2 : atI l id < 0 := by omega
    rw [hneg]
    clear hneg hneg2
    have e0 := HK.out.cell 0
    have f0 := HK.out.frozen 0
    have e1 := HK.out.cell 1
    have f1 := HK.out.frozen 1
    have e2 := HK.out.cell 2
    have f2 := HK.out.frozen 2
    have e3 := HK.out.cell 3
    have f3 := HK.out.frozen 3
    have e4 := HK.out.cell 4
    have f4 := HK.out.frozen 4
    have e5 := HK.out.cell 5
    have f5 := HK.out.frozen 5
    have e6 := HK.out.cell 6
    have f6 := HK.out.frozen 6
    have e7 := HK.out.cell 7
    have f7 := HK.out.frozen 7
    have e8 := HK.out.cell 8
    have f8 := HK.out.frozen 8
    have e9 := HK.out.cell 9
    have f9 := HK.out.frozen 9
    have e10 := HK.out.cell 10
    have f10 := HK.out.frozen 10
    have e11 := HK.out.cell 11
    have f11 := HK.out.frozen 11
    have e12 := HK.out.cell 12
    have f12 := HK.out.frozen 12
    have e13 := HK.out.cell 13
    have f13 := HK.out.frozen 13
    simp only [List.getElem?_cons_zero, List.getElem?_cons_succ] at e0 e1 e2 e3 e4 e5 e6 e7 e8 e9 e10 e11 e12 e13
    have FB := hide (HB.out.trans (below_put14 w1 w.heap.size (.int .i64 0) (.int .i64 0) (.int .i64 0) (.string { data := #[] }) (.int .i64 0) (.int .i64 0) (.slice none 0 0) (.int .i64 0) (.slice none 0 0) (.slice none 0 0) (.slice none 0 0) (.bool false) (.slice none 0 0) (.string { data := #[] })))
    clear HA HK
    go_wp2
    refine bodyPost_ret (v := .tuple #[.agg #[.int .i64 0, .int .i64 0, .int .i64 0, .string { data := #[] }, .int .i64 0, .int .i64 0, .slice none 0 0, .int .i64 0, .slice none 0 0, .slice none 0 0, .slice none 0 0, .bool false, .slice none 0 0, .string { data := #[] }], .bool false]) (by simp [results, Try.f24, go_sem, e0, e1, e2, e3, e4, e5, e6, e7, e8, e9, e10, e11, e12, e13]) rfl ?_
    exact ⟨bv0, by rw [HX.out, HD.out]; rfl, by rw [HX.out]; exact own_bk0 _ _, (fun g h => by cases h), FB.out⟩
  · obtain ⟨b9, off9, ea, h3, hcell⟩ : ∃ b8 off8, a = some ⟨b8, off8, none⟩ ∧ b8 < w.heap.size ∧ ∀ i (h : i < l.length), ∃ bv, BkAt w b8 (off8 + i * 14) l[i] bv ∧ RdK w l[i] bv := by
      rcases Hr.out with ⟨a', cap', e, rfl, hn⟩ | ⟨b, off, cap', h0, e, h1, h2, h3, h4⟩
      · simp at hkl
      · simp only [Value.slice.injEq] at e
        exact ⟨b, off, e.1, h3, h4⟩
    subst ea
    have HX := hide (baK_yes hkl hk)
    have HD : Hid (decide (0 ≤ atI l id) = true) := hide (by rw [decide_eq_true_eq]; omega)
    obtain ⟨lv, hat, hrl⟩ := hcell k hkl
    have hc9 := (hat.below HB.out h3).cells
    obtain ⟨c0, c1, c2, c3, c4, c5, c6, c7, c8, c9, c10, c11, c12, c13⟩ := hc9
    have HC := hide (specCopied_any l[k] lv w1 (hrl.below HB.out (Nat.le_refl _)) (Hf.out _ (List.getElem_mem hkl)))
    have Hsh := hide hrl.shapes9
    rw [hk]
    have hk0 : (0 : Int) ≤ (k : Int) := by omega
    have hkl2 : (k : Int) < (l.length : Int) := by omega
    clear hat hrl hcell hk Hf Hr
    generalize l[k] = ak at c0 c1 c2 c3 c4 c5 c6 c7 c8 c9 c10 c11 c12 c13 HX HC Hsh
    obtain ⟨aq, cq, aw, cw, ah, ch, at_, ct, an, cn, rfl⟩ := Hsh.out
    clear Hsh
    have HX2 : Hid (baK l id = ak) := HX
    obtain ⟨id', ep, rd, md, qr, qb, qw, tr, tw, th, ts, en, nx, rt⟩ := ak
    simp only [bkV] at c0 c1 c2 c3 c4 c5 c6 c7 c8 c9 c10 c11 c12 c13 HC
    go_wp2_with fail
    refine HC.out.mono ?_
    rintro e w2 ⟨v2, rfl, o2, hin, hb2⟩
    obtain ⟨aq2, cq2, aw2, cw2, ah2, ch2, at2, ct2, an2, cn2, rfl⟩ := o2.rd.shapes9
    have k2 := HK.out.below hb2 HK.out.lt
    have e0 := k2.cell 0
    have f0 := k2.frozen 0
    have e1 := k2.cell 1
    have f1 := k2.frozen 1
    have e2 := k2.cell 2
    have f2 := k2.frozen 2
    have e3 := k2.cell 3
    have f3 := k2.frozen 3
    have e4 := k2.cell 4
    have f4 := k2.frozen 4
    have e5 := k2.cell 5
    have f5 := k2.frozen 5
    have e6 := k2.cell 6
    have f6 := k2.frozen 6
    have e7 := k2.cell 7
    have f7 := k2.frozen 7
    have e8 := k2.cell 8
    have f8 := k2.frozen 8
    have e9 := k2.cell 9
    have f9 := k2.frozen 9
    have e10 := k2.cell 10
    have f10 := k2.frozen 10
    have e11 := k2.cell 11
    have f11 := k2.frozen 11
    have e12 := k2.cell 12
    have f12 := k2.frozen 12
    have e13 := k2.cell 13
    have f13 := k2.frozen 13
    simp only [List.getElem?_cons_zero, List.getElem?_cons_succ] at e0 e1 e2 e3 e4 e5 e6 e7 e8 e9 e10 e11 e12 e13
    have hsz := HK.out.lt
    have F0 := hide ((o2.q.put14 (g := w.heap.size) (by omega) (.int .i64 id') (.int .i64 ep) (.int .i64 rd) (.string md) (.int .i64 qr) (.int .i64 qb) (.slice aq2 qw.length cq2) (.int .i64 tr) (.slice aw2 tw.length cw2) (.slice ah2 th.length ch2) (.slice at2 ts.length ct2) (.bool en) (.slice an2 nx.length cn2) (.string rt)).mono HB.out.size)
    have F1 := hide ((o2.p.put14 (g := w.heap.size) (by omega) (.int .i64 id') (.int .i64 ep) (.int .i64 rd) (.string md) (.int .i64 qr) (.int .i64 qb) (.slice aq2 qw.length cq2) (.int .i64 tr) (.slice aw2 tw.length cw2) (.slice ah2 th.length ch2) (.slice at2 ts.length ct2) (.bool en) (.slice an2 nx.length cn2) (.string rt)).mono HB.out.size)
    have F2 := hide ((o2.h.put14 (g := w.heap.size) (by omega) (.int .i64 id') (.int .i64 ep) (.int .i64 rd) (.string md) (.int .i64 qr) (.int .i64 qb) (.slice aq2 qw.length cq2) (.int .i64 tr) (.slice aw2 tw.length cw2) (.slice ah2 th.length ch2) (.slice at2 ts.length ct2) (.bool en) (.slice an2 nx.length cn2) (.string rt)).mono HB.out.size)
    have F3 := hide ((o2.t.put14 (g := w.heap.size) (by omega) (.int .i64 id') (.int .i64 ep) (.int .i64 rd) (.string md) (.int .i64 qr) (.int .i64 qb) (.slice aq2 qw.length cq2) (.int .i64 tr) (.slice aw2 tw.length cw2) (.slice ah2 th.length ch2) (.slice at2 ts.length ct2) (.bool en) (.slice an2 nx.length cn2) (.string rt)).mono HB.out.size)
    have F4 := hide ((o2.n.put14 (g := w.heap.size) (by omega) (.int .i64 id') (.int .i64 ep) (.int .i64 rd) (.string md) (.int .i64 qr) (.int .i64 qb) (.slice aq2 qw.length cq2) (.int .i64 tr) (.slice aw2 tw.length cw2) (.slice ah2 th.length ch2) (.slice at2 ts.length ct2) (.bool en) (.slice an2 nx.length cn2) (.string rt)).mono HB.out.size)
    have FB := hide ((HB.out.trans (hb2.mono HB.out.size)).trans (below_put14 w2 w.heap.size (.int .i64 id') (.int .i64 ep) (.int .i64 rd) (.string md) (.int .i64 qr) (.int .i64 qb) (.slice aq2 qw.length cq2) (.int .i64 tr) (.slice aw2 tw.length cw2) (.slice ah2 th.length ch2) (.slice at2 ts.length ct2) (.bool en) (.slice an2 nx.length cn2) (.string rt)))
    have Hin := hide hin
    clear HA HK HC c0 c1 c2 c3 c4 c5 c6 c7 c8 c9 c10 c11 c12 c13 o2 hin k2 hb2
    simp only
    go_wp2
    refine bodyPost_ret (v := .tuple #[.agg #[.int .i64 id', .int .i64 ep, .int .i64 rd, .string md, .int .i64 qr, .int .i64 qb, .slice aq2 qw.length cq2, .int .i64 tr, .slice aw2 tw.length cw2, .slice ah2 th.length ch2, .slice at2 ts.length ct2, .bool en, .slice an2 nx.length cn2, .string rt], .bool true]) (by simp [results, Try.f24, go_sem, e0, e1, e2, e3, e4, e5, e6, e7, e8, e9, e10, e11, e12, e13]) rfl ?_
    exact ⟨⟨_, _, _, _, _⟩, by rw [HX2.out, HD.out]; rfl, by rw [HX2.out]; exact ⟨F0.out, F1.out, F2.out, F3.out, F4.out⟩, Hin.out, FB.out⟩
set_option maxRecDepth 20000 in
set_option maxHeartbeats 8000000 in
theorem implBlockAt_any (v : Value) (l : List Bk) (id : Int) (w : World) (hr : RdKs w v l) (hl : l.length ≤ 4000000) (hf : ∀ b ∈ l, FewK b) :
    Calls Try.prog 12 #[v, .int .i64 id] w fun e w' => BaP w w' l id e := by
  obtain ⟨a, cap, rfl⟩ := hr.shape
  obtain ⟨S0, hS0⟩ : ∃ x, w.alloc (.cells #[.int .i64 0, .int .i64 0, .int .i64 0, .string { data := #[] }, .int .i64 0, .int .i64 0, .slice none 0 0, .int .i64 0, .slice none 0 0, .slice none 0 0, .slice none 0 0, .bool false, .slice none 0 0, .string { data := #[] }] 37) = x := ⟨_, rfl⟩
  have b0 : Below w.heap.size w S0 := by rw [← hS0]; exact (Below.refl _ w).alloc (Nat.le_refl _) _
  have k0 : Blk S0 w.heap.size 37 [.int .i64 0, .int .i64 0, .int .i64 0, .string { data := #[] }, .int .i64 0, .int .i64 0, .slice none 0 0, .int .i64 0, .slice none 0 0, .slice none 0 0, .slice none 0 0, .bool false, .slice none 0 0, .string { data := #[] }] := by rw [← hS0]; exact Blk.new w _ _
  have HA := hide (firstOf_any l a cap id S0 (hr.below b0 (Nat.le_refl _)) hl)
  have HK := hide k0
  have HB := hide b0
  have Hr := hide hr
  have Hf := hide hf
  clear hr hf k0 b0
  go_enter Try.func12, Try.ntmps12
  go_wp2_with fail
  (try rw [hS0])
  refine HA.out.mono ?_
  rintro e w1 ⟨hcase, rfl⟩
  rcases hcase with ⟨hneg, rfl⟩ | ⟨k, b, off, hk, hkl, rfl, rfl⟩
  · have HX := hide (baK_no hneg)
    have HD : Hid (decide (0 ≤ atI l id) = false) := hide (by rw [decide_eq_false_iff_not]; omega)
    clear hneg
    have e0 := HK.out.cell 0
    have f0 := HK.out.frozen 0
    have e1 := HK.out.cell 1
    have f1 := HK.out.frozen 1
    have e2 := HK.out.cell 2
    have f2 := HK.out.frozen 2
    have e3 := HK.out.cell 3
    have f3 := HK.out.frozen 3
    have e4 := HK.out.cell 4
    have f4 := HK.out.frozen 4
    have e5 := HK.out.cell 5
    have f5 := HK.out.frozen 5
    have e6 := HK.out.cell 6
    have f6 := HK.out.frozen 6
    have e7 := HK.out.cell 7
    have f7 := HK.out.frozen 7
    have e8 := HK.out.cell 8
    have f8 := HK.out.frozen 8
    have e9 := HK.out.cell 9
    have f9 := HK.out.frozen 9
    have e10 := HK.out.cell 10
    have f10 := HK.out.frozen 10
    have e11 := HK.out.cell 11
    have f11 := HK.out.frozen 11
    have e12 := HK.out.cell 12
    have f12 := HK.out.frozen 12
    have e13 := HK.out.cell 13
    have f13 := HK.out.frozen 13
    simp only [List.getElem?_cons_zero, List.getElem?_cons_succ] at e0 e1 e2 e3 e4 e5 e6 e7 e8 e9 e10 e11 e12 e13
    have FB := hide (HB.out.trans (below_put14 w1 w.heap.size (.int .i64 0) (.int .i64 0) (.int .i64 0) (.string { data := #[] }) (.int .i64 0) (.int .i64 0) (.slice none 0 0) (.int .i64 0) (.slice none 0 0) (.slice none 0 0) (.slice none 0 0) (.bool false) (.slice none 0 0) (.string { data := #[] })))
    clear HA HK
    go_wp2
    refine bodyPost_ret (v := .tuple #[.agg #[.int .i64 0, .int .i64 0, .int .i64 0, .string { data := #[] }, .int .i64 0, .int .i64 0, .slice none 0 0, .int .i64 0, .slice none 0 0, .slice none 0 0, .slice none 0 0, .bool false, .slice none 0 0, .string { data := #[] }], .bool false]) (by simp [results, Try.f12, go_sem, e0, e1, e2, e3, e4, e5, e6, e7, e8, e9, e10, e11, e12, e13]) rfl ?_
    exact ⟨bv0, by rw [HX.out, HD.out]; rfl, by rw [HX.out]; exact own_bk0 _ _, (fun g h => by cases h), FB.out⟩
  · obtain ⟨b9, off9, ea, h3, hcell⟩ : ∃ b8 off8, (some ⟨b, off, none⟩ : Option Addr) = some ⟨b8, off8, none⟩ ∧ b8 < w.heap.size ∧ ∀ i (h : i < l.length), ∃ bv, BkAt w b8 (off8 + i * 14) l[i] bv ∧ RdK w l[i] bv := by
      rcases Hr.out with ⟨a', cap', e, rfl, hn⟩ | ⟨b, off, cap', h0, e, h1, h2, h3, h4⟩
      · simp at hkl
      · simp only [Value.slice.injEq] at e
        exact ⟨b, off, e.1, h3, h4⟩
    obtain ⟨rfl, rfl⟩ : b = b9 ∧ off = off9 := by simpa using ea
    have HX := hide (baK_yes hkl hk)
    have HD : Hid (decide (0 ≤ atI l id) = true) := hide (by rw [decide_eq_true_eq]; omega)
    obtain ⟨lv, hat, hrl⟩ := hcell k hkl
    have hc9 := (hat.below HB.out h3).cells
    obtain ⟨c0, c1, c2, c3, c4, c5, c6, c7, c8, c9, c10, c11, c12, c13⟩ := hc9
    have HC := hide (implCopiedK_any l[k] lv w1 (hrl.below HB.out (Nat.le_refl _)) (Hf.out _ (List.getElem_mem hkl)))
    have Hsh := hide hrl.shapes9
    clear hat hrl hcell hk Hf Hr
    generalize l[k] = ak at c0 c1 c2 c3 c4 c5 c6 c7 c8 c9 c10 c11 c12 c13 HX HC Hsh
    obtain ⟨aq, cq, aw, cw, ah, ch, at_, ct, an, cn, rfl⟩ := Hsh.out
    clear Hsh
    have HX2 : Hid (baK l id = ak) := HX
    obtain ⟨id', ep, rd, md, qr, qb, qw, tr, tw, th, ts, en, nx, rt⟩ := ak
    simp only [bkV] at c0 c1 c2 c3 c4 c5 c6 c7 c8 c9 c10 c11 c12 c13 HC
    go_wp2_with fail
    refine HC.out.mono ?_
    rintro e w2 ⟨v2, rfl, o2, hin, hb2⟩
    obtain ⟨aq2, cq2, aw2, cw2, ah2, ch2, at2, ct2, an2, cn2, rfl⟩ := o2.rd.shapes9
    have k2 := HK.out.below hb2 HK.out.lt
    have e0 := k2.cell 0
    have f0 := k2.frozen 0
    have e1 := k2.cell 1
    have f1 := k2.frozen 1
    have e2 := k2.cell 2
    have f2 := k2.frozen 2
    have e3 := k2.cell 3
    have f3 := k2.frozen 3
    have e4 := k2.cell 4
    have f4 := k2.frozen 4
    have e5 := k2.cell 5
    have f5 := k2.frozen 5
    have e6 := k2.cell 6
    have f6 := k2.frozen 6
    have e7 := k2.cell 7
    have f7 := k2.frozen 7
    have e8 := k2.cell 8
    have f8 := k2.frozen 8
    have e9 := k2.cell 9
    have f9 := k2.frozen 9
    have e10 := k2.cell 10
    have f10 := k2.frozen 10
    have e11 := k2.cell 11
    have f11 := k2.frozen 11
    have e12 := k2.cell 12
    have f12 := k2.frozen 12
    have e13 := k2.cell 13
    have f13 := k2.frozen 13
    simp only [List.getElem?_cons_zero, List.getElem?_cons_succ] at e0 e1 e2 e3 e4 e5 e6 e7 e8 e9 e10 e11 e12 e13
    have hsz := HK.out.lt
    have F0 := hide ((o2.q.put14 (g := w.heap.size) (by omega) (.int .i64 id') (.int .i64 ep) (.int .i64 rd) (.string md) (.int .i64 qr) (.int .i64 qb) (.slice aq2 qw.length cq2) (.int .i64 tr) (.slice aw2 tw.length cw2) (.slice ah2 th.length ch2) (.slice at2 ts.length ct2) (.bool en) (.slice an2 nx.length cn2) (.string rt)).mono HB.out.size)
    have F1 := hide ((o2.p.put14 (g := w.heap.size) (by omega) (.int .i64 id') (.int .i64 ep) (.int .i64 rd) (.string md) (.int .i64 qr) (.int .i64 qb) (.slice aq2 qw.length cq2) (.int .i64 tr) (.slice aw2 tw.length cw2) (.slice ah2 th.length ch2) (.slice at2 ts.length ct2) (.bool en) (.slice an2 nx.length cn2) (.string rt)).mono HB.out.size)
    have F2 := hide ((o2.h.put14 (g := w.heap.size) (by omega) (.int .i64 id') (.int .i64 ep) (.int .i64 rd) (.string md) (.int .i64 qr) (.int .i64 qb) (.slice aq2 qw.length cq2) (.int .i64 tr) (.slice aw2 tw.length cw2) (.slice ah2 th.length ch2) (.slice at2 ts.length ct2) (.bool en) (.slice an2 nx.length cn2) (.string rt)).mono HB.out.size)
    have F3 := hide ((o2.t.put14 (g := w.heap.size) (by omega) (.int .i64 id') (.int .i64 ep) (.int .i64 rd) (.string md) (.int .i64 qr) (.int .i64 qb) (.slice aq2 qw.length cq2) (.int .i64 tr) (.slice aw2 tw.length cw2) (.slice ah2 th.length ch2) (.slice at2 ts.length ct2) (.bool en) (.slice an2 nx.length cn2) (.string rt)).mono HB.out.size)
    have F4 := hide ((o2.n.put14 (g := w.heap.size) (by omega) (.int .i64 id') (.int .i64 ep) (.int .i64 rd) (.string md) (.int .i64 qr) (.int .i64 qb) (.slice aq2 qw.length cq2) (.int .i64 tr) (.slice aw2 tw.length cw2) (.slice ah2 th.length ch2) (.slice at2 ts.length ct2) (.bool en) (.slice an2 nx.length cn2) (.string rt)).mono HB.out.size)
    have FB := hide ((HB.out.trans (hb2.mono HB.out.size)).trans (below_put14 w2 w.heap.size (.int .i64 id') (.int .i64 ep) (.int .i64 rd) (.string md) (.int .i64 qr) (.int .i64 qb) (.slice aq2 qw.length cq2) (.int .i64 tr) (.slice aw2 tw.length cw2) (.slice ah2 th.length ch2) (.slice at2 ts.length ct2) (.bool en) (.slice an2 nx.length cn2) (.string rt)))
    have Hin := hide hin
    clear HA HK HC c0 c1 c2 c3 c4 c5 c6 c7 c8 c9 c10 c11 c12 c13 o2 hin k2 hb2
    simp only
    go_wp2
    refine bodyPost_ret (v := .tuple #[.agg #[.int .i64 id', .int .i64 ep, .int .i64 rd, .string md, .int .i64 qr, .int .i64 qb, .slice aq2 qw.length cq2, .int .i64 tr, .slice aw2 tw.length cw2, .slice ah2 th.length ch2, .slice at2 ts.length ct2, .bool en, .slice an2 nx.length cn2, .string rt], .bool true]) (by simp [results, Try.f12, go_sem, e0, e1, e2, e3, e4, e5, e6, e7, e8, e9, e10, e11, e12, e13]) rfl ?_
    exact ⟨⟨_, _, _, _, _⟩, by rw [HX2.out, HD.out]; rfl, by rw [HX2.out]; exact ⟨F0.out, F1.out, F2.out, F3.out, F4.out⟩, Hin.out, FB.out⟩
end Go.Proofs.Ytbjeonnaannofaa
