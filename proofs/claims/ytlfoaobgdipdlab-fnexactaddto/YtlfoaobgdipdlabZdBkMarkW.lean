/- A block marked, with what its lists are then; a block held against its marks. A block marked, the marks beginning at any number up to ten millions. -/
import Derived.Test.YtlfoaobgdipdlabZdBkPuts
namespace Go.Proofs.Ytlfoaobgdipdlab
open Go.RowKit
set_option linter.unusedVariables false

/-- A block whose lists are marked, the marks beginning with k; how many there are. -/
def mkK (k : Nat) (b : Bk) : Bk :=
  ⟨b.id, b.ep, b.rd, b.md, b.qr, b.qb, mkS k b.qw.length, b.tr, mkS (k + b.qw.length) b.tw.length, mkI (k + b.qw.length + b.tw.length) b.th.length, mkT (k + b.qw.length + b.tw.length + b.th.length) b.ts.length, b.en, mkV (k + b.qw.length + b.tw.length + b.th.length + 5 * b.ts.length) b.nx.length, b.rt⟩
def mkC (k : Nat) (b : Bk) : Nat := k + b.qw.length + b.tw.length + b.th.length + 5 * b.ts.length + 2 * b.nx.length
theorem Blk.othB {S : Nat → Prop} {W V : World} {B : Nat} {t : TypeId} {cs : List Value} (h : Blk W B t cs) (hO : Oth S W V) (hn : ¬ S B) : Blk V B t cs := (hO.block B h.lt hn).trans h
set_option maxRecDepth 20000 in
set_option maxHeartbeats 4000000 in
theorem markBlockC_any (b : Bk) (v : Bv) (k base : Nat) (w : World) (ho : OwnK base w b v) (hin : ∀ g, v.q.ownBlock = some g → v.w.ownBlock ≠ some g) (l1 : b.qw.length ≤ 4000000) (l2 : b.tw.length ≤ 4000000) (l3 : b.th.length ≤ 4000000) (l4 : b.ts.length ≤ 4000000) (l5 : b.nx.length ≤ 4000000) (hk : k ≤ 1000) (hk0 : 0 < k) :
    Calls Try.prog 14 #[bkV b v, .int .i64 (k : Int)] w fun e w' => e = .returned (.int .i64 ((mkC k b : Nat) : Int)) ∧ OwnK base w' (mkK k b) v ∧ Oth (fun g => v.has g) w w' := by
  have HC : Hid (mkC k b = k + b.qw.length + b.tw.length + b.th.length + 5 * b.ts.length + 2 * b.nx.length) := hide rfl
  have HKd : Hid (mkK k b = ⟨b.id, b.ep, b.rd, b.md, b.qr, b.qb, mkS k b.qw.length, b.tr, mkS (k + b.qw.length) b.tw.length, mkI (k + b.qw.length + b.tw.length) b.th.length, mkT (k + b.qw.length + b.tw.length + b.th.length) b.ts.length, b.en, mkV (k + b.qw.length + b.tw.length + b.th.length + 5 * b.ts.length) b.nx.length, b.rt⟩) := hide rfl
  generalize mkC k b = KC at HC ⊢
  generalize mkK k b = KK at HKd ⊢
  have Hlt : Hid (∀ g, v.has g → g < w.heap.size) := hide (fun g hg => (ho.in9 g hg).2)
  obtain ⟨id, ep, rd, md, qr, qb, qw, tr, tw, th, ts, en, nx, rt⟩ := b
  obtain ⟨vq, vw, vh, vt, vn⟩ := v
  have oq := ho.q
  have ow := ho.p
  have oh := ho.h
  have ot := ho.t
  have on := ho.n
  simp only [bkV] at *
  obtain ⟨aq, cq, rfl⟩ := oq.rd.shape
  obtain ⟨aw, cw, rfl⟩ := ow.rd.shape
  obtain ⟨ah, ch, rfl⟩ := oh.rd.shape
  obtain ⟨at_, ct, rfl⟩ := ot.rd.shape
  obtain ⟨an, cn, rfl⟩ := on.rd.shape
  clear oq ow oh ot on
  obtain ⟨w1, hw1⟩ : ∃ x, w.alloc (.cells #[.int .i64 id, .int .i64 ep, .int .i64 rd, .string md, .int .i64 qr, .int .i64 qb, .slice aq qw.length cq, .int .i64 tr, .slice aw tw.length cw, .slice ah th.length ch, .slice at_ ts.length ct, .bool en, .slice an nx.length cn, .string rt] 44) = x := ⟨_, rfl⟩
  have b1 : Below w.heap.size w w1 := by rw [← hw1]; exact (Below.refl _ w).alloc (Nat.le_refl _) _
  have k1 : Blk w1 w.heap.size 44 [.int .i64 id, .int .i64 ep, .int .i64 rd, .string md, .int .i64 qr, .int .i64 qb, .slice aq qw.length cq, .int .i64 tr, .slice aw tw.length cw, .slice ah th.length ch, .slice at_ ts.length ct, .bool en, .slice an nx.length cn, .string rt] := by rw [← hw1]; exact Blk.new w _ _
  have o1 := ho.below9 b1 (Nat.le_refl _)
  have Hin := hide hin
  obtain ⟨V9, hV9⟩ : ∃ V9 : Bv, V9 = ⟨.slice aq qw.length cq, .slice aw tw.length cw, .slice ah th.length ch, .slice at_ ts.length ct, .slice an nx.length cn⟩ := ⟨_, rfl⟩
  have Hbx : Hid (∀ g, (⟨.slice aq qw.length cq, .slice aw tw.length cw, .slice ah th.length ch, .slice at_ ts.length ct, .slice an nx.length cn⟩ : Bv).has g → g ≠ w.heap.size) := hide (fun g hg => by have := Hlt.out g hg; omega)
  have HM1 := hide (markQc_any qr qb (.slice aq qw.length cq) qw k base w1 o1.q (by omega) (by omega) hk0)
  have HO1 := hide o1
  have HB1 := hide b1
  have HK1 := hide k1
  have x4 := k1.cell 4
  have x5 := k1.cell 5
  have x6 := k1.cell 6
  simp only [List.getElem?_cons_zero, List.getElem?_cons_succ] at x4 x5 x6
  simp only [qcV] at HM1
  clear ho o1 b1 k1 hin hV9
  go_enter Try.func14, Try.ntmps14
  go_wp2_with fail
  refine HM1.out.mono ?_
  rintro e w2 ⟨rfl, oq2, O2⟩
  have o2 := HO1.out.putq Hin.out _ oq2 O2
  have k2 := HK1.out.othB O2 (fun e => Hbx.out _ (.inl e) rfl)
  obtain ⟨K1, hK1⟩ : ∃ K : Nat, k + qw.length = K := ⟨_, rfl⟩
  have u1 : 0 < K1 ∧ K1 ≤ 5000000 := by omega
  rw [hK1] at HC HKd ⊢
  have HM2 := hide (markTc_any tr (.slice aw tw.length cw) (.slice ah th.length ch) tw th K1 base base w2 o2.p o2.h (by omega) (by omega) (by omega) (by omega))
  have HO2 := hide o2
  have HT2 := hide (O2.mono (T := fun g => (⟨.slice aq qw.length cq, .slice aw tw.length cw, .slice ah th.length ch, .slice at_ ts.length ct, .slice an nx.length cn⟩ : Bv).has g) (fun g h => .inl h))
  have HK2 := hide k2
  clear x4 x5 x6 hw1 HO1 HM1 O2 oq2 o2 hK1 HK1
  have x7 := k2.cell 7
  have x8 := k2.cell 8
  have x9 := k2.cell 9
  simp only [List.getElem?_cons_zero, List.getElem?_cons_succ] at x7 x8 x9
  simp only [tcV] at HM2
  clear k2
  go_wp2_with fail
  refine HM2.out.mono ?_
  rintro e w3 ⟨rfl, ow3, oh3, O3⟩
  have o3a := HO2.out
  have k3 := HK2.out.othB O3 (fun e => e.elim (fun e => Hbx.out _ (.inr (.inl e)) rfl) (fun e => Hbx.out _ (.inr (.inr (.inl e))) rfl))
  have o3 : OwnK base w3 ⟨id, ep, rd, md, qr, qb, mkS k qw.length, tr, mkS K1 tw.length, mkI (K1 + tw.length) th.length, ts, en, nx, rt⟩ ⟨.slice aq qw.length cq, .slice aw tw.length cw, .slice ah th.length ch, .slice at_ ts.length ct, .slice an nx.length cn⟩ :=
    ⟨row_oth o3a.q O3 (fun g e h => h.elim (fun h => Hin.out g e h) (fun h => rows_apart o3a.h o3a.q (by decide) g e h)), ow3, oh3, row_oth o3a.t O3 (fun g e h => h.elim (fun h => rows_apart o3a.p o3a.t (by decide) g e h) (fun h => rows_apart o3a.h o3a.t (by decide) g e h)), row_oth o3a.n O3 (fun g e h => h.elim (fun h => rows_apart o3a.p o3a.n (by decide) g e h) (fun h => rows_apart o3a.h o3a.n (by decide) g e h))⟩
  obtain ⟨K2, hK2⟩ : ∃ K : Nat, K1 + tw.length + th.length = K := ⟨_, rfl⟩
  have u2 : 0 < K2 ∧ K2 ≤ 13000000 := by omega
  rw [hK2] at HC HKd ⊢
  have HM3 := hide (markTxC_any (.slice at_ ts.length ct) ts K2 base w3 o3.t (by omega) (by omega) (by omega))
  have HO3 := hide o3
  have HT3 := hide (HT2.out.trans (O3.mono (T := fun g => (⟨.slice aq qw.length cq, .slice aw tw.length cw, .slice ah th.length ch, .slice at_ ts.length ct, .slice an nx.length cn⟩ : Bv).has g) (fun g h => h.elim (fun h => .inr (.inl h)) (fun h => .inr (.inr (.inl h))))))
  have HK3 := hide k3
  clear x7 x8 x9 HO2 HM2 O3 ow3 oh3 o3 o3a hK2 HK2 HT2
  have x10 := k3.cell 10
  simp only [List.getElem?_cons_zero, List.getElem?_cons_succ] at x10
  clear k3
  go_wp2_with fail
  refine HM3.out.mono ?_
  rintro e w4 ⟨rfl, ot4, O4⟩
  have o4 := HO3.out.putt _ ot4 O4
  have k4 := HK3.out.othB O4 (fun e => Hbx.out _ (.inr (.inr (.inr (.inl e)))) rfl)
  obtain ⟨K3, hK3⟩ : ∃ K : Nat, K2 + 5 * ts.length = K := ⟨_, rfl⟩
  have u3 : 0 < K3 ∧ K3 ≤ 33000000 := by omega
  rw [hK3] at HC HKd ⊢
  have HM4 := hide (markValS_any (.slice an nx.length cn) nx K3 base w4 o4.n (by omega) (by omega) (by omega))
  have HO4 := hide o4
  have HT4 := hide (HT3.out.trans (O4.mono (T := fun g => (⟨.slice aq qw.length cq, .slice aw tw.length cw, .slice ah th.length ch, .slice at_ ts.length ct, .slice an nx.length cn⟩ : Bv).has g) (fun g h => .inr (.inr (.inr (.inl h))))))
  clear x10 HO3 HM3 O4 ot4 o4 hK3 HK3 HT3
  have x12 := k4.cell 12
  simp only [List.getElem?_cons_zero, List.getElem?_cons_succ] at x12
  clear k4
  go_wp2_with fail
  refine HM4.out.mono ?_
  rintro e w5 ⟨rfl, on5, hg5⟩
  have HO5 : Hid (OwnK base w5 KK ⟨.slice aq qw.length cq, .slice aw tw.length cw, .slice ah th.length ch, .slice at_ ts.length ct, .slice an nx.length cn⟩) := hide (by rw [HKd.out]; exact HO4.out.putn _ on5 (Oth.of_grown hg5 (fun g h => h)))
  have HT5 := hide ((Oth.of_below HB1.out).trans (HT4.out.trans (Oth.of_grown (S := fun g => (⟨.slice aq qw.length cq, .slice aw tw.length cw, .slice ah th.length ch, .slice at_ ts.length ct, .slice an nx.length cn⟩ : Bv).has g) hg5 (fun g h => .inr (.inr (.inr (.inr h)))))))
  have HC2 : Hid (((K3 + 2 * nx.length : Nat) : Int) = ((KC : Nat) : Int)) := hide (by rw [HC.out])
  clear on5 hg5 HO4 HT4 HM4 HC
  generalize K3 + 2 * nx.length = K4 at HC2
  go_wp2
  go_ret
  exact ⟨ret_int HC2.out, HO5.out, HT5.out⟩
end Go.Proofs.Ytlfoaobgdipdlab

namespace Go.Proofs.Ytlfoaobgdipdlab
open Go.RowKit
set_option linter.unusedVariables false

set_option maxRecDepth 20000 in
set_option maxHeartbeats 4000000 in
theorem markBlockW_any (b : Bk) (v : Bv) (k base : Nat) (w : World) (ho : OwnK base w b v) (hin : ∀ g, v.q.ownBlock = some g → v.w.ownBlock ≠ some g) (l1 : b.qw.length ≤ 4000000) (l2 : b.tw.length ≤ 4000000) (l3 : b.th.length ≤ 4000000) (l4 : b.ts.length ≤ 4000000) (l5 : b.nx.length ≤ 4000000) (hk : k ≤ 10000000) (hk0 : 0 < k) :
    Calls Try.prog 14 #[bkV b v, .int .i64 (k : Int)] w fun e w' => e = .returned (.int .i64 ((mkC k b : Nat) : Int)) ∧ OwnK base w' (mkK k b) v ∧ Oth (fun g => v.has g) w w' := by
  have HC : Hid (mkC k b = k + b.qw.length + b.tw.length + b.th.length + 5 * b.ts.length + 2 * b.nx.length) := hide rfl
  have HKd : Hid (mkK k b = ⟨b.id, b.ep, b.rd, b.md, b.qr, b.qb, mkS k b.qw.length, b.tr, mkS (k + b.qw.length) b.tw.length, mkI (k + b.qw.length + b.tw.length) b.th.length, mkT (k + b.qw.length + b.tw.length + b.th.length) b.ts.length, b.en, mkV (k + b.qw.length + b.tw.length + b.th.length + 5 * b.ts.length) b.nx.length, b.rt⟩) := hide rfl
  generalize mkC k b = KC at HC ⊢
  generalize mkK k b = KK at HKd ⊢
  have Hlt : Hid (∀ g, v.has g → g < w.heap.size) := hide (fun g hg => (ho.in9 g hg).2)
  obtain ⟨id, ep, rd, md, qr, qb, qw, tr, tw, th, ts, en, nx, rt⟩ := b
  obtain ⟨vq, vw, vh, vt, vn⟩ := v
  have oq := ho.q
  have ow := ho.p
  have oh := ho.h
  have ot := ho.t
  have on := ho.n
  simp only [bkV] at *
  obtain ⟨aq, cq, rfl⟩ := oq.rd.shape
  obtain ⟨aw, cw, rfl⟩ := ow.rd.shape
  obtain ⟨ah, ch, rfl⟩ := oh.rd.shape
  obtain ⟨at_, ct, rfl⟩ := ot.rd.shape
  obtain ⟨an, cn, rfl⟩ := on.rd.shape
  clear oq ow oh ot on
  obtain ⟨w1, hw1⟩ : ∃ x, w.alloc (.cells #[.int .i64 id, .int .i64 ep, .int .i64 rd, .string md, .int .i64 qr, .int .i64 qb, .slice aq qw.length cq, .int .i64 tr, .slice aw tw.length cw, .slice ah th.length ch, .slice at_ ts.length ct, .bool en, .slice an nx.length cn, .string rt] 44) = x := ⟨_, rfl⟩
  have b1 : Below w.heap.size w w1 := by rw [← hw1]; exact (Below.refl _ w).alloc (Nat.le_refl _) _
  have k1 : Blk w1 w.heap.size 44 [.int .i64 id, .int .i64 ep, .int .i64 rd, .string md, .int .i64 qr, .int .i64 qb, .slice aq qw.length cq, .int .i64 tr, .slice aw tw.length cw, .slice ah th.length ch, .slice at_ ts.length ct, .bool en, .slice an nx.length cn, .string rt] := by rw [← hw1]; exact Blk.new w _ _
  have o1 := ho.below9 b1 (Nat.le_refl _)
  have Hin := hide hin
  obtain ⟨V9, hV9⟩ : ∃ V9 : Bv, V9 = ⟨.slice aq qw.length cq, .slice aw tw.length cw, .slice ah th.length ch, .slice at_ ts.length ct, .slice an nx.length cn⟩ := ⟨_, rfl⟩
  have Hbx : Hid (∀ g, (⟨.slice aq qw.length cq, .slice aw tw.length cw, .slice ah th.length ch, .slice at_ ts.length ct, .slice an nx.length cn⟩ : Bv).has g → g ≠ w.heap.size) := hide (fun g hg => by have := Hlt.out g hg; omega)
  have HM1 := hide (markQc_any qr qb (.slice aq qw.length cq) qw k base w1 o1.q (by omega) (by omega) hk0)
  have HO1 := hide o1
  have HB1 := hide b1
  have HK1 := hide k1
  have x4 := k1.cell 4
  have x5 := k1.cell 5
  have x6 := k1.cell 6
  simp only [List.getElem?_cons_zero, List.getElem?_cons_succ] at x4 x5 x6
  simp only [qcV] at HM1
  clear ho o1 b1 k1 hin hV9
  go_enter Try.func14, Try.ntmps14
  go_wp2_with fail
  refine HM1.out.mono ?_
  rintro e w2 ⟨rfl, oq2, O2⟩
  have o2 := HO1.out.putq Hin.out _ oq2 O2
  have k2 := HK1.out.othB O2 (fun e => Hbx.out _ (.inl e) rfl)
  obtain ⟨K1, hK1⟩ : ∃ K : Nat, k + qw.length = K := ⟨_, rfl⟩
  have u1 : 0 < K1 ∧ K1 ≤ 14000000 := by omega
  rw [hK1] at HC HKd ⊢
  have HM2 := hide (markTc_any tr (.slice aw tw.length cw) (.slice ah th.length ch) tw th K1 base base w2 o2.p o2.h (by omega) (by omega) (by omega) (by omega))
  have HO2 := hide o2
  have HT2 := hide (O2.mono (T := fun g => (⟨.slice aq qw.length cq, .slice aw tw.length cw, .slice ah th.length ch, .slice at_ ts.length ct, .slice an nx.length cn⟩ : Bv).has g) (fun g h => .inl h))
  have HK2 := hide k2
  clear x4 x5 x6 hw1 HO1 HM1 O2 oq2 o2 hK1 HK1
  have x7 := k2.cell 7
  have x8 := k2.cell 8
  have x9 := k2.cell 9
  simp only [List.getElem?_cons_zero, List.getElem?_cons_succ] at x7 x8 x9
  simp only [tcV] at HM2
  clear k2
  go_wp2_with fail
  refine HM2.out.mono ?_
  rintro e w3 ⟨rfl, ow3, oh3, O3⟩
  have o3a := HO2.out
  have k3 := HK2.out.othB O3 (fun e => e.elim (fun e => Hbx.out _ (.inr (.inl e)) rfl) (fun e => Hbx.out _ (.inr (.inr (.inl e))) rfl))
  have o3 : OwnK base w3 ⟨id, ep, rd, md, qr, qb, mkS k qw.length, tr, mkS K1 tw.length, mkI (K1 + tw.length) th.length, ts, en, nx, rt⟩ ⟨.slice aq qw.length cq, .slice aw tw.length cw, .slice ah th.length ch, .slice at_ ts.length ct, .slice an nx.length cn⟩ :=
    ⟨row_oth o3a.q O3 (fun g e h => h.elim (fun h => Hin.out g e h) (fun h => rows_apart o3a.h o3a.q (by decide) g e h)), ow3, oh3, row_oth o3a.t O3 (fun g e h => h.elim (fun h => rows_apart o3a.p o3a.t (by decide) g e h) (fun h => rows_apart o3a.h o3a.t (by decide) g e h)), row_oth o3a.n O3 (fun g e h => h.elim (fun h => rows_apart o3a.p o3a.n (by decide) g e h) (fun h => rows_apart o3a.h o3a.n (by decide) g e h))⟩
  obtain ⟨K2, hK2⟩ : ∃ K : Nat, K1 + tw.length + th.length = K := ⟨_, rfl⟩
  have u2 : 0 < K2 ∧ K2 ≤ 22000000 := by omega
  rw [hK2] at HC HKd ⊢
  have HM3 := hide (markTxC_any (.slice at_ ts.length ct) ts K2 base w3 o3.t (by omega) (by omega) (by omega))
  have HO3 := hide o3
  have HT3 := hide (HT2.out.trans (O3.mono (T := fun g => (⟨.slice aq qw.length cq, .slice aw tw.length cw, .slice ah th.length ch, .slice at_ ts.length ct, .slice an nx.length cn⟩ : Bv).has g) (fun g h => h.elim (fun h => .inr (.inl h)) (fun h => .inr (.inr (.inl h))))))
  have HK3 := hide k3
  clear x7 x8 x9 HO2 HM2 O3 ow3 oh3 o3 o3a hK2 HK2 HT2
  have x10 := k3.cell 10
  simp only [List.getElem?_cons_zero, List.getElem?_cons_succ] at x10
  clear k3
  go_wp2_with fail
  refine HM3.out.mono ?_
  rintro e w4 ⟨rfl, ot4, O4⟩
  have o4 := HO3.out.putt _ ot4 O4
  have k4 := HK3.out.othB O4 (fun e => Hbx.out _ (.inr (.inr (.inr (.inl e)))) rfl)
  obtain ⟨K3, hK3⟩ : ∃ K : Nat, K2 + 5 * ts.length = K := ⟨_, rfl⟩
  have u3 : 0 < K3 ∧ K3 ≤ 42000000 := by omega
  rw [hK3] at HC HKd ⊢
  have HM4 := hide (markValS_any (.slice an nx.length cn) nx K3 base w4 o4.n (by omega) (by omega) (by omega))
  have HO4 := hide o4
  have HT4 := hide (HT3.out.trans (O4.mono (T := fun g => (⟨.slice aq qw.length cq, .slice aw tw.length cw, .slice ah th.length ch, .slice at_ ts.length ct, .slice an nx.length cn⟩ : Bv).has g) (fun g h => .inr (.inr (.inr (.inl h))))))
  clear x10 HO3 HM3 O4 ot4 o4 hK3 HK3 HT3
  have x12 := k4.cell 12
  simp only [List.getElem?_cons_zero, List.getElem?_cons_succ] at x12
  clear k4
  go_wp2_with fail
  refine HM4.out.mono ?_
  rintro e w5 ⟨rfl, on5, hg5⟩
  have HO5 : Hid (OwnK base w5 KK ⟨.slice aq qw.length cq, .slice aw tw.length cw, .slice ah th.length ch, .slice at_ ts.length ct, .slice an nx.length cn⟩) := hide (by rw [HKd.out]; exact HO4.out.putn _ on5 (Oth.of_grown hg5 (fun g h => h)))
  have HT5 := hide ((Oth.of_below HB1.out).trans (HT4.out.trans (Oth.of_grown (S := fun g => (⟨.slice aq qw.length cq, .slice aw tw.length cw, .slice ah th.length ch, .slice at_ ts.length ct, .slice an nx.length cn⟩ : Bv).has g) hg5 (fun g h => .inr (.inr (.inr (.inr h)))))))
  have HC2 : Hid (((K3 + 2 * nx.length : Nat) : Int) = ((KC : Nat) : Int)) := hide (by rw [HC.out])
  clear on5 hg5 HO4 HT4 HM4 HC
  generalize K3 + 2 * nx.length = K4 at HC2
  go_wp2
  go_ret
  exact ⟨ret_int HC2.out, HO5.out, HT5.out⟩
end Go.Proofs.Ytlfoaobgdipdlab
