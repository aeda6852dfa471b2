/- A block marked, with what its lists are then; a block held against its marks. -/
import Derived.Test.YtbjeonnaannofaaBkPuts
namespace Go.Proofs.Ytbjeonnaannofaa
open Go.RowKit
set_option linter.unusedVariables false

/-- A block whose lists are marked, the marks beginning with k; how many there are. -/
def mkK (k : Nat) (b : Bk) : Bk :=
  ⟨b.id, b.ep, b.rd, b.md, b.qr, b.qb, mkS k b.qw.length, b.tr, mkS (k + b.qw.length) b.tw.length, mkI (k + b.qw.length + b.tw.length) b.th.length, mkT (k + b.qw.length + b.tw.length + b.th.length) b.ts.length, b.en, mkV (k + b.qw.length + b.tw.length + b.th.length + 5 * b.ts.length) b.nx.length, b.rt⟩
def mkC (k : Nat) (b : Bk) : Nat := k + b.qw.length + b.tw.length + b.th.length + 5 * b.ts.length + 2 * b.nx.length
theorem Blk.othB {S : Nat → Prop} {W V : World} {B : Nat} {t : TypeId} {cs : List Value} (h : Blk W B t cs) (hO : Oth S W V) (hn : ¬ S B) : Blk V B t cs := (hO.block B h.lt hn).trans h
set_option maxRecDepth 20000 in
set_option maxHeartbeats 4000000 in
theorem markBlockC_any (b : Bk) (v : Bv) (k base : Nat) (w : World) (ho : OwnK base w b v) (hin : ∀ g, v.q.ownBlock = some g → v.w.ownBlock ≠ some g) (l1 : b.qw.length ≤ 4000000) (l2 : b.tw.length ≤ 4000000) (l3 : b.th.length ≤ 4000000) (l4 : b.ts.length ≤ 4000000) (l5 : b.nx.length ≤ 4000000) (hk : k ≤ 1000) (hk0 : 0 < k) :
    Calls Try.prog 29 #[bkV b v, .int .i64 (k : Int)] w fun e w' => e = .returned (.int .i64 ((mkC k b : Nat) : Int)) ∧ OwnK base w' (mkK k b) v ∧ Oth (fun g => v.has g) w w' := by
  have HC : Hid (mkC k b = k + b.qw.length + b.tw.length + b.th.length + 5 * b.ts.length + 2 * b.nx.length) := hide rfl
  have HKd : Hid (mkK k b = ⟨b.id, b.ep, b.rd, b.md, b.qr, b.qb, mkS k b.qw.length, b.tr, mkS (k + b.qw.length) b.tw.length, mkI (k + b.qw.length + b.tw.length) b.th.length, mkT (k + b.qw.length + b.tw.length + b.th.length) b.ts.length, b.en, mkV (k + b.qw.length + b.tw.length + b.th.length + 5 * b.ts.length) b.nx.length, b.rt⟩) := hide rfl
  generalize mkC k b = KC at HC ⊢
  generalize mkK k b = KK at HKd ⊢
  have Hlt : Hid (∀ g, v.has g → g < w.heap.size) := hide (fun g hg => (ho.in9 g hg).2)
  obtain ⟨id, ep, rd, md, qr, qb, qw, tr, tw, th, ts, en, nx, rt⟩ := b
  obtain ⟨vq, vw, vh, vt, vn⟩ := v
  have oq := ho.q
  have ow := ho.p
  have oh := ho.h
  have ot := ho.t
  have on := ho.n
  simp only [bkV] at *
  obtain ⟨aq, cq, rfl⟩ := oq.rd.shape
  obtain ⟨aw, cw, rfl⟩ := ow.rd.shape
  obtain ⟨ah, ch, rfl⟩ := oh.rd.shape
  obtain ⟨at_, ct, rfl⟩ := ot.rd.shape
  obtain ⟨an, cn, rfl⟩ := on.rd.shape
  clear oq ow oh ot on
  obtain ⟨w1, hw1⟩ : ∃ x, w.alloc (.cells #[.int .i64 id, .int .i64 ep, .int .i64 rd, .string md, .int .i64 qr, .int .i64 qb, .slice aq qw.length cq, .int .i64 tr, .slice aw tw.length cw, .slice ah th.length ch, .slice at_ ts.length ct, .bool en, .slice an nx.length cn, .string rt] 37) = x := ⟨_, rfl⟩
  have b1 : Below w.heap.size w w1 := by rw [← hw1]; exact (Below.refl _ w).alloc (Nat.le_refl _) _
  have k1 : Blk w1 w.heap.size 37 [.int .i64 id, .int .i64 ep, .int .i64 rd, .string md, .int .i64 qr, .int .i64 qb, .slice aq qw.length cq, .int .i64 tr, .slice aw tw.length cw, .slice ah th.length ch, .slice at_ ts.length ct, .bool en, .slice an nx.length cn, .string rt] := by rw [← hw1]; exact Blk.new w _ _
  have o1 := ho.below9 b1 (Nat.le_refl _)
  have Hin := hide hin
  obtain ⟨V9, hV9⟩ : ∃ V9 : Bv, V9 = ⟨.slice aq qw.length cq, .slice aw tw.length cw, .slice ah th.length ch, .slice at_ ts.length ct, .slice an nx.length cn⟩ := ⟨_, rfl⟩
  have Hbx : Hid (∀ g, (⟨.slice aq qw.length cq, .slice aw tw.length cw, .slice ah th.length ch, .slice at_ ts.length ct, .slice an nx.length cn⟩ : Bv).has g → g ≠ w.heap.size) := hide (fun g hg => by have := Hlt.out g hg; omega)
  have HM1 := hide (markQc_any qr qb (.slice aq qw.length cq) qw k base w1 o1.q (by omega) (by omega) hk0)
  have HO1 := hide o1
  have HB1 := hide b1
  have HK1 := hide k1
  have x4 := k1.cell 4
  have x5 := k1.cell 5
  have x6 := k1.cell 6
  simp only [List.getElem?_cons_zero, List.getElem?_cons_succ] at x4 x5 x6
  simp only [qcV] at HM1
  clear ho o1 b1 k1 hin hV9
  go_enter Try.func29, Try.ntmps29
  go_wp2_with fail
  refine HM1.out.mono ?_
  rintro e w2 ⟨rfl, oq2, O2⟩
  have o2 := HO1.out.putq Hin.out _ oq2 O2
  have k2 := HK1.out.othB O2 (fun e => Hbx.out _ (.inl e) rfl)
  obtain ⟨K1, hK1⟩ : ∃ K : Nat, k + qw.length = K := ⟨_, rfl⟩
  have u1 : 0 < K1 ∧ K1 ≤ 5000000 := by omega
  rw [hK1] at HC HKd ⊢
  have HM2 := hide (markTc_any tr (.slice aw tw.length cw) (.slice ah th.length ch) tw th K1 base base w2 o2.p o2.h (by omega) (by omega) (by omega) (by omega))
  have HO2 := hide o2
  have HT2 := hide (O2.mono (T := fun g => (⟨.slice aq qw.length cq, .slice aw tw.length cw, .slice ah th.length ch, .slice at_ ts.length ct, .slice an nx.length cn⟩ : Bv).has g) (fun g h => .inl h))
  have HK2 := hide k2
  clear x4 x5 x6 hw1 HO1 HM1 O2 oq2 o2 hK1 HK1
  have x7 := k2.cell 7
  have x8 := k2.cell 8
  have x9 := k2.cell 9
  simp only [List.getElem?_cons_zero, List.getElem?_cons_succ] at x7 x8 x9
  simp only [tcV] at HM2
  clear k2
  go_wp2_with fail
  refine HM2.out.mono ?_
  rintro e w3 ⟨rfl, ow3, oh3, O3⟩
  have o3a := HO2.out
  have k3 := HK2.out.othB O3 (fun e => e.elim (fun e => Hbx.out _ (.inr (.inl e)) rfl) (fun e => Hbx.out _ (.inr (.inr (.inl e))) rfl))
  have o3 : OwnK base w3 ⟨id, ep, rd, md, qr, qb, mkS k qw.length, tr, mkS K1 tw.length, mkI (K1 + tw.length) th.length, ts, en, nx, rt⟩ ⟨.slice aq qw.length cq, .slice aw tw.length cw, .slice ah th.length ch, .slice at_ ts.length ct, .slice an nx.length cn⟩ :=
    ⟨row_oth o3a.q O3 (fun g e h => h.elim (fun h => Hin.out g e h) (fun h => rows_apart o3a.h o3a.q (by decide) g e h)), ow3, oh3, row_oth o3a.t O3 (fun g e h => h.elim (fun h => rows_apart o3a.p o3a.t (by decide) g e h) (fun h => rows_apart o3a.h o3a.t (by decide) g e h)), row_oth o3a.n O3 (fun g e h => h.elim (fun h => rows_apart o3a.p o3a.n (by decide) g e h) (fun h => rows_apart o3a.h o3a.n (by decide) g e h))⟩
  obtain ⟨K2, hK2⟩ : ∃ K : Nat, K1 + tw.length + th.length = K := ⟨_, rfl⟩
  have u2 : 0 < K2 ∧ K2 ≤ 13000000 := by omega
  rw [hK2] at HC HKd ⊢
  have HM3 := hide (markTxC_any (.slice at_ ts.length ct) ts K2 base w3 o3.t (by omega) (by omega) (by omega))
  have HO3 := hide o3
  have HT3 := hide (HT2.out.trans (O3.mono (T := fun g => (⟨.slice aq qw.length cq, .slice aw tw.length cw, .slice ah th.length ch, .slice at_ ts.length ct, .slice an nx.length cn⟩ : Bv).has g) (fun g h => h.elim (fun h => .inr (.inl h)) (fun h => .inr (.inr (.inl h))))))
  have HK3 := hide k3
  clear x7 x8 x9 HO2 HM2 O3 ow3 oh3 o3 o3a hK2 HK2 HT2
  have x10 := k3.cell 10
  simp only [List.getElem?_cons_zero, List.getElem?_cons_succ] at x10
  clear k3
  go_wp2_with fail
  refine HM3.out.mono ?_
  rintro e w4 ⟨rfl, ot4, O4⟩
  have o4 := HO3.out.putt _ ot4 O4
  have k4 := HK3.out.othB O4 (fun e => Hbx.out _ (.inr (.inr (.inr (.inl e)))) rfl)
  obtain ⟨K3, hK3⟩ : ∃ K : Nat, K2 + 5 * ts.length = K := ⟨_, rfl⟩
  have u3 : 0 < K3 ∧ K3 ≤ 33000000 := by omega
  rw [hK3] at HC HKd ⊢
  have HM4 := hide (markValS_any (.slice an nx.length cn) nx K3 base w4 o4.n (by omega) (by omega) (by omega))
  have HO4 := hide o4
  have HT4 := hide (HT3.out.trans (O4.mono (T := fun g => (⟨.slice aq qw.length cq, .slice aw tw.length cw, .slice ah th.length ch, .slice at_ ts.length ct, .slice an nx.length cn⟩ : Bv).has g) (fun g h => .inr (.inr (.inr (.inl h))))))
  clear x10 HO3 HM3 O4 ot4 o4 hK3 HK3 HT3
  have x12 := k4.cell 12
  simp only [List.getElem?_cons_zero, List.getElem?_cons_succ] at x12
  clear k4
  go_wp2_with fail
  refine HM4.out.mono ?_
  rintro e w5 ⟨rfl, on5, hg5⟩
  have HO5 : Hid (OwnK base w5 KK ⟨.slice aq qw.length cq, .slice aw tw.length cw, .slice ah th.length ch, .slice at_ ts.length ct, .slice an nx.length cn⟩) := hide (by rw [HKd.out]; exact HO4.out.putn _ on5 (Oth.of_grown hg5 (fun g h => h)))
  have HT5 := hide ((Oth.of_below HB1.out).trans (HT4.out.trans (Oth.of_grown (S := fun g => (⟨.slice aq qw.length cq, .slice aw tw.length cw, .slice ah th.length ch, .slice at_ ts.length ct, .slice an nx.length cn⟩ : Bv).has g) hg5 (fun g h => .inr (.inr (.inr (.inr h)))))))
  have HC2 : Hid (((K3 + 2 * nx.length : Nat) : Int) = ((KC : Nat) : Int)) := hide (by rw [HC.out])
  clear on5 hg5 HO4 HT4 HM4 HC
  generalize K3 + 2 * nx.length = K4 at HC2
  go_wp2
  go_ret
  exact ⟨ret_int HC2.out, HO5.out, HT5.out⟩
set_option maxRecDepth 20000 in
set_option maxHeartbeats 1000000 in
theorem heldQc_any (r b : Int) (v : Value) (k n : Nat) (w : World) (hr : RdS w v (mkS k n)) (hl : n ≤ 4000000) (hk : k ≤ 50000000) (hk0 : 0 < k) :
    Calls Try.prog 73 #[qcV r b v, .int .i64 (k : Int)] w fun e w' => e = .returned (.int .i64 ((k + n : Nat) : Int)) ∧ Below w.heap.size w w' := by
  obtain ⟨a, c, rfl⟩ := hr.shape
  rw [mkS_len]
  rw [mkS_len] at hr
  simp only [qcV]
  obtain ⟨w1, hw1⟩ : ∃ x, w.alloc (.cells #[.int .i64 r, .int .i64 b, .slice a n c] 31) = x := ⟨_, rfl⟩
  have b1 : Below w.heap.size w w1 := by rw [← hw1]; exact (Below.refl _ w).alloc (Nat.le_refl _) _
  have k1 : Blk w1 w.heap.size 31 [.int .i64 r, .int .i64 b, .slice a n c] := by rw [← hw1]; exact Blk.new w _ _
  have HM := hide (heldStringS_any (.slice a n c) k n w1 (hr.below b1 (Nat.le_refl _)) (by omega) (by omega) hk0)
  have x2 := k1.cell 2
  simp only [List.getElem?_cons_zero, List.getElem?_cons_succ] at x2
  have HB := hide b1
  obtain ⟨K, hK⟩ : ∃ K : Nat, k + n = K := ⟨_, rfl⟩
  rw [hK] at HM ⊢
  clear hr k1 b1 hK
  have hnn : ¬ (K : Int) < 0 := by omega
  go_enter Try.func73, Try.ntmps73
  go_wp2_with fail
  refine HM.out.mono ?_
  rintro e w2 ⟨rfl, hb2⟩
  clear x2 hw1
  go_wp2
  go_ret
  exact ⟨rfl, HB.out.trans (hb2.mono HB.out.size)⟩
set_option maxRecDepth 20000 in
set_option maxHeartbeats 1000000 in
theorem heldTc_any (r : Int) (v u : Value) (k n m : Nat) (w : World) (hr : RdS w v (mkS k n)) (hi : RdI w u (mkI (k + n) m)) (hl : n ≤ 4000000) (hm : m ≤ 4000000) (hk : k ≤ 50000000) (hk0 : 0 < k) :
    Calls Try.prog 74 #[tcV r v u, .int .i64 (k : Int)] w fun e w' => e = .returned (.int .i64 ((k + n + m : Nat) : Int)) ∧ Below w.heap.size w w' := by
  obtain ⟨a, c, rfl⟩ := hr.shape
  obtain ⟨a2, c2, rfl⟩ := hi.shape
  rw [mkS_len, mkI_len]
  rw [mkS_len] at hr
  rw [mkI_len] at hi
  simp only [tcV]
  obtain ⟨w1, hw1⟩ : ∃ x, w.alloc (.cells #[.int .i64 r, .slice a n c, .slice a2 m c2] 33) = x := ⟨_, rfl⟩
  have b1 : Below w.heap.size w w1 := by rw [← hw1]; exact (Below.refl _ w).alloc (Nat.le_refl _) _
  have k1 : Blk w1 w.heap.size 33 [.int .i64 r, .slice a n c, .slice a2 m c2] := by rw [← hw1]; exact Blk.new w _ _
  have HM := hide (heldStringS_any (.slice a n c) k n w1 (hr.below b1 (Nat.le_refl _)) (by omega) (by omega) hk0)
  have x1 := k1.cell 1
  simp only [List.getElem?_cons_zero, List.getElem?_cons_succ] at x1
  have HB := hide b1
  have HK := hide k1
  have Hi := hide hi
  obtain ⟨K, hK⟩ : ∃ K : Nat, k + n = K := ⟨_, rfl⟩
  have hK0 : 0 < K ∧ K ≤ 60000000 := by omega
  rw [hK] at HM Hi ⊢
  clear hr hi k1 b1 hK
  have hnn : ¬ (K : Int) < 0 := by omega
  obtain ⟨K2, hK2⟩ : ∃ K2 : Nat, K + m = K2 := ⟨_, rfl⟩
  have HK2 := hide hK2
  have hnn2 : ¬ (K2 : Int) < 0 := by omega
  rw [hK2]
  clear hK2
  go_enter Try.func74, Try.ntmps74
  go_wp2_with fail
  refine HM.out.mono ?_
  rintro e w2 ⟨rfl, hb2⟩
  have k2 := HK.out.below hb2 HK.out.lt
  have x2 := k2.cell 2
  simp only [List.getElem?_cons_zero, List.getElem?_cons_succ] at x2
  have hB2 := HB.out.trans (hb2.mono HB.out.size)
  have HM2 := hide (heldIntS_any (.slice a2 m c2) K m w2 (Hi.out.below hB2 (Nat.le_refl _)) (by omega) (by omega) (by omega))
  clear x1 hw1 k2 hb2
  rw [HK2.out] at HM2
  go_wp2_with fail
  refine HM2.out.mono ?_
  rintro e w3 ⟨rfl, hb3⟩
  go_wp2
  go_ret
  exact ⟨rfl, hB2.trans (hb3.mono hB2.size)⟩
set_option maxRecDepth 20000 in
set_option maxHeartbeats 2000000 in
theorem heldBlock_any (b : Bk) (v : Bv) (k : Nat) (w : World) (hr : RdK w (mkK k b) v) (l1 : b.qw.length ≤ 4000000) (l2 : b.tw.length ≤ 4000000) (l3 : b.th.length ≤ 4000000) (l4 : b.ts.length ≤ 4000000) (l5 : b.nx.length ≤ 4000000) (hk : k ≤ 1000) (hk0 : 0 < k) :
    Calls Try.prog 30 #[bkV b v, .int .i64 (k : Int)] w fun e w' => e = .returned (.int .i64 ((mkC k b : Nat) : Int)) ∧ Below w.heap.size w w' := by
  have HC : Hid (mkC k b = k + b.qw.length + b.tw.length + b.th.length + 5 * b.ts.length + 2 * b.nx.length) := hide rfl
  generalize mkC k b = KC at HC ⊢
  unfold mkK at hr
  obtain ⟨id, ep, rd, md, qr, qb, qw, tr, tw, th, ts, en, nx, rt⟩ := b
  obtain ⟨vq, vw, vh, vt, vn⟩ := v
  obtain ⟨hq, hw, hh, ht, hn⟩ := hr
  simp only [bkV] at *
  obtain ⟨aq, cq, rfl⟩ := hq.shape
  obtain ⟨aw, cw, rfl⟩ := hw.shape
  obtain ⟨ah, ch, rfl⟩ := hh.shape
  obtain ⟨at_, ct, rfl⟩ := ht.shape
  obtain ⟨an, cn, rfl⟩ := hn.shape
  rw [mkS_len] at hq hw
  rw [mkI_len] at hh
  rw [mkT_len] at ht
  rw [mkV_len] at hn
  simp only [mkS_len, mkI_len, mkT_len, mkV_len]
  obtain ⟨w1, hw1⟩ : ∃ x, w.alloc (.cells #[.int .i64 id, .int .i64 ep, .int .i64 rd, .string md, .int .i64 qr, .int .i64 qb, .slice aq qw.length cq, .int .i64 tr, .slice aw tw.length cw, .slice ah th.length ch, .slice at_ ts.length ct, .bool en, .slice an nx.length cn, .string rt] 37) = x := ⟨_, rfl⟩
  have b1 : Below w.heap.size w w1 := by rw [← hw1]; exact (Below.refl _ w).alloc (Nat.le_refl _) _
  have k1 : Blk w1 w.heap.size 37 [.int .i64 id, .int .i64 ep, .int .i64 rd, .string md, .int .i64 qr, .int .i64 qb, .slice aq qw.length cq, .int .i64 tr, .slice aw tw.length cw, .slice ah th.length ch, .slice at_ ts.length ct, .bool en, .slice an nx.length cn, .string rt] := by rw [← hw1]; exact Blk.new w _ _
  obtain ⟨K1, hK1⟩ : ∃ K : Nat, k + qw.length = K := ⟨_, rfl⟩
  obtain ⟨K2, hK2⟩ : ∃ K : Nat, K1 + tw.length + th.length = K := ⟨_, rfl⟩
  obtain ⟨K3, hK3⟩ : ∃ K : Nat, K2 + 5 * ts.length = K := ⟨_, rfl⟩
  have u1 : 0 < K1 ∧ K1 ≤ 5000000 := by omega
  have u2 : 0 < K2 ∧ K2 ≤ 13000000 := by omega
  have u3 : 0 < K3 ∧ K3 ≤ 33000000 := by omega
  rw [hK1] at hw hh ht hn
  rw [hK2] at ht hn
  rw [hK3] at hn
  have HM1 := hide (heldQc_any qr qb (.slice aq qw.length cq) k qw.length w1 (hq.below b1 (Nat.le_refl _)) (by omega) (by omega) hk0)
  have HM2 := hide (fun V (hV : Below w.heap.size w V) => heldTc_any tr (.slice aw tw.length cw) (.slice ah th.length ch) K1 tw.length th.length V (hw.below hV (Nat.le_refl _)) (hh.below hV (Nat.le_refl _)) (by omega) (by omega) (by omega) (by omega))
  have HM3 := hide (fun V (hV : Below w.heap.size w V) => heldTxS_any (.slice at_ ts.length ct) K2 ts.length V (ht.below hV (Nat.le_refl _)) (by omega) (by omega) (by omega))
  have HM4 := hide (fun V (hV : Below w.heap.size w V) => heldValS_any (.slice an nx.length cn) K3 nx.length V (hn.below hV (Nat.le_refl _)) (by omega) (by omega) (by omega))
  have HC2 : Hid (((K3 + 2 * nx.length : Nat) : Int) = ((KC : Nat) : Int)) := hide (by rw [HC.out, hK1, hK2, hK3])
  rw [hK1] at HM1
  rw [hK2] at HM2
  rw [hK3] at HM3
  have n1 : ¬ (K1 : Int) < 0 := by omega
  have n2 : ¬ (K2 : Int) < 0 := by omega
  have n3 : ¬ (K3 : Int) < 0 := by omega
  have n4 : ¬ ((K3 + 2 * nx.length : Nat) : Int) < 0 := by omega
  generalize K3 + 2 * nx.length = K4 at HM4 HC2 n4
  have HK := hide k1
  have HB := hide b1
  have x4 := k1.cell 4
  have x5 := k1.cell 5
  have x6 := k1.cell 6
  simp only [List.getElem?_cons_zero, List.getElem?_cons_succ] at x4 x5 x6
  simp only [qcV] at HM1
  simp only [tcV] at HM2
  clear hq hw hh ht hn k1 b1 hK1 hK2 hK3 HC
  go_enter Try.func30, Try.ntmps30
  go_wp2_with fail
  refine HM1.out.mono ?_
  rintro e w2 ⟨rfl, hb2⟩
  have k2 := HK.out.below hb2 HK.out.lt
  have hB2 := HB.out.trans (hb2.mono HB.out.size)
  clear x4 x5 x6 hw1 hb2 HM1
  have x7 := k2.cell 7
  have x8 := k2.cell 8
  have x9 := k2.cell 9
  simp only [List.getElem?_cons_zero, List.getElem?_cons_succ] at x7 x8 x9
  go_wp2_with fail
  refine (HM2.out w2 hB2).mono ?_
  rintro e w3 ⟨rfl, hb3⟩
  have k3 := k2.below hb3 k2.lt
  have hB3 := hB2.trans (hb3.mono hB2.size)
  clear x7 x8 x9 hb3 k2
  have x10 := k3.cell 10
  simp only [List.getElem?_cons_zero, List.getElem?_cons_succ] at x10
  go_wp2_with fail
  refine (HM3.out w3 hB3).mono ?_
  rintro e w4 ⟨rfl, hb4⟩
  have k4 := k3.below hb4 k3.lt
  have hB4 := hB3.trans (hb4.mono hB3.size)
  clear x10 hb4 k3
  have x12 := k4.cell 12
  simp only [List.getElem?_cons_zero, List.getElem?_cons_succ] at x12
  go_wp2_with fail
  refine (HM4.out w4 hB4).mono ?_
  rintro e w5 ⟨rfl, hb5⟩
  have hB5 := hB4.trans (hb5.mono hB4.size)
  clear x12 hb5 k4
  go_wp2
  go_ret
  exact ⟨ret_int HC2.out, hB5⟩
end Go.Proofs.Ytbjeonnaannofaa
