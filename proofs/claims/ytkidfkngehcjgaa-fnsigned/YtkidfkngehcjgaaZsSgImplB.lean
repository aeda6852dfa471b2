/- The landed code's signatures: of a vote and a leaving, of certificates, of a word. -/
import Derived.Test.YtkidfkngehcjgaaZsSgImpl
import Derived.Deep.Cut
namespace Go.Proofs.Ytkidfkngehcjgaa
open Go.RowKit
set_option linter.unusedVariables false
set_option linter.unusedSimpArgs false

theorem Blk.setS {W : World} {B : Nat} {t : TypeId} {cs : List Value} (h : Blk W B t cs) (j : Nat) (u : Value) : Blk (W.setCell ⟨B, j, none⟩ u) B t (cs.set j u) := by
  have e := heap_setCell_same W B j cs.toArray t u h
  rw [List.setIfInBounds_toArray] at e
  exact e
theorem loadS_mg {ops : Array Oper} {rest : List Oper} {op : Oper} {a : Act} {w : World} {Q : Exit → Act → World → Prop} (x : Operand) (ho : op.op = .load 37 x) (B : Nat) (hx : a.eval x = .pointer (some ⟨B, 0, none⟩)) {c0 c1 c2 c3 c4 c5 c6 c7 c8 c9 c10 c11 c12 c13 c14 c15 M : Value} (h : Blk w B 37 [c0, c1, c2, c3, c4, c5, c6, c7, c8, c9, c10, c11, c12, c13, c14, c15]) (hM : Value.agg #[c0, c1, c2, c3, c4, c5, c6, c7, c8, c9, c10, c11, c12, c13, c14, c15] = M)
    (hw : Region.wanted op (yielded ops a.tmps) = true) (hK : wpList Try.prog ops Q rest (a.put op.dst M) w) : wpList Try.prog ops Q (op :: rest) a w := by
  subst hM
  unfold wpList
  rw [if_pos hw]
  exact .inl (wp_load_mid 37 x ho B 0 hx [c0, c1, c2, c3, c4, c5, c6, c7, c8, c9, c10, c11, c12, c13, c14, c15] _ (fun j v hv => by rw [Nat.zero_add]; exact (h.cell j).trans hv) Try.underlying37 rfl (by kernel_rfl) hK)
set_option maxRecDepth 20000 in
theorem implVoteSig_any (ep r k : Int) (s : ByteArray) (w : World) : Calls Try.prog 16 #[.int .i64 ep, .agg #[.int .i64 r, .int .i64 k, .string s]] w fun e w' => e = .returned (.agg #[.int .i64 1, .int .i64 ep, .int .i64 r, .int .i64 k, .string s]) ∧ Below w.heap.size w w' := by
  have hb : Below w.heap.size w (w.alloc (.cells #[.int .i64 r, .int .i64 k, .string s] 28)) := (Below.refl _ w).alloc (Nat.le_refl _) _
  go_enter Try.func16, Try.ntmps16
  go_wp2
  refine bodyPost_ret (v := .agg #[.int .i64 1, .int .i64 ep, .int .i64 r, .int .i64 k, .string s]) (by simp [results, Try.f16, go_sem]) rfl ?_
  exact ⟨rfl, hb.alloc (by simp) _⟩
set_option maxRecDepth 20000 in
set_option maxHeartbeats 2000000 in
theorem implGoneSigs_any (m : Mg) (v : Mv) (w : World) (hr : RdM w m v) :
    Calls Try.prog 17 #[mgV m v] w fun e w' => ∃ v', e = .returned v' ∧ OwnSg 44 w.heap.size w' v' (if sgB m = true then [(2, m.ep, m.gr, m.gh, m.gw)] else []) ∧ Below w.heap.size w w' := by
  have HG := hide (fun V (hV : Below w.heap.size w V) => implSaysGone_any m v V (hr.below hV (Nat.le_refl _)))
  generalize sgB m = X at HG ⊢
  obtain ⟨kd, tn, ep, bs, vr, vb, vw, gr, gh, gw, qr, qb, qw, tr, tw, th⟩ := m
  obtain ⟨xb, xq, xw, xh⟩ := v
  obtain ⟨hb, hq, hw, hh⟩ := hr
  simp only at *
  obtain ⟨ab, cb, rfl⟩ := hb.shape
  obtain ⟨aq, cq, rfl⟩ := hq.shape
  obtain ⟨aw, cw, rfl⟩ := hw.shape
  obtain ⟨ah, ch, rfl⟩ := hh.shape
  simp only [mgV] at *
  obtain ⟨w1, hw1⟩ : ∃ x, w.alloc (.cells #[.int .i64 kd, .string tn, .int .i64 ep, .slice ab bs.length cb, .int .i64 vr, .int .i64 vb, .string vw, .int .i64 gr, .int .i64 gh, .string gw, .int .i64 qr, .int .i64 qb, .slice aq qw.length cq, .int .i64 tr, .slice aw tw.length cw, .slice ah th.length ch] 37) = x := ⟨_, rfl⟩
  have b1 : Below w.heap.size w w1 := by rw [← hw1]; exact (Below.refl _ w).alloc (Nat.le_refl _) _
  have s1 : w1.heap.size = w.heap.size + 1 := by rw [← hw1]; simp
  have k1 : Blk w1 w.heap.size 37 [.int .i64 kd, .string tn, .int .i64 ep, .slice ab bs.length cb, .int .i64 vr, .int .i64 vb, .string vw, .int .i64 gr, .int .i64 gh, .string gw, .int .i64 qr, .int .i64 qb, .slice aq qw.length cq, .int .i64 tr, .slice aw tw.length cw, .slice ah th.length ch] := by rw [← hw1]; exact Blk.new w _ _
  have HB1 := hide b1
  have K1 := hide k1
  clear hb hq hw hh b1 k1
  go_enter Try.func17, Try.ntmps17
  go_upto_region 1 with fail
  obtain ⟨M, hM⟩ : ∃ M, Value.agg #[.int .i64 kd, .string tn, .int .i64 ep, .slice ab bs.length cb, .int .i64 vr, .int .i64 vb, .string vw, .int .i64 gr, .int .i64 gh, .string gw, .int .i64 qr, .int .i64 qb, .slice aq qw.length cq, .int .i64 tr, .slice aw tw.length cw, .slice ah th.length ch] = M := ⟨_, rfl⟩
  rw [hM] at HG ⊢
  go_wp2_with (first | (refine loadS_mg _ rfl w.heap.size rfl K1.out hM (by rfl) ?_) | fail)
  refine (HG.out w1 HB1.out).mono ?_
  rintro e w2 ⟨rfl, hb2⟩
  have B2 := hide (HB1.out.trans (hb2.mono HB1.out.size))
  have k2 := K1.out.below hb2 K1.out.lt
  have x2 := k2.cell 2
  have x7 := k2.cell 7
  have x8 := k2.cell 8
  have x9 := k2.cell 9
  simp only [List.getElem?_cons_zero, List.getElem?_cons_succ] at x2 x7 x8 x9
  clear HG k2
  cases X
  · go_wp2
    go_ret
    exact ⟨_, rfl, own_noneSg _ _, B2.out⟩
  · go_wp2
    go_ret
    refine ⟨_, rfl, ?_, B2.out.alloc B2.out.size _⟩
    exact World.ownsRow_lit w2 #[.int .i64 2, .int .i64 ep, .int .i64 gr, .int .i64 gh, .string gw] 1 B2.out.size (by unfold maxLen; omega) (by simp)
set_option maxRecDepth 20000 in
set_option maxHeartbeats 2000000 in
theorem implQcSigs_any (vs : Value) (ep r k : Int) (ws : List ByteArray) (w : World) (hol : ws.length ≤ 50000000) (hr : RdS w vs ws) :
    Calls Try.prog 18 #[.int .i64 ep, .agg #[.int .i64 r, .int .i64 k, vs]] w fun e w' => ∃ v', e = .returned v' ∧ OwnSg 44 w.heap.size w' v' (qcS ep r k ws) ∧ Below w.heap.size w w' := by
  obtain ⟨as_, cs, rfl⟩ := hr.shape
  obtain ⟨w1, hw1⟩ : ∃ w1, w.alloc (.cells #[.int .i64 r, .int .i64 k, .slice as_ ws.length cs] 32) = w1 := ⟨_, rfl⟩
  have hb1 : Below w.heap.size w w1 := by rw [← hw1]; exact (Below.refl _ w).alloc (Nat.le_refl _) _
  have s1 : w1.heap.size = w.heap.size + 1 := by rw [← hw1]; simp
  have k1 : Blk w1 w.heap.size 32 [.int .i64 r, .int .i64 k, .slice as_ ws.length cs] := by rw [← hw1]; exact Blk.new w _ _
  have Hr := hide (fun V (hV : Below (w.heap.size + 1) w1 V) => (hr.below hb1 (Nat.le_refl _)).below hV (Nat.le_of_eq s1))
  have HC : Hid (∀ V, Below (w.heap.size + 1) w1 V → Blk V w.heap.size 32 [.int .i64 r, .int .i64 k, .slice as_ ws.length cs]) := hide (fun V hV => k1.below hV (by omega))
  have HB1 := hide hb1
  have x2 := k1.cell 2
  simp only [List.getElem?_cons_zero, List.getElem?_cons_succ] at x2
  clear hr hb1 k1
  go_enter Try.func18, Try.ntmps18
  go_wp2
  go_loopw [5, 11] (fun ov iv wr => ∃ (i : Nat), i ≤ ws.length ∧ iv = .int .i64 (i : Int) ∧ OwnSg 44 (w.heap.size + 1) wr ov (qcS ep r k (ws.take i)) ∧ Below (w.heap.size + 1) w1 wr) (fun _ iv _ => ws.length - (intOf iv).toNat)
  case atStart => exact ⟨0, Nat.zero_le _, rfl, own_noneSg _ _, Below.refl _ _⟩
  case round =>
    obtain ⟨i, hi, rfl, ho, hb⟩ := hrel
    have hlen := qcS_len ep r k (ws.take i)
    have htk : (ws.take i).length ≤ ws.length := by simp; omega
    have hwr := hb.size
    by_cases hlt : i < ws.length
    · have hli : (i : Int) < (ws.length : Int) := by omega
      obtain ⟨b, off, rfl, hc1, hc2, hbw, hat⟩ := (Hr.out wr hb).at hlt
      have x0 := (HC.out wr hb).cell 0
      have x1 := (HC.out wr hb).cell 1
      simp only [List.getElem?_cons_zero, List.getElem?_cons_succ] at x0 x1
      have Hsn := hide (qcS_snoc ep r k ws i hlt)
      generalize hnm : ws[i] = nm at hat Hsn
      generalize qcS ep r k (ws.take i) = S at ho hlen Hsn
      have Ho := hide ho
      have Hb := hide hb
      have hsl : S.length ≤ 50000000 := by omega
      clear ho hb hlen
      go_wp2_with fail
      refine (implVoteSig_any _ _ _ _ _).mono ?_
      rintro e w3 ⟨rfl, hb3⟩
      have o3 := hide (Ho.out.below hb3 (Nat.le_refl _))
      have hz3 := hb3.size
      have B3 := hide (Hb.out.trans (hb3.mono (by omega)))
      go_wp2_with (at_builtin; refine app_ownSig _ rfl _ _ rfl (w.heap.size + 1) _ w3.heap.size S (1, ep, r, k, nm) rfl rfl (o3.out.alloc _) (Blk.newR w3 _ (sgC (1, ep, r, k, nm)) _ rfl) (by omega) (by simp; omega) ?_; intro v4 w4 ho4 hg4 _)
      have hb4 : Below (w.heap.size + 1) w3 w4 := ((Below.refl (w.heap.size + 1) w3).alloc (by omega) _).grown hg4 (by simp; omega) (fun g hg => o3.out.ge g hg)
      go_roundw
      case rel => exact ⟨i + 1, by omega, by go_num, by rw [Hsn.out]; exact ho4, B3.out.trans hb4⟩
      case measure => simp [intOf]; omega
    · have ei : i = ws.length := by omega
      subst ei
      rw [List.take_length] at ho
      have Ho := hide ho
      have Hb := hide hb
      clear ho hb hlen
      go_wp2
      go_ret
      exact ⟨_, rfl, Ho.out.monoSg (by omega), HB1.out.trans (Hb.out.mono (by omega))⟩
set_option maxRecDepth 20000 in
set_option maxHeartbeats 2000000 in
theorem implTcSigs_any (vs vh : Value) (ep r : Int) (ws : List ByteArray) (hs : List Int) (w : World) (hol : ws.length ≤ 50000000) (hwh : ws.length ≤ hs.length) (hr : RdS w vs ws) (hri : RdI w vh hs) :
    Calls Try.prog 19 #[.int .i64 ep, .agg #[.int .i64 r, vs, vh]] w fun e w' => ∃ v', e = .returned v' ∧ OwnSg 44 w.heap.size w' v' (tcS ep r ws hs) ∧ Below w.heap.size w w' := by
  obtain ⟨as_, cs, rfl⟩ := hr.shape
  obtain ⟨ah, ch, rfl⟩ := hri.shape
  obtain ⟨w1, hw1⟩ : ∃ w1, w.alloc (.cells #[.int .i64 r, .slice as_ ws.length cs, .slice ah hs.length ch] 35) = w1 := ⟨_, rfl⟩
  have hb1 : Below w.heap.size w w1 := by rw [← hw1]; exact (Below.refl _ w).alloc (Nat.le_refl _) _
  have s1 : w1.heap.size = w.heap.size + 1 := by rw [← hw1]; simp
  have k1 : Blk w1 w.heap.size 35 [.int .i64 r, .slice as_ ws.length cs, .slice ah hs.length ch] := by rw [← hw1]; exact Blk.new w _ _
  have Hr := hide (fun V (hV : Below (w.heap.size + 1) w1 V) => (hr.below hb1 (Nat.le_refl _)).below hV (Nat.le_of_eq s1))
  have Hri := hide (fun V (hV : Below (w.heap.size + 1) w1 V) => (hri.below hb1 (Nat.le_refl _)).below hV (Nat.le_of_eq s1))
  have HC : Hid (∀ V, Below (w.heap.size + 1) w1 V → Blk V w.heap.size 35 [.int .i64 r, .slice as_ ws.length cs, .slice ah hs.length ch]) := hide (fun V hV => k1.below hV (by omega))
  have HB1 := hide hb1
  have x1 := k1.cell 1
  simp only [List.getElem?_cons_zero, List.getElem?_cons_succ] at x1
  clear hr hri hb1 k1
  go_enter Try.func19, Try.ntmps19
  go_wp2
  go_loopw [5, 12] (fun ov iv wr => ∃ (i : Nat), i ≤ ws.length ∧ iv = .int .i64 (i : Int) ∧ OwnSg 44 (w.heap.size + 1) wr ov (tcS ep r (ws.take i) (hs.take i)) ∧ Below (w.heap.size + 1) w1 wr) (fun _ iv _ => ws.length - (intOf iv).toNat)
  case atStart => exact ⟨0, Nat.zero_le _, rfl, own_noneSg _ _, Below.refl _ _⟩
  case round =>
    obtain ⟨i, hi, rfl, ho, hb⟩ := hrel
    have hlen := tcS_len ep r (ws.take i) (hs.take i)
    have htk : (ws.take i).length ≤ ws.length := by simp; omega
    have hwr := hb.size
    by_cases hlt : i < ws.length
    · have hli : (i : Int) < (ws.length : Int) := by omega
      have hlh : i < hs.length := by omega
      have hlj : (i : Int) < (hs.length : Int) := by omega
      obtain ⟨b, off, rfl, hc1, hc2, hbw, hat⟩ := (Hr.out wr hb).at hlt
      obtain ⟨b2, off2, rfl, hd1, hd2, hbw2, hat2⟩ := (Hri.out wr hb).at hlh
      have x0 := (HC.out wr hb).cell 0
      simp only [List.getElem?_cons_zero, List.getElem?_cons_succ] at x0
      have Hsn := hide (tcS_snoc ep r ws hs i hlt hlh)
      generalize hnm : ws[i] = nm at hat Hsn
      generalize hnn : hs[i] = hn at hat2 Hsn
      generalize tcS ep r (ws.take i) (hs.take i) = S at ho hlen Hsn
      have Ho := hide ho
      have Hb := hide hb
      have hsl : S.length ≤ 50000000 := by omega
      obtain ⟨w2, hw2⟩ : ∃ x, wr.alloc (.cells #[.int .i64 2, .int .i64 ep, .int .i64 r, .int .i64 0, .string nm] 44) = x := ⟨_, rfl⟩
      have b2_ : Below wr.heap.size wr w2 := by rw [← hw2]; exact (Below.refl _ wr).alloc (Nat.le_refl _) _
      have k2 : Blk w2 wr.heap.size 44 [.int .i64 2, .int .i64 ep, .int .i64 r, .int .i64 0, .string nm] := by rw [← hw2]; exact Blk.new wr _ _
      have z2 : w2.heap.size = wr.heap.size + 1 := by rw [← hw2]; simp
      have B2 := hb.trans (b2_.mono (by omega))
      have x2 := (HC.out w2 B2).cell 2
      have hat2' := (b2_.cell (p := ⟨b2, off2 + i, none⟩) hbw2).trans hat2
      have y3 := k2.cell 3
      have y3f := k2.frozen 3
      simp only [List.getElem?_cons_zero, List.getElem?_cons_succ] at x2 y3
      obtain ⟨w3, hw3⟩ : ∃ x, w2.setCell ⟨wr.heap.size, 3, none⟩ (.int .i64 hn) = x := ⟨_, rfl⟩
      have k3 : Blk w3 wr.heap.size 44 [.int .i64 2, .int .i64 ep, .int .i64 r, .int .i64 hn, .string nm] := by rw [← hw3]; exact k2.setS 3 (.int .i64 hn)
      have z3 : w3.heap.size = w2.heap.size := by rw [← hw3]; simp [World.setCell]
      have b3_ : Below (w.heap.size + 1) w2 w3 := by rw [← hw3]; exact (Below.refl _ w2).setCell (p := ⟨wr.heap.size, 3, none⟩) (by dsimp only; omega) _
      have o3 : Hid (OwnSg 44 (w.heap.size + 1) w3 u5 S) := hide (by
        rw [← hw3]
        exact row_set (Ho.out.below b2_ (Nat.le_refl _)) wr.heap.size 3 (.int .i64 hn) (fun g hg e => by have := Ho.out.lt g hg; omega))
      have B3 := hide (B2.trans b3_)
      have c0 := k3.cell 0
      have c1 := k3.cell 1
      have c2 := k3.cell 2
      have c3 := k3.cell 3
      have c4 := k3.cell 4
      simp only [List.getElem?_cons_zero, List.getElem?_cons_succ] at c0 c1 c2 c3 c4
      clear ho hb hlen k2 B2 b2_ b3_ k3
      go_wp2_with (at_builtin; refine app_ownSig _ rfl _ _ rfl (w.heap.size + 1) _ (wr.heap.size + 1) S (2, ep, r, hn, nm) rfl rfl (o3.out.alloc _) (Blk.newR w3 _ (sgC (2, ep, r, hn, nm)) _ (by omega)) (by omega) (by simp; omega) ?_; intro v4 w4 ho4 hg4 _)
      have hb4 : Below (w.heap.size + 1) w3 w4 := ((Below.refl (w.heap.size + 1) w3).alloc (by omega) _).grown hg4 (by simp; omega) (fun g hg => o3.out.ge g hg)
      go_roundw
      case rel => exact ⟨i + 1, by omega, by go_num, by rw [Hsn.out]; exact ho4, B3.out.trans hb4⟩
      case measure => simp [intOf]; omega
    · have ei : i = ws.length := by omega
      have Hen := hide (tcS_end ep r ws hs i (.inl (by omega)))
      have Ho := hide ho
      have Hb := hide hb
      have hli : ¬ (i : Int) < (ws.length : Int) := by omega
      clear ho hb hlen
      go_wp2
      go_ret
      exact ⟨_, rfl, by rw [← Hen.out]; exact Ho.out.monoSg (by omega), HB1.out.trans (Hb.out.mono (by omega))⟩
end Go.Proofs.Ytkidfkngehcjgaa
