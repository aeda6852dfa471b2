/- The landed code's SigsOf. -/
import Derived.Test.YtkidfkngehcjgaaZsSgImplB
import Derived.Deep.CutBlock
namespace Go.Proofs.Ytkidfkngehcjgaa
open Go.RowKit
set_option linter.unusedVariables false
set_option linter.unusedSimpArgs false

/-- What the landed code counts as signed. -/
def siS (m : Mg) : List Sg := (if svB m = true then [(1, m.ep, m.vr, m.vb, m.vw)] else []) ++ (if sgB m = true then [(2, m.ep, m.gr, m.gh, m.gw)] else []) ++ qcS m.ep m.qr m.qb m.qw ++ tcS m.ep m.tr m.tw m.th ++ bksS m.ep m.bs
set_option maxRecDepth 20000 in
set_option maxHeartbeats 4000000 in
theorem implSigs_any (m : Mg) (v : Mv) (w : World) (hr : RdM w m v) (hbl : m.bs.length ≤ 1000) (hq : m.qw.length ≤ 1000 ∧ m.tw.length ≤ 1000) (hf : ∀ b ∈ m.bs, b.qw.length + b.tw.length ≤ 2000) (hwt : m.tw.length ≤ m.th.length) (hwb : ∀ b ∈ m.bs, b.tw.length ≤ b.th.length) :
    Calls Try.prog 6 #[mgV m v] w fun e w' => ∃ v', e = .returned v' ∧ OwnSg 44 w.heap.size w' v' (siS m) ∧ Below w.heap.size w w' := by
  have HV := hide (fun V (hV : Below w.heap.size w V) => implSaysVote_any m v V (hr.below hV (Nat.le_refl _)))
  have HG := hide (fun V (hV : Below w.heap.size w V) => implGoneSigs_any m v V (hr.below hV (Nat.le_refl _)))
  have Hsg : Hid (siS m = (if svB m = true then [(1, m.ep, m.vr, m.vb, m.vw)] else []) ++ (if sgB m = true then [(2, m.ep, m.gr, m.gh, m.gw)] else []) ++ qcS m.ep m.qr m.qb m.qw ++ tcS m.ep m.tr m.tw m.th ++ bksS m.ep m.bs) := hide rfl
  generalize siS m = SS at Hsg ⊢
  generalize svB m = SV at HV Hsg
  have hS2 : (if sgB m = true then [(2, m.ep, m.gr, m.gh, m.gw)] else ([] : List Sg)).length ≤ 1 := by split <;> simp
  generalize (if sgB m = true then [(2, m.ep, m.gr, m.gh, m.gw)] else ([] : List Sg)) = S2 at HG Hsg hS2
  have Hrm := hide hr
  obtain ⟨kd, tn, ep, bs, vr, vb, vw, gr, gh, gw, qr, qb, qw, tr, tw, th⟩ := m
  obtain ⟨xb, xq, xw, xh⟩ := v
  obtain ⟨hb, hq_, hw, hh⟩ := hr
  simp only at *
  obtain ⟨ab, cb, rfl⟩ := hb.shape
  obtain ⟨aq, cq, rfl⟩ := hq_.shape
  obtain ⟨aw, cw, rfl⟩ := hw.shape
  obtain ⟨ah, ch, rfl⟩ := hh.shape
  simp only [mgV] at *
  obtain ⟨w1, hw1⟩ : ∃ x, w.alloc (.cells #[.int .i64 kd, .string tn, .int .i64 ep, .slice ab bs.length cb, .int .i64 vr, .int .i64 vb, .string vw, .int .i64 gr, .int .i64 gh, .string gw, .int .i64 qr, .int .i64 qb, .slice aq qw.length cq, .int .i64 tr, .slice aw tw.length cw, .slice ah th.length ch] 37) = x := ⟨_, rfl⟩
  have b1 : Below w.heap.size w w1 := by rw [← hw1]; exact (Below.refl _ w).alloc (Nat.le_refl _) _
  have s1 : w1.heap.size = w.heap.size + 1 := by rw [← hw1]; simp
  have k1 : Blk w1 w.heap.size 37 [.int .i64 kd, .string tn, .int .i64 ep, .slice ab bs.length cb, .int .i64 vr, .int .i64 vb, .string vw, .int .i64 gr, .int .i64 gh, .string gw, .int .i64 qr, .int .i64 qb, .slice aq qw.length cq, .int .i64 tr, .slice aw tw.length cw, .slice ah th.length ch] := by rw [← hw1]; exact Blk.new w _ _
  have Hr2 := hide (fun V (hV : Below w.heap.size w V) => Hrm.out.below hV (Nat.le_refl _))
  have HQ := hide (fun V (hV : Below w.heap.size w V) => implQcSigs_any _ ep qr qb qw V (by omega) (hq_.below hV (Nat.le_refl _)))
  have HT := hide (fun V (hV : Below w.heap.size w V) => implTcSigs_any _ _ ep tr tw th V (by omega) hwt (hw.below hV (Nat.le_refl _)) (hh.below hV (Nat.le_refl _)))
  have hlq := qcS_len ep qr qb qw
  have hlt := tcS_len ep tr tw th
  generalize qcS ep qr qb qw = SQ at HQ Hsg hlq
  generalize tcS ep tr tw th = ST at HT Hsg hlt
  have HC : Hid (∀ V, Below (w.heap.size + 1) w1 V → Blk V w.heap.size 37 [.int .i64 kd, .string tn, .int .i64 ep, .slice ab bs.length cb, .int .i64 vr, .int .i64 vb, .string vw, .int .i64 gr, .int .i64 gh, .string gw, .int .i64 qr, .int .i64 qb, .slice aq qw.length cq, .int .i64 tr, .slice aw tw.length cw, .slice ah th.length ch]) := hide (fun V hV => k1.below hV (by omega))
  have HB1 := hide b1
  have HW : Hid (∀ V, Below (w.heap.size + 1) w1 V → Below w.heap.size w V) := hide (fun V hV => b1.trans (hV.mono (by omega)))
  obtain ⟨w2, hw2⟩ : ∃ x, w1.alloc (.cells #[] 44) = x := ⟨_, rfl⟩
  have b2 : Below (w.heap.size + 1) w1 w2 := by rw [← hw2]; exact (Below.refl _ w1).alloc (Nat.le_of_eq s1.symm) _
  have O2 : Hid (OwnSg 44 (w.heap.size + 1) w2 (.slice (some ⟨w.heap.size + 1, 0, none⟩) 0 0) []) := hide (by rw [← hw2, ← s1]; exact own_nilSg _ w1 _ (Nat.le_refl _))
  have B2 := hide b2
  have Hhb := hide (hb.below b1 (Nat.le_refl _))
  clear hb hq_ hw hh b1 k1 b2
  go_enter Try.func6, Try.ntmps6
  go_upto_block 2 with fail
  obtain ⟨M, hM⟩ : ∃ M, Value.agg #[.int .i64 kd, .string tn, .int .i64 ep, .slice ab bs.length cb, .int .i64 vr, .int .i64 vb, .string vw, .int .i64 gr, .int .i64 gh, .string gw, .int .i64 qr, .int .i64 qb, .slice aq qw.length cq, .int .i64 tr, .slice aw tw.length cw, .slice ah th.length ch] = M := ⟨_, rfl⟩
  rw [hM] at HV HG ⊢
  have K2 := HC.out w2 B2.out
  go_cut [3] from 4 (fun ov wc => OwnSg 44 (w.heap.size + 1) wc ov (if SV = true then [(1, ep, vr, vb, vw)] else []) ∧ Below (w.heap.size + 1) w1 wc)
  case first =>
    go_wp2_with (first | (refine loadS_mg _ rfl w.heap.size rfl K2 hM (by rfl) ?_) | fail)
    refine (HV.out w2 (HW.out w2 B2.out)).mono ?_
    rintro e w3 ⟨rfl, hb3⟩
    have z2 := B2.out.size
    have B3 := hide (B2.out.trans (hb3.mono (by omega)))
    have O3 := hide (O2.out.below hb3 (Nat.le_refl _))
    have K3 := HC.out w3 B3.out
    have x2 := K3.cell 2
    have x4 := K3.cell 4
    have x5 := K3.cell 5
    have x6 := K3.cell 6
    simp only [List.getElem?_cons_zero, List.getElem?_cons_succ] at x2 x4 x5 x6
    have z3 := B3.out.size
    clear hb3 K2 K3 HV O2 B2
    cases SV
    · go_wp2
      go_meet
      case rel => exact ⟨O3.out, B3.out⟩
    · go_wp2_with fail
      refine (implVoteSig_any _ _ _ _ _).mono ?_
      rintro e w4 ⟨rfl, hb4⟩
      have o4 := hide (O3.out.below hb4 (Nat.le_refl _))
      have hz4 := hb4.size
      have B4 := hide (B3.out.trans (hb4.mono (by omega)))
      go_wp2_with (at_builtin; refine app_ownSig _ rfl _ _ rfl (w.heap.size + 1) _ w4.heap.size [] (1, ep, vr, vb, vw) rfl rfl (o4.out.alloc _) (Blk.newR w4 _ (sgC (1, ep, vr, vb, vw)) _ rfl) (by simp) (by simp; omega) ?_; intro v5 w5 ho5 hg5 _)
      have hb5 : Below (w.heap.size + 1) w4 w5 := ((Below.refl (w.heap.size + 1) w4).alloc (by omega) _).grown hg5 (by simp; omega) (fun g hg => o4.out.ge g hg)
      go_meet
      case rel => exact ⟨ho5, B4.out.trans hb5⟩
  case rest =>
    clear O2 B2 K2 HV
    obtain ⟨w6, rfl⟩ : ∃ x, x = wc := ⟨_, rfl⟩
    obtain ⟨o6, b6⟩ := hcut
    have hS1 : (if SV = true then [(1, ep, vr, vb, vw)] else ([] : List Sg)).length ≤ 1 := by split <;> simp
    generalize (if SV = true then [(1, ep, vr, vb, vw)] else ([] : List Sg)) = S1 at o6 hS1 Hsg
    have z6 := b6.size
    have K6 := HC.out w6 b6
    have O6 := hide o6
    have B6 := hide b6
    clear o6 b6
    go_wp2_with (first | (refine loadS_mg _ rfl w.heap.size rfl K6 hM (by rfl) ?_) | fail)
    refine (HG.out w6 (HW.out w6 B6.out)).mono ?_
    rintro e w7 ⟨v7, rfl, o7, hb7⟩
    have O7 := hide (O6.out.below hb7 (Nat.le_refl _))
    have B7 := hide (B6.out.trans (hb7.mono (by omega)))
    have R7 := hide o7.rd
    have z7 := hb7.size
    clear o7 hb7 K6 O6 B6
    go_wp2_with (at_builtin; refine app_ownSgs _ rfl _ _ rfl (w.heap.size + 1) _ _ S1 S2 rfl rfl O7.out R7.out (by first | omega | (simp only [List.length_append]; omega)) (by omega) ?_; intro v8 w8 o8 b8 _; have B8 := B7.out.trans b8; have K8 := HC.out w8 B8; have x2 := K8.cell 2; have x10 := K8.cell 10; have x11 := K8.cell 11; have x12 := K8.cell 12; simp only [List.getElem?_cons_zero, List.getElem?_cons_succ] at x2 x10 x11 x12)
    refine (HQ.out w8 (HW.out w8 B8)).mono ?_
    rintro e w9 ⟨v9, rfl, p9, hb9⟩
    have z8 := B8.size
    have O9 := hide (o8.below hb9 (Nat.le_refl _))
    have R9 := hide p9.rd
    have y9 := hb9.size
    have B9 := hide (B8.trans (hb9.mono (by omega)))
    clear p9 hb9
    clear x2 x10 x11 x12 o8 b8 B8 K8
    go_wp2_with (at_builtin; refine app_ownSgs _ rfl _ _ rfl (w.heap.size + 1) _ _ (S1 ++ S2) SQ rfl rfl O9.out R9.out (by first | omega | (simp only [List.length_append]; omega)) (by omega) ?_; intro v10 w10 o10 b10 _; have B10 := B9.out.trans b10; have K10 := HC.out w10 B10; have x2 := K10.cell 2; have x13 := K10.cell 13; have x14 := K10.cell 14; have x15 := K10.cell 15; simp only [List.getElem?_cons_zero, List.getElem?_cons_succ] at x2 x13 x14 x15)
    refine (HT.out w10 (HW.out w10 B10)).mono ?_
    rintro e w11 ⟨v11, rfl, p11, hb11⟩
    have z10 := B10.size
    have O11 := hide (o10.below hb11 (Nat.le_refl _))
    have R11 := hide p11.rd
    have y11 := hb11.size
    have B11 := hide (B10.trans (hb11.mono (by omega)))
    clear p11 hb11
    clear x2 x13 x14 x15 o10 b10 B10 K10
    go_wp2_with (at_builtin; refine app_ownSgs _ rfl _ _ rfl (w.heap.size + 1) _ _ (S1 ++ S2 ++ SQ) ST rfl rfl O11.out R11.out (by first | omega | (simp only [List.length_append]; omega)) (by omega) ?_; intro v12 w12 o12 b12 _; have B12 := B11.out.trans b12; have K12 := HC.out w12 B12; have x3 := K12.cell 3; simp only [List.getElem?_cons_zero, List.getElem?_cons_succ] at x3)
    have hlA : (S1 ++ S2 ++ SQ ++ ST).length ≤ 3000 := by simp only [List.length_append]; omega
    generalize S1 ++ S2 ++ SQ ++ ST = SA at o12 hlA Hsg
    have O12 := hide o12
    have B12' := hide B12
    have hcd : (Value.slice ab bs.length cb) = Value.slice ab bs.length cb := rfl
    clear o12 b12 B12 K12 O7 R7 B7 O9 R9 B9 O11 R11 B11 HQ HT HG hcd
    go_loopw [3, 39] (fun ov iv wr => ∃ (i : Nat), i ≤ bs.length ∧ iv = .int .i64 (i : Int) ∧ OwnSg 44 (w.heap.size + 1) wr ov (SA ++ bksS ep (bs.take i)) ∧ Below (w.heap.size + 1) w1 wr) (fun _ iv _ => bs.length - (intOf iv).toNat)
    case atStart => exact ⟨0, Nat.zero_le _, rfl, by simpa [bksS] using O12.out, B12'.out⟩
    case round =>
      obtain ⟨i, hi, rfl, ho, hbr⟩ := hrel
      clear O12 B12'
      have zr := hbr.size
      by_cases hlt : i < bs.length
      · have hli : (i : Int) < (bs.length : Int) := by omega
        obtain ⟨b, off, rfl, hc1, hc2, hbw, xv, hat, hrd⟩ := Hhb.out.atG hlt
        have hlen := bksS_len ep (bs.take i) 2000 (fun y hy => hf y (List.mem_of_mem_take hy))
        have htk : (bs.take i).length ≤ 1000 := by simp; omega
        have hl2 : (bksS ep (bs.take i)).length ≤ 2000000 := by
          have : (bs.take i).length * 2000 ≤ 1000 * 2000 := Nat.mul_le_mul_right _ htk
          omega
        have Hsn := hide (bksS_snoc ep bs i hlt)
        have hfx := hf bs[i] (List.getElem_mem hlt)
        have hwx := hwb bs[i] (List.getElem_mem hlt)
        generalize hx : bs[i] = x at hat hrd Hsn hfx hwx
        have hbw' : b < w.heap.size + 1 := by omega
        obtain ⟨c0, c1, c2, c3, c4, c5, c6, c7, c8, c9, c10, c11, c12, c13⟩ := (hat.below hbr hbw').cells
        have hrd' := hrd.below hbr (Nat.le_of_eq s1)
        obtain ⟨aq2, cq2, aw2, cw2, ah2, ch2, at2, ct2, an2, cn2, rfl⟩ := hrd'.shapes9
        obtain ⟨id, ep2, rd, md, qr2, qb2, qw2, tr2, tw2, th2, ts2, en2, nx2, rt2⟩ := x
        simp only at c0 c1 c2 c3 c4 c5 c6 c7 c8 c9 c10 c11 c12 c13 hfx hwx hrd
        obtain ⟨w20, hw20⟩ : ∃ y, wr.alloc (.cells #[.int .i64 id, .int .i64 ep2, .int .i64 rd, .string md, .int .i64 qr2, .int .i64 qb2, .slice aq2 qw2.length cq2, .int .i64 tr2, .slice aw2 tw2.length cw2, .slice ah2 th2.length ch2, .slice at2 ts2.length ct2, .bool en2, .slice an2 nx2.length cn2, .string rt2] 57) = y := ⟨_, rfl⟩
        have b20 : Below wr.heap.size wr w20 := by rw [← hw20]; exact (Below.refl _ wr).alloc (Nat.le_refl _) _
        have k20 : Blk w20 wr.heap.size 57 [.int .i64 id, .int .i64 ep2, .int .i64 rd, .string md, .int .i64 qr2, .int .i64 qb2, .slice aq2 qw2.length cq2, .int .i64 tr2, .slice aw2 tw2.length cw2, .slice ah2 th2.length ch2, .slice at2 ts2.length ct2, .bool en2, .slice an2 nx2.length cn2, .string rt2] := by rw [← hw20]; exact Blk.new wr _ _
        have s20 : w20.heap.size = wr.heap.size + 1 := by rw [← hw20]; simp
        have B20 : Below (w.heap.size + 1) w1 w20 := hbr.trans (b20.mono (by omega))
        have O20 := hide (ho.below b20 (Nat.le_refl _))
        have O20r := hide ho
        have hlq2 := qcS_len ep qr2 qb2 qw2
        have hlt2 := tcS_len ep tr2 tw2 th2
        have HQ2 := hide (fun V (hV : Below (w.heap.size + 1) w1 V) => implQcSigs_any _ ep qr2 qb2 qw2 V (by omega) (hrd.q.below hV (Nat.le_of_eq s1)))
        have HT2 := hide (fun V (hV : Below (w.heap.size + 1) w1 V) => implTcSigs_any _ _ ep tr2 tw2 th2 V (by omega) hwx (hrd.p.below hV (Nat.le_of_eq s1)) (hrd.h.below hV (Nat.le_of_eq s1)))
        have Hbk : Hid (bkS ep ⟨id, ep2, rd, md, qr2, qb2, qw2, tr2, tw2, th2, ts2, en2, nx2, rt2⟩ = qcS ep qr2 qb2 qw2 ++ tcS ep tr2 tw2 th2) := hide rfl
        generalize qcS ep qr2 qb2 qw2 = SQ2 at HQ2 Hbk hlq2
        generalize tcS ep tr2 tw2 th2 = ST2 at HT2 Hbk hlt2
        generalize bksS ep (bs.take i) = SI at O20 O20r hl2 Hsn ho
        have x2 := (HC.out w20 B20).cell 2
        have y4 := k20.cell 4
        have y5 := k20.cell 5
        have y6 := k20.cell 6
        simp only [List.getElem?_cons_zero, List.getElem?_cons_succ] at x2 y4 y5 y6
        have K20 := hide k20
        have B20' := hide B20
        clear ho hbr hat hrd hrd' hlen b20 k20 B20
        go_wp2_with fail
        refine (HQ2.out w20 B20'.out).mono ?_
        rintro e w21 ⟨v21, rfl, p21, hb21⟩
        have O21 := hide (O20.out.below hb21 (Nat.le_refl _))
        have R21 := hide p21.rd
        have z21 := hb21.size
        have B21 := hide (B20'.out.trans (hb21.mono (by omega)))
        have K21 := hide (K20.out.below hb21 K20.out.lt)
        have Hne : Hid (u3.ownBlock ≠ some wr.heap.size) := hide (fun h => by have := O20r.out.lt _ h; omega)
        clear p21 hb21 x2 y4 y5 y6 O20 K20 B20'
        go_wp2_with (at_builtin; refine app_ownSgs _ rfl _ _ rfl (w.heap.size + 1) _ _ (SA ++ SI) SQ2 rfl rfl O21.out R21.out (by first | omega | (simp only [List.length_append]; omega)) (by omega) ?_; intro v22 w22 o22 b22 hg22; have B22 := B21.out.trans b22; have K22 := HC.out w22 B22; have k22 := grown_blk K21.out hg22 Hne.out; have x2 := K22.cell 2; have y7 := k22.cell 7; have y8 := k22.cell 8; have y9 := k22.cell 9; simp only [List.getElem?_cons_zero, List.getElem?_cons_succ] at x2 y7 y8 y9)
        refine (HT2.out w22 B22).mono ?_
        rintro e w23 ⟨v23, rfl, p23, hb23⟩
        have z22 := B22.size
        have O23 := hide (o22.below hb23 (Nat.le_refl _))
        have R23 := hide p23.rd
        have z23 := hb23.size
        have B23 := hide (B22.trans (hb23.mono (by omega)))
        clear p23 hb23 x2 y7 y8 y9 o22 b22 hg22 B22 K22 k22 O21 R21 B21 K21
        go_wp2_with (at_builtin; refine app_ownSgs _ rfl _ _ rfl (w.heap.size + 1) _ _ (SA ++ SI ++ SQ2) ST2 rfl rfl O23.out R23.out (by first | omega | (simp only [List.length_append]; omega)) (by omega) ?_; intro v24 w24 o24 b24 _)
        have o25 : OwnSg 44 (w.heap.size + 1) w24 v24 (SA ++ (SI ++ bkS ep ⟨id, ep2, rd, md, qr2, qb2, qw2, tr2, tw2, th2, ts2, en2, nx2, rt2⟩)) := by
          have h := o24
          rw [List.append_assoc, List.append_assoc, ← Hbk.out] at h
          exact h
        go_roundw
        case rel => exact ⟨i + 1, by omega, by go_num, by rw [Hsn.out]; exact o25, B23.out.trans b24⟩
        case measure => simp [intOf]; omega
      · have ei : i = bs.length := by omega
        subst ei
        rw [List.take_length] at ho
        have Ho := hide ho
        have Hbr := hide hbr
        clear ho hbr
        go_wp2
        go_ret
        exact ⟨_, rfl, by rw [Hsg.out]; exact Ho.out.monoSg (by omega), HB1.out.trans (Hbr.out.mono (by omega))⟩
end Go.Proofs.Ytkidfkngehcjgaa
