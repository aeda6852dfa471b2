/- Whether a word is signed: the model's and the landed code's. -/
import Derived.Test.YtkidfkngehcjgaaZsSgBookI
import Derived.Test.YtkidfkngehcjgaaZsVsSum
import Derived.Test.YtkidfkngehcjgaaZsVsQuo
import Derived.BigQuiet
namespace Go.Proofs.Ytkidfkngehcjgaa
open Go.RowKit Go.Maps
set_option linter.unusedVariables false
set_option linter.unusedSimpArgs false

theorem intS_ne {a b : Int} (h : ¬ a = b) : ¬ Value.int .i64 a = Value.int .i64 b := fun e => h (by injection e)
theorem bytesS_ne {s t : ByteArray} (h : ¬ s = t) : (s.toList == t.toList) = false := by
  rw [beq_eq_false_iff_ne]
  intro e
  rw [ByteArray.toList_eq, ByteArray.toList_eq] at e
  exact h (ByteArray.ext (Array.toList_inj.1 e))
theorem below_drewS {B : Nat} {w w' : World} (h : Below B w w') (n : Nat) : Below B w { w' with drawn := n } := ⟨h.os, h.tape, h.output, h.size, h.block⟩
theorem inS_step {l : List Sg} {s : Sg} {k : Nat} (hk : k < l.length) (h : inS (l.take k) s = false) (hn : l[k] ≠ s) : inS (l.take (k + 1)) s = false := by
  unfold inS at *
  rw [List.take_succ_eq_append_getElem hk, List.any_append, h]
  simp [hn]
theorem inS_yes {l : List Sg} {s : Sg} {k : Nat} (hk : k < l.length) (h : l[k] = s) : inS l s = true := inS_mem.2 (by rw [← h]; exact List.getElem_mem hk)
/-- One signature counts: it is in the table, or of a foul one. -/
def okS (table : List Sg) (foul : List ByteArray) (s : Sg) : Bool := inS table s || hasN foul s.2.2.2.2
def sdB (table : List Sg) (foul : List ByteArray) (L : List Sg) : Bool := L.all (okS table foul)
set_option maxRecDepth 20000 in
set_option maxHeartbeats 2000000 in
theorem specHasS_any (v : Value) (l : List Sg) (s : Sg) (w : World) (hr : RdSg w v l) (hl : l.length ≤ 50000000) :
    Calls Try.prog 23 #[v, sgV s] w fun e w' => e = .returned (.bool (inS l s)) ∧ Below w.heap.size w w' := by
  obtain ⟨a, cap, rfl⟩ := hr.shape
  obtain ⟨y0, y1, y2, y3, y4⟩ := s
  obtain ⟨w1, hw1⟩ : ∃ x, w.alloc (.cells #[.int .i64 y0, .int .i64 y1, .int .i64 y2, .int .i64 y3, .string y4] 44) = x := ⟨_, rfl⟩
  have b1 : Below w.heap.size w w1 := by rw [← hw1]; exact (Below.refl _ w).alloc (Nat.le_refl _) _
  have s1 : w1.heap.size = w.heap.size + 1 := by rw [← hw1]; simp
  have k1 : Blk w1 w.heap.size 44 [.int .i64 y0, .int .i64 y1, .int .i64 y2, .int .i64 y3, .string y4] := by rw [← hw1]; exact Blk.new w _ _
  have Hr := hide (fun V (hV : Below w.heap.size w V) => hr.below hV (Nat.le_refl _))
  have HB1 := hide b1
  have HC := hide (fun V (hV : Below w1.heap.size w1 V) => k1.below hV (by omega))
  simp only [sgV]
  clear hr b1 k1
  go_enter Try.func23, Try.ntmps23
  go_wp2
  go_loopw [5] (fun iv wr => ∃ (k : Nat), k ≤ l.length ∧ iv = .int .i64 (k : Int) ∧ inS (l.take k) (y0, y1, y2, y3, y4) = false ∧ Below w1.heap.size w1 wr) (fun iv _ => l.length - (intOf iv).toNat)
  case atStart => exact ⟨0, Nat.zero_le _, rfl, rfl, Below.refl _ _⟩
  case round =>
    obtain ⟨k, hk, rfl, hno, hbr⟩ := hrel
    have hb : Below w.heap.size w wr := HB1.out.trans (hbr.mono HB1.out.size)
    by_cases hlt : k < l.length
    · have hli : (k : Int) < (l.length : Int) := by omega
      obtain ⟨b, off, rfl, hc1, hc2, hbw, hat⟩ := (Hr.out wr hb).at hlt
      obtain ⟨c0, c1, c2, c3, c4⟩ := hat
      have kk := HC.out wr hbr
      have d0 := kk.cell 0
      have d1 := kk.cell 1
      have d2 := kk.cell 2
      have d3 := kk.cell 3
      have d4 := kk.cell 4
      simp only [List.getElem?_cons_zero, List.getElem?_cons_succ] at d0 d1 d2 d3 d4
      have Hyes := hide (fun h => inS_yes (l := l) (s := (y0, y1, y2, y3, y4)) hlt h)
      have Hno := hide (fun h => inS_step (l := l) (s := (y0, y1, y2, y3, y4)) hlt hno h)
      generalize l[k] = p at c0 c1 c2 c3 c4 Hyes Hno
      obtain ⟨x0, x1, x2, x3, x4⟩ := p
      simp only at c0 c1 c2 c3 c4
      clear hno kk
      by_cases e0 : x0 = y0
      · subst e0
        by_cases e1 : x1 = y1
        · subst e1
          by_cases e2 : x2 = y2
          · subst e2
            by_cases e3 : x3 = y3
            · subst e3
              by_cases e4 : x4 = y4
              · subst e4
                have Hy := hide (Hyes.out rfl)
                clear Hyes Hno
                go_wp2
                go_quiet (fail)
                go_wp2
                go_ret
                exact ⟨ret_bool Hy.out.symm, below_drewS hb _⟩
              · have Hn := hide (Hno.out (by intro h; simp only [Prod.mk.injEq] at h; exact e4 h.2.2.2.2))
                have hq := bytesS_ne e4
                clear e4 Hno Hyes
                go_wp2
                go_quiet (fail)
                go_wp2
                go_roundw
                case rel => exact ⟨k + 1, by omega, by go_num, Hn.out, below_drewS hbr _⟩
                case measure => simp [intOf]; omega
            · have Hn := hide (Hno.out (by intro h; simp only [Prod.mk.injEq] at h; exact e3 h.2.2.2.1))
              have hq := intS_ne e3
              have hq2 : (x3 == y3) = false := by rw [beq_eq_false_iff_ne]; exact e3
              clear e3 Hno Hyes
              go_wp2
              go_quiet (fail)
              go_wp2
              go_roundw
              case rel => exact ⟨k + 1, by omega, by go_num, Hn.out, below_drewS hbr _⟩
              case measure => simp [intOf]; omega
          · have Hn := hide (Hno.out (by intro h; simp only [Prod.mk.injEq] at h; exact e2 h.2.2.1))
            have hq := intS_ne e2
            have hq2 : (x2 == y2) = false := by rw [beq_eq_false_iff_ne]; exact e2
            clear e2 Hno Hyes
            go_wp2
            go_quiet (fail)
            go_wp2
            go_roundw
            case rel => exact ⟨k + 1, by omega, by go_num, Hn.out, below_drewS hbr _⟩
            case measure => simp [intOf]; omega
        · have Hn := hide (Hno.out (by intro h; simp only [Prod.mk.injEq] at h; exact e1 h.2.1))
          have hq := intS_ne e1
          have hq2 : (x1 == y1) = false := by rw [beq_eq_false_iff_ne]; exact e1
          clear e1 Hno Hyes
          go_wp2
          go_quiet (fail)
          go_wp2
          go_roundw
          case rel => exact ⟨k + 1, by omega, by go_num, Hn.out, below_drewS hbr _⟩
          case measure => simp [intOf]; omega
      · have Hn := hide (Hno.out (by intro h; simp only [Prod.mk.injEq] at h; exact e0 h.1))
        have hq := intS_ne e0
        have hq2 : (x0 == y0) = false := by rw [beq_eq_false_iff_ne]; exact e0
        clear e0 Hno Hyes
        go_wp2
        go_quiet (fail)
        go_wp2
        go_roundw
        case rel => exact ⟨k + 1, by omega, by go_num, Hn.out, below_drewS hbr _⟩
        case measure => simp [intOf]; omega
    · have e : k = l.length := by omega
      subst e
      rw [List.take_length] at hno
      have Hn := hide hno
      clear hno
      go_wp2
      go_ret
      exact ⟨ret_bool Hn.out.symm, hb⟩
theorem sdB_step {table : List Sg} {foul : List ByteArray} {L : List Sg} {k : Nat} (hk : k < L.length) (h : sdB table foul (L.take k) = true) (ho : okS table foul L[k] = true) : sdB table foul (L.take (k + 1)) = true := by
  unfold sdB at *
  rw [List.take_succ_eq_append_getElem hk, List.all_append, h]
  simp [ho]
theorem sdB_no {table : List Sg} {foul : List ByteArray} {L : List Sg} {k : Nat} (hk : k < L.length) (ho : okS table foul L[k] = false) : sdB table foul L = false := by
  unfold sdB
  rw [List.all_eq_false]
  exact ⟨L[k], List.getElem_mem hk, by rw [ho]; simp⟩
theorem bks_len2 (ep : Int) (l : List Bk) (hbl : l.length ≤ 1000) (hf : ∀ b ∈ l, b.qw.length + b.tw.length ≤ 2000) : (bksS ep l).length ≤ 2000000 := by
  have h := bksS_len ep l 2000 hf
  have : l.length * 2000 ≤ 1000 * 2000 := Nat.mul_le_mul_right _ hbl
  omega
theorem sgS_len (m : Mg) (hbl : m.bs.length ≤ 1000) (hql : m.qw.length ≤ 1000 ∧ m.tw.length ≤ 1000) (hf : ∀ b ∈ m.bs, b.qw.length + b.tw.length ≤ 2000) : (sgS m).length ≤ 50000000 := by
  have h1 := hdS_len m
  have h2 := qcS_len m.ep m.qr m.qb m.qw
  have h3 := tcS_len m.ep m.tr m.tw m.th
  have h4 := bks_len2 m.ep m.bs hbl hf
  simp only [sgS, List.length_append]
  omega
theorem siS_len (m : Mg) (hbl : m.bs.length ≤ 1000) (hql : m.qw.length ≤ 1000 ∧ m.tw.length ≤ 1000) (hf : ∀ b ∈ m.bs, b.qw.length + b.tw.length ≤ 2000) : (siS m).length ≤ 50000000 := by
  have h2 := qcS_len m.ep m.qr m.qb m.qw
  have h3 := tcS_len m.ep m.tr m.tw m.th
  have h4 := bks_len2 m.ep m.bs hbl hf
  have h5 : (if svB m = true then [(1, m.ep, m.vr, m.vb, m.vw)] else ([] : List Sg)).length ≤ 1 := by split <;> simp
  have h6 : (if sgB m = true then [(2, m.ep, m.gr, m.gh, m.gw)] else ([] : List Sg)).length ≤ 1 := by split <;> simp
  simp only [siS, List.length_append]
  omega
set_option maxRecDepth 20000 in
set_option maxHeartbeats 2000000 in
theorem specSigned_any (vt vf : Value) (table : List Sg) (foul : List ByteArray) (m : Mg) (v : Mv) (w : World) (hrt : RdSg w vt table) (hrf : RdS w vf foul) (htl : table.length ≤ 50000000) (hfl : foul.length ≤ 4000000) (hr : RdM w m v) (hbl : m.bs.length ≤ 1000) (hql : m.qw.length ≤ 1000 ∧ m.tw.length ≤ 1000) (hf : ∀ b ∈ m.bs, b.qw.length + b.tw.length ≤ 2000) :
    Calls Try.prog 8 #[vt, vf, mgV m v] w fun e w' => e = .returned (.bool (sdB table foul (sgS m))) ∧ Below w.heap.size w w' := by
  obtain ⟨at_, ct, rfl⟩ := hrt.shape
  obtain ⟨af, cf, rfl⟩ := hrf.shape
  have HG := hide (fun V (hV : Below w.heap.size w V) => specSigs_any m v V (hr.below hV (Nat.le_refl _)) hbl hql hf)
  have hLl := sgS_len m hbl hql hf
  generalize sgS m = L at HG hLl ⊢
  have HLen : Hid (∀ V x, RdSg V x L → ∃ a c, x = .slice a L.length c) := hide (fun V x h => h.shape)
  clear hbl hql hf
  obtain ⟨kd, tn, ep, bs, vr, vb, vw, gr, gh, gw, qr, qb, qw, tr, tw, th⟩ := m
  obtain ⟨xb, xq, xw, xh⟩ := v
  obtain ⟨hb, hq, hw, hh⟩ := hr
  simp only at *
  obtain ⟨ab, cb, rfl⟩ := hb.shape
  obtain ⟨aq, cq, rfl⟩ := hq.shape
  obtain ⟨aw, cw, rfl⟩ := hw.shape
  obtain ⟨ah, ch, rfl⟩ := hh.shape
  simp only [mgV] at *
  obtain ⟨w1, hw1⟩ : ∃ x, w.alloc (.cells #[.int .i64 kd, .string tn, .int .i64 ep, .slice ab bs.length cb, .int .i64 vr, .int .i64 vb, .string vw, .int .i64 gr, .int .i64 gh, .string gw, .int .i64 qr, .int .i64 qb, .slice aq qw.length cq, .int .i64 tr, .slice aw tw.length cw, .slice ah th.length ch] 37) = x := ⟨_, rfl⟩
  have b1 : Below w.heap.size w w1 := by rw [← hw1]; exact (Below.refl _ w).alloc (Nat.le_refl _) _
  have s1 : w1.heap.size = w.heap.size + 1 := by rw [← hw1]; simp
  have k1 : Blk w1 w.heap.size 37 [.int .i64 kd, .string tn, .int .i64 ep, .slice ab bs.length cb, .int .i64 vr, .int .i64 vb, .string vw, .int .i64 gr, .int .i64 gh, .string gw, .int .i64 qr, .int .i64 qb, .slice aq qw.length cq, .int .i64 tr, .slice aw tw.length cw, .slice ah th.length ch] := by rw [← hw1]; exact Blk.new w _ _
  have HB1 := hide b1
  have K1 := hide k1
  have HRt := hide (fun V (hV : Below w.heap.size w V) => hrt.below hV (Nat.le_refl _))
  have HRf := hide (fun V (hV : Below w.heap.size w V) => hrf.below hV (Nat.le_refl _))
  clear hb hq hw hh b1 k1 hrt hrf
  go_enter Try.func8, Try.ntmps8
  go_upto_region 1 with fail
  obtain ⟨M, hM⟩ : ∃ M, Value.agg #[.int .i64 kd, .string tn, .int .i64 ep, .slice ab bs.length cb, .int .i64 vr, .int .i64 vb, .string vw, .int .i64 gr, .int .i64 gh, .string gw, .int .i64 qr, .int .i64 qb, .slice aq qw.length cq, .int .i64 tr, .slice aw tw.length cw, .slice ah th.length ch] = M := ⟨_, rfl⟩
  rw [hM] at HG ⊢
  go_wp2_with (first | (refine loadS_mg _ rfl w.heap.size rfl K1.out hM (by rfl) ?_) | fail)
  refine (HG.out w1 HB1.out).mono ?_
  rintro e w2 ⟨v2, rfl, o2, hb2⟩
  obtain ⟨a2, c2, hv2⟩ := HLen.out _ _ o2.rd
  subst hv2
  have B2 := hide (HB1.out.trans (hb2.mono HB1.out.size))
  have O2 := hide o2.rd
  clear o2 hb2 HG K1 hM
  go_wp2
  go_loopw [8] (fun iv wr => ∃ (k : Nat), k ≤ L.length ∧ iv = .int .i64 (k : Int) ∧ sdB table foul (L.take k) = true ∧ Below w2.heap.size w2 wr) (fun iv _ => L.length - (intOf iv).toNat)
  case atStart => exact ⟨0, Nat.zero_le _, rfl, rfl, Below.refl _ _⟩
  case round =>
    obtain ⟨k, hk, rfl, hok, hbr⟩ := hrel
    have hB : Below w.heap.size w wr := B2.out.trans (hbr.mono B2.out.size)
    by_cases hlt : k < L.length
    · have hli : (k : Int) < (L.length : Int) := by omega
      obtain ⟨b, off, rfl, hc1, hc2, hbw, hat⟩ := (O2.out.below hbr (Nat.le_refl _)).at hlt
      have Hst := hide (fun ho => sdB_step (table := table) (foul := foul) hlt hok ho)
      have Hno := hide (fun ho => sdB_no (table := table) (foul := foul) hlt ho)
      generalize L[k] = s at hat Hst Hno
      have HF := hide (specHas_any _ foul s.2.2.2.2 wr (HRf.out wr hB) hfl)
      have HT := hide (fun V (hV : Below wr.heap.size wr V) => specHasS_any _ table s V (HRt.out V (hB.trans (hV.mono hB.size))) htl)
      have Hok : Hid (okS table foul s = (inS table s || hasN foul s.2.2.2.2)) := hide rfl
      generalize okS table foul s = OK at Hst Hno Hok
      generalize inS table s = IN at HT Hok
      have Hat := hide hat
      obtain ⟨x0, x1, x2, x3, x4⟩ := s
      simp only [sgV] at HF HT Hok hat
      generalize hasN foul x4 = FO at HF Hok
      have c4 := hat.c4
      simp only at c4
      have Hbr := hide hbr
      have HB := hide hB
      clear hat hok hbr hB
      go_wp2_with fail
      refine HF.out.mono ?_
      rintro e w3 ⟨rfl, hb3⟩
      have b3 := hide (Hbr.out.trans (hb3.mono Hbr.out.size))
      obtain ⟨d0, d1, d2, d3, d4⟩ := Hat.out.below hb3 (by omega)
      simp only at d0 d1 d2 d3 d4
      cases FO
      · go_wp2_with fail
        refine (HT.out w3 hb3).mono ?_
        rintro e w4 ⟨rfl, hb4⟩
        have b4 := hide (b3.out.trans (hb4.mono b3.out.size))
        cases IN
        · have Hf := hide (Hno.out (by rw [Hok.out]; rfl))
          go_wp2
          go_ret
          exact ⟨ret_bool Hf.out.symm, B2.out.trans (b4.out.mono B2.out.size)⟩
        · have Hn := hide (Hst.out (by rw [Hok.out]; rfl))
          go_wp2
          go_roundw
          case rel => exact ⟨k + 1, by omega, by go_num, Hn.out, b4.out⟩
          case measure => simp [intOf]; omega
      · have Hn := hide (Hst.out (by rw [Hok.out, Bool.or_true]))
        go_wp2
        go_roundw
        case rel => exact ⟨k + 1, by omega, by go_num, Hn.out, b3.out⟩
        case measure => simp [intOf]; omega
    · have e : k = L.length := by omega
      subst e
      rw [List.take_length] at hok
      have Hok := hide hok
      clear hok
      go_wp2
      go_ret
      exact ⟨ret_bool Hok.out.symm, hB⟩
set_option maxRecDepth 20000 in
set_option maxHeartbeats 2000000 in
theorem implSigned_any (vt vf : Value) (table : List Sg) (foul : List ByteArray) (m : Mg) (v : Mv) (w : World) (hrt : RdSg w vt table) (hrf : RdS w vf foul) (htl : table.length ≤ 50000000) (hfl : foul.length ≤ 4000000) (htw : ∀ s ∈ table, WfS s) (hsw : ∀ s ∈ siS m, WfS s) (hr : RdM w m v) (hbl : m.bs.length ≤ 1000) (hql : m.qw.length ≤ 1000 ∧ m.tw.length ≤ 1000) (hf : ∀ b ∈ m.bs, b.qw.length + b.tw.length ≤ 2000) (hwt : m.tw.length ≤ m.th.length) (hwb : ∀ b ∈ m.bs, b.tw.length ≤ b.th.length) :
    Calls Try.prog 7 #[vt, vf, mgV m v] w fun e w' => e = .returned (.bool (sdB table foul (siS m))) ∧ Below w.heap.size w w' := by
  obtain ⟨at_, ct, rfl⟩ := hrt.shape
  obtain ⟨af, cf, rfl⟩ := hrf.shape
  have HG := hide (fun V (hV : Below w.heap.size w V) => implSigs_any m v V (hr.below hV (Nat.le_refl _)) hbl hql hf hwt hwb)
  have hLl := siS_len m hbl hql hf
  generalize siS m = L at HG hsw hLl ⊢
  have HLen : Hid (∀ V x, RdSg V x L → ∃ a c, x = .slice a L.length c) := hide (fun V x h => h.shape)
  clear hbl hql hf hwt hwb
  obtain ⟨kd, tn, ep, bs, vr, vb, vw, gr, gh, gw, qr, qb, qw, tr, tw, th⟩ := m
  obtain ⟨xb, xq, xw, xh⟩ := v
  obtain ⟨hb, hq, hw, hh⟩ := hr
  simp only at *
  obtain ⟨ab, cb, rfl⟩ := hb.shape
  obtain ⟨aq, cq, rfl⟩ := hq.shape
  obtain ⟨aw, cw, rfl⟩ := hw.shape
  obtain ⟨ah, ch, rfl⟩ := hh.shape
  simp only [mgV] at *
  obtain ⟨w1, hw1⟩ : ∃ x, w.alloc (.cells #[.int .i64 kd, .string tn, .int .i64 ep, .slice ab bs.length cb, .int .i64 vr, .int .i64 vb, .string vw, .int .i64 gr, .int .i64 gh, .string gw, .int .i64 qr, .int .i64 qb, .slice aq qw.length cq, .int .i64 tr, .slice aw tw.length cw, .slice ah th.length ch] 37) = x := ⟨_, rfl⟩
  have b1 : Below w.heap.size w w1 := by rw [← hw1]; exact (Below.refl _ w).alloc (Nat.le_refl _) _
  have s1 : w1.heap.size = w.heap.size + 1 := by rw [← hw1]; simp
  have k1 : Blk w1 w.heap.size 37 [.int .i64 kd, .string tn, .int .i64 ep, .slice ab bs.length cb, .int .i64 vr, .int .i64 vb, .string vw, .int .i64 gr, .int .i64 gh, .string gw, .int .i64 qr, .int .i64 qb, .slice aq qw.length cq, .int .i64 tr, .slice aw tw.length cw, .slice ah th.length ch] := by rw [← hw1]; exact Blk.new w _ _
  have HB1 := hide b1
  have K1 := hide k1
  have HBk := hide (implBook_any _ table w1 (hrt.below b1 (Nat.le_refl _)) htl htw)
  have HRf := hide (fun V (hV : Below w.heap.size w V) => hrf.below hV (Nat.le_refl _))
  have Htw := hide htw
  have Hsw := hide hsw
  clear hb hq hw hh b1 k1 hrt hrf htw hsw
  go_enter Try.func7, Try.ntmps7
  go_upto_region 1 with fail
  obtain ⟨M, hM⟩ : ∃ M, Value.agg #[.int .i64 kd, .string tn, .int .i64 ep, .slice ab bs.length cb, .int .i64 vr, .int .i64 vb, .string vw, .int .i64 gr, .int .i64 gh, .string gw, .int .i64 qr, .int .i64 qb, .slice aq qw.length cq, .int .i64 tr, .slice aw tw.length cw, .slice ah th.length ch] = M := ⟨_, rfl⟩
  rw [hM] at HG ⊢
  go_wp2_with fail
  refine HBk.out.mono ?_
  rintro e w2 ⟨rfl, om, hb2⟩
  rw [s1] at om ⊢
  have K2 := K1.out.below hb2 K1.out.lt
  have B2 := hide (HB1.out.trans (hb2.mono HB1.out.size))
  have z2 := hb2.size
  go_wp2_with (first | (refine loadS_mg _ rfl w.heap.size rfl K2 hM (by rfl) ?_) | fail)
  refine (HG.out w2 B2.out).mono ?_
  rintro e w3 ⟨v3, rfl, o3, hb3⟩
  obtain ⟨a3, c3, hv3⟩ := HLen.out _ _ o3.rd
  subst hv3
  have hm2 : w.heap.size + 1 < w2.heap.size := om.lt
  have B3 := hide (B2.out.trans (hb3.mono B2.out.size))
  have O3 := hide o3.rd
  have OM := hide (bookS_below om hb3 om.lt)
  have z3 := hb3.size
  clear o3 hb3 HG K1 K2 hM om hb2 HBk B2
  have hz0 : ∀ V : World, (zeroValue 60).run Try.prog V = .ok (.agg #[]) V := fun V => by kernel_rfl
  go_wp2
  go_loopw [17] (fun iv wr => ∃ (k : Nat), k ≤ L.length ∧ iv = .int .i64 (k : Int) ∧ sdB table foul (L.take k) = true ∧ Below w3.heap.size w3 wr) (fun iv _ => L.length - (intOf iv).toNat)
  case atStart => exact ⟨0, Nat.zero_le _, rfl, rfl, Below.refl _ _⟩
  case round =>
    obtain ⟨k, hk, rfl, hok, hbr⟩ := hrel
    have hB : Below w.heap.size w wr := B3.out.trans (hbr.mono B3.out.size)
    by_cases hlt : k < L.length
    · have hli : (k : Int) < (L.length : Int) := by omega
      obtain ⟨b, off, rfl, hc1, hc2, hbw, hat⟩ := (O3.out.below hbr (Nat.le_refl _)).at hlt
      have Hst := hide (fun ho => sdB_step (table := table) (foul := foul) hlt hok ho)
      have Hno := hide (fun ho => sdB_no (table := table) (foul := foul) hlt ho)
      have hws := Hsw.out L[k] (List.getElem_mem hlt)
      generalize L[k] = s at hat Hst Hno hws
      have hky := ky_of hws
      have hhas := setS_has Htw.out hws
      have Hok : Hid (okS table foul s = (inS table s || hasN foul s.2.2.2.2)) := hide rfl
      generalize okS table foul s = OK at Hst Hno Hok
      generalize inS table s = IN at Hok hhas
      generalize kyS s = ky at hky hhas
      have HF := hide (fun V (hV : Below w.heap.size w V) => contains_any _ foul s.2.2.2.2 V (HRf.out V hV) hfl)
      obtain ⟨x0, x1, x2, x3, x4⟩ := s
      simp only [sgV] at HF Hok hky
      generalize hasN foul x4 = FO at HF Hok
      obtain ⟨d0, d1, d2, d3, d4⟩ := hat
      simp only at d0 d1 d2 d3 d4
      have zr := hbr.size
      obtain ⟨w4, hw4⟩ : ∃ y, wr.alloc (.cells #[.int .i64 x0, .int .i64 x1, .int .i64 x2, .int .i64 x3, .string x4] 44) = y := ⟨_, rfl⟩
      have b4 : Below wr.heap.size wr w4 := by rw [← hw4]; exact (Below.refl _ wr).alloc (Nat.le_refl _) _
      have k4 : Blk w4 wr.heap.size 44 [.int .i64 x0, .int .i64 x1, .int .i64 x2, .int .i64 x3, .string x4] := by rw [← hw4]; exact Blk.new wr _ _
      have e0 := k4.cell 0
      have e1 := k4.cell 1
      have e2 := k4.cell 2
      have e3 := k4.cell 3
      have e4 := k4.cell 4
      simp only [List.getElem?_cons_zero, List.getElem?_cons_succ] at e0 e1 e2 e3 e4
      have om4 := hide (bookS_below (bookS_below OM.out hbr (by omega)) b4 (by omega))
      obtain ⟨w5, hw5⟩ : ∃ y, w4.alloc (.cells #[] 60) = y := ⟨_, rfl⟩
      have b5 : Below w4.heap.size w4 w5 := by rw [← hw5]; exact (Below.refl _ w4).alloc (Nat.le_refl _) _
      have k5 := k4.below b5 k4.lt
      have f4 := k5.cell 4
      simp only [List.getElem?_cons_zero, List.getElem?_cons_succ] at f4
      have B5 := hide ((hbr.trans (b4.mono hbr.size)).trans (b5.mono (Nat.le_trans hbr.size b4.size)))
      have HB5 := hide (B3.out.trans (B5.out.mono B3.out.size))
      have Hky := hide hky
      clear hok hbr hB b4 b5 k4 k5 hky hws
      cases IN
      · go_wp2_with (first
          | (at_lookup; refine wpList_lookup_own_unit _ rfl _ _ 58 rfl 44 60 sg_law Try.underlying58 (hz0 _) (w.heap.size + 1) table.length (setS table) rfl om4.out (.agg #[.int .i64 x0, .int .i64 x1, .int .i64 x2, .int .i64 x3, .string x4]) ky rfl Hky.out ?_; rw [hhas])
          | fail)
        refine (HF.out w5 HB5.out).mono ?_
        rintro e w6 ⟨rfl, hb6⟩
        have b6 := hide (B5.out.trans (hb6.mono B5.out.size))
        cases FO
        · have Hf := hide (Hno.out (by rw [Hok.out]; rfl))
          go_wp2
          go_ret
          exact ⟨ret_bool Hf.out.symm, B3.out.trans (b6.out.mono B3.out.size)⟩
        · have Hn := hide (Hst.out (by rw [Hok.out]; rfl))
          go_wp2
          go_roundw
          case rel => exact ⟨k + 1, by omega, by go_num, Hn.out, b6.out⟩
          case measure => simp [intOf]; omega
      · have Hn := hide (Hst.out (by rw [Hok.out]; rfl))
        go_wp2_with (first
          | (at_lookup; refine wpList_lookup_own_unit _ rfl _ _ 58 rfl 44 60 sg_law Try.underlying58 (hz0 _) (w.heap.size + 1) table.length (setS table) rfl om4.out (.agg #[.int .i64 x0, .int .i64 x1, .int .i64 x2, .int .i64 x3, .string x4]) ky rfl Hky.out ?_; rw [hhas])
          | fail)
        go_roundw
        case rel => exact ⟨k + 1, by omega, by go_num, Hn.out, B5.out⟩
        case measure => simp [intOf]; omega
    · have e : k = L.length := by omega
      subst e
      rw [List.take_length] at hok
      have Hok := hide hok
      clear hok
      go_wp2
      go_ret
      exact ⟨ret_bool Hok.out.symm, hB⟩
end Go.Proofs.Ytkidfkngehcjgaa
