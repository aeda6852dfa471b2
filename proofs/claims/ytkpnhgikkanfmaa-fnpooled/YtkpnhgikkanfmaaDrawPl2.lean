/- A drawn pool, and an order to be put into it. -/
import Derived.Test.YtkpnhgikkanfmaaDrawPl
namespace Go.Proofs.Ytkpnhgikkanfmaa
open Go.RowKit
set_option linter.unusedVariables false

theorem rdT_at7 {w : World} {a : Option Addr} {cap i : Nat} {l : List Tx5} (h : RdT w (.slice a l.length cap) l) (hi : i < l.length) : ∃ b off, a = some ⟨b, off, none⟩ ∧ b < w.heap.size ∧ TxAt w b (off + i * 5) l[i] := by
  rcases h with ⟨a', cap', hv, rfl, -⟩ | ⟨b, off, cap', h0, hv, h1, h2, h3, h4⟩
  · simp at hi
  · cases hv; exact ⟨b, off, rfl, h3, h4 i hi⟩
theorem own_putR {base b : Nat} {V : World} {v : Value} {l : List Tx5} (h : OwnT base V v l) (hb : b < base) (y0 y1 y2 y3 y4 : Value) : OwnT base (((((V.setCell ⟨b, 0, none⟩ y0).setCell ⟨b, 1, none⟩ y1).setCell ⟨b, 2, none⟩ y2).setCell ⟨b, 3, none⟩ y3).setCell ⟨b, 4, none⟩ y4) v l :=
  ((((h.notg (grown_set _ b 0 y0) hb).notg (grown_set _ b 1 y1) hb).notg (grown_set _ b 2 y2) hb).notg (grown_set _ b 3 y3) hb).notg (grown_set _ b 4 y4) hb
set_option maxRecDepth 20000 in
set_option maxHeartbeats 2000000 in
theorem drawPoolAdd_any (w : World) (cv : Value) (code : List UInt8) (hr : RdB w cv code) (hl : code.length ≤ 1048576) :
    Calls Try.prog 27 #[cv] w fun e w' => ∃ (v : Value) (l : List Tx5) (t : Tx5), e = .returned (.tuple #[v, txV t]) ∧ RdT w' v l ∧ l.length ≤ 20 ∧ (∀ x ∈ l, SmT x) ∧ SmT t ∧ Below w.heap.size w w' := by
  obtain ⟨w1, hw1⟩ : ∃ x, w.alloc (.cells #[.int .i64 0, .string { data := #[] }, .string { data := #[] }, .int .i64 0, .int .i64 0] 34) = x := ⟨_, rfl⟩
  have hs1 : w1.heap.size = w.heap.size + 1 := by rw [← hw1]; simp
  have hb1 : Below w.heap.size w w1 := by rw [← hw1]; exact (Below.refl _ w).alloc (Nat.le_refl _) _
  have k1 : Blk w1 w.heap.size 34 [.int .i64 0, .string { data := #[] }, .string { data := #[] }, .int .i64 0, .int .i64 0] := by rw [← hw1]; exact Blk.new w _ _
  have hr1 := hr.below hb1 (Nat.le_refl _)
  have HN := hide (l1New_any w1 cv code hr1 hl)
  have Hr := hide (fun V (hV : Below w1.heap.size w1 V) => hr1.below hV (Nat.le_refl _))
  obtain ⟨a, c, rfl⟩ : ∃ a c, cv = .slice a code.length c := by
    rcases hr with ⟨a, c, h1, h2, -⟩ | ⟨b, off, c, h0, h1, _⟩
    · subst h2; exact ⟨a, c, h1⟩
    · exact ⟨_, c, h1⟩
  have K1 := hide k1
  have Hb := hide hb1
  have S1 := hide hs1
  clear hr hr1 k1 hb1 hs1
  go_enter Try.func27, Try.ntmps27
  go_wp2_with fail
  refine HN.out.mono ?_
  rintro e w2 ⟨rfl, hc2, hb2⟩
  have HC2 := hide hc2
  have hgl : w1.heap.size < w2.heap.size := hc2.lt
  have K2 := hide (K1.out.below hb2 K1.out.lt)
  have B2 := hide hb2
  clear hc2 hb2 K1 HN
  go_wp2_with fail
  refine (l1Size_any (.slice a code.length c) code 12 w2 (Hr.out w2 B2.out) hl (by omega)).mono ?_
  rintro e w2 ⟨⟨n, rfl, hn⟩, rfl⟩
  go_wp2_with fail
  refine (l12Any_any w1 w2 w1.heap.size _ code n HC2.out hl (by omega)).mono ?_
  rintro e w3 ⟨v3, l3, rfl, o3, hlen3, hsm3, hc3, hg3⟩
  obtain ⟨a3, c3, rfl⟩ := o3.rd.shape
  have HO3 := hide o3
  have HS3 := hide hsm3
  have HG3 := hide hg3
  clear o3 hsm3 hg3 HC2 hw1
  go_wp2_with fail
  refine (l1Once_any w1 w3 w1.heap.size _ code 30 hc3 hl (by omega) (by omega)).mono ?_
  rintro e w4 ⟨bo, rfl, hc4, hg4⟩
  have HC4 := hide hc4
  have HO4 := hide (HO3.out.notg hg4 hgl)
  have HG4 := hide (grw_trans HG3.out hg4)
  clear hc3 hc4 hg4 HO3 HG3
  go_upto_if 14 with fail
  go_cut [5, 6] from 7 (fun lv iv wc => ∃ (l : List Tx5) (a' : Option Addr) (c' : Nat), lv = .slice a' l.length c' ∧ OwnT w2.heap.size wc (.slice a' l.length c') l ∧ l.length ≤ 20 ∧ (∀ x ∈ l, SmT x) ∧ Cur w1 wc w1.heap.size (.slice a code.length c) code ∧ w2.grownBy wc (some w1.heap.size))
  case first =>
    cases bo
    · go_wp2
      go_meet
      case rel => exact ⟨l3, a3, c3, rfl, HO4.out, by omega, HS3.out, HC4.out, HG4.out⟩
    · have hz4 := HG4.out.size
      have hb5 : Below w4.heap.size w4 (w4.alloc (.cells #[] 34)) := (Below.refl _ w4).alloc (Nat.le_refl _) _
      have HO5 := hide (own_nilT w4 w2.heap.size hz4)
      have HC5 := hide (HC4.out.below hb5 HC4.out.lt)
      have HG5 := hide (grw_below HG4.out hb5 hz4)
      clear hb5 HO4 HC4 HG4 HS3
      go_wp2
      go_loopw [5, 6] (fun ov iv wr => ∃ (i : Nat) (l : List Tx5) (a' : Option Addr) (c' : Nat), l.length = i ∧ i ≤ 20 ∧ iv = .int .i64 (i : Int) ∧ ov = .slice a' l.length c' ∧ OwnT w2.heap.size wr (.slice a' l.length c') l ∧ (∀ x ∈ l, SmT x) ∧ Cur w1 wr w1.heap.size (.slice a code.length c) code ∧ w2.grownBy wr (some w1.heap.size)) (fun _ iv _ => 20 - (intOf iv).toNat)
      case atStart => exact ⟨0, [], some ⟨w4.heap.size, 0, none⟩, 0, rfl, by omega, rfl, rfl, HO5.out, (fun x hx => by cases hx), HC5.out, HG5.out⟩
      case round =>
        obtain ⟨i, l, a', c', hli, hi, rfl, rfl, ho, hsm, hc, hg⟩ := hrel
        clear HO5 HC5 HG5
        have HO := hide ho
        have HS := hide hsm
        have HC := hide hc
        have HG := hide hg
        have Hli := hide hli
        clear ho hsm hc hg hli
        go_wp2_with fail
        refine (l1Below_any w1 wr w1.heap.size _ code 2 HC.out hl (by omega) (by omega)).mono ?_
        rintro e w6 ⟨x, rfl, hx, -, hc6, hg6⟩
        have hx2 := hx (by omega)
        have HO6 := hide (HO.out.notg hg6 hgl)
        have HC6 := hide hc6
        have HG6 := hide (grw_trans HG.out hg6)
        have hz6 := HG6.out.size
        clear hx hc6 hg6 HO HC HG
        have ew : IntKind.i64.wrap (20 - (x : Int)) = 20 - (x : Int) := by rw [IntKind.wrap_i64]; omega
        by_cases hlt : (i : Int) < 20 - (x : Int)
        · have ei : IntKind.i64.wrap ((i : Int) + 10) = (i : Int) + 10 := by rw [IntKind.wrap_i64]; omega
          have hb7 : Below w6.heap.size w6 (w6.alloc (.cells #[.int .i64 2, .string { data := #[97] }, .string { data := #[] }, .int .i64 1, .int .i64 ((i : Int) + 10)] 34)) := (Below.refl _ w6).alloc (Nat.le_refl _) _
          have HO7 := hide (HO6.out.below hb7 (Nat.le_refl _))
          have HK7 := hide (Blk.new w6 34 [.int .i64 2, .string { data := #[97] }, .string { data := #[] }, .int .i64 1, .int .i64 ((i : Int) + 10)])
          have HC7 := hide (HC6.out.below hb7 HC6.out.lt)
          have HG7 := hide (grw_below HG6.out hb7 hz6)
          have hlb : l.length ≤ 100000000 := by have := Hli.out; omega
          clear hb7 HO6 HC6 HG6
          go_wp2_with (at_builtin; refine app_ownT1 _ rfl _ _ rfl w2.heap.size _ _ l (2, { data := #[97] }, { data := #[] }, 1, (i : Int) + 10) rfl rfl HO7.out HK7.out hlb (by simp; omega) ?_; intro v8 w8 o8 hg8 hl8; obtain ⟨a8, c8, rfl⟩ := o8.rd.shape)
          have hB8 : Below w2.heap.size (w6.alloc (.cells #[.int .i64 2, .string { data := #[97] }, .string { data := #[] }, .int .i64 1, .int .i64 ((i : Int) + 10)] 34)) w8 := (Below.refl _ _).grown hg8 (by simp; omega) (fun q hq => (HO7.out.lt q hq).1)
          go_roundw
          case rel =>
            refine ⟨i + 1, l ++ [(2, { data := #[97] }, { data := #[] }, 1, (i : Int) + 10)], a8, c8, by have := Hli.out; simp; omega, by omega, by go_num, by simp, o8, fun y hy => ?_, HC7.out.below hB8 hgl, ?_⟩
            · rcases List.mem_append.1 hy with h | h
              · exact HS.out y h
              · rw [List.mem_singleton.1 h]
                have h1 : ByteArray.size { data := #[97] } = 1 := rfl
                have h2 : ByteArray.size { data := #[] } = 0 := rfl
                refine ⟨?_, ?_, ?_, ?_, ?_⟩ <;> simp only [h1, h2] <;> omega
            · exact ⟨hB8.os.trans HG7.out.os, hB8.tape.trans HG7.out.tape, hB8.output.trans HG7.out.output, Nat.le_trans HG7.out.size hB8.size, fun k hk hn => (hB8.block k hk).trans (HG7.out.block k hk hn)⟩
          case measure => simp [intOf]; omega
        · have hll : l.length ≤ 20 := by have := Hli.out; omega
          go_wp2
          go_meet
          case rel => exact ⟨l, a', c', rfl, HO6.out, hll, HS.out, HC6.out, HG6.out⟩
  case rest =>
    obtain ⟨l, a5, c5, rfl, ho, hlen, hsm, hc, hg⟩ := hcut
    obtain ⟨w5, rfl⟩ : ∃ z, z = wc := ⟨_, rfl⟩
    have hz5 := hg.size
    have s1 := S1.out
    have HS := hide hsm
    have K5 := hide (blk_notg5 K2.out hg (by omega))
    have HO := hide ho
    have HC := hide hc
    have HB5 := hide (Hb.out.trans (hc.bel.mono (by omega)))
    clear hsm ho hc hg HO4 HC4 HG4 HS3 s1
    by_cases h0 : 0 < l.length
    · have h0i : (0 : Int) < (l.length : Int) := by omega
      go_wp2_with fail
      refine (l1Once_any w1 w5 w1.heap.size _ code 5 HC.out hl (by omega) (by omega)).mono ?_
      rintro e w6 ⟨b6, rfl, hc6, hg6⟩
      have HOV := hide (HO.out.notg hg6 hgl)
      have KV := hide (blk_notg5 K5.out hg6 (by have := S1.out; omega))
      have HCV := hide hc6
      clear hc6 hg6 HO K5 HC HB5
      cases b6
      · go_wp2_with fail
        refine (l5Any_any w1 w6 w1.heap.size _ code HCV.out hl).mono ?_
        rintro e w7 ⟨t, rfl, ht, hc7, hg7⟩
        obtain ⟨kd, fm, tn, am, nc⟩ := t
        simp only [txV]
        have k7 := blk_notg5 KV.out hg7 (by have := S1.out; omega)
        have p0 := k7.cell 0
        have p1 := k7.cell 1
        have p2 := k7.cell 2
        have p3 := k7.cell 3
        have p4 := k7.cell 4
        have f0 := k7.frozen 0
        have f1 := k7.frozen 1
        have f2 := k7.frozen 2
        have f3 := k7.frozen 3
        have f4 := k7.frozen 4
        simp only [List.getElem?_cons_zero, List.getElem?_cons_succ] at p0 p1 p2 p3 p4
        have O7 := hide (own_putR (HOV.out.notg hg7 hgl) (show w.heap.size < w2.heap.size by have := S1.out; omega) (.int .i64 kd) (.string fm) (.string tn) (.int .i64 am) (.int .i64 nc))
        have B7 := hide ((Hb.out.trans (hc7.bel.mono (by have := S1.out; omega))).trans (below_put5 w7 w.heap.size (.int .i64 kd) (.string fm) (.string tn) (.int .i64 am) (.int .i64 nc)))
        have Ht := hide ht
        clear k7 ht hc7 hg7 HCV KV HOV
        go_wp2
        refine bodyPost_ret (v := .tuple #[.slice a5 l.length c5, .agg #[.int .i64 kd, .string fm, .string tn, .int .i64 am, .int .i64 nc]]) (by simp [results, Try.f27, go_sem, p0, p1, p2, p3, p4]) rfl ?_
        exact ⟨_, l, (kd, fm, tn, am, nc), rfl, O7.out.rd, hlen, HS.out, Ht.out, B7.out⟩
      · have bD : Below w6.heap.size w6 w6.drew := (Below.refl _ w6).drew
        have HCD := hide (HCV.out.below bD HCV.out.lt)
        have OD := hide (HOV.out.below bD (Nat.le_refl _))
        have KD := hide (KV.out.below bD KV.out.lt)
        clear HCV HOV KV bD
        go_wp2
        go_region_law ((go_simp; go_at_call 61; (with_reducible refine (l1Below_any w1 w6.drew w1.heap.size _ code (l.length : Int) HCD.out hl (by omega) (by omega)).mono ?_); rintro e w7 ⟨x, rfl, hx, -, hc7, hg7⟩; have hxl : x < l.length := (by have := hx h0i; omega); have hxi : (x : Int) < (l.length : Int) := hx h0i; have o7 := OD.out.notg hg7 hgl; obtain ⟨bt, ot, hat, hbt, hT⟩ := rdT_at7 o7.rd hxl; subst hat; have hst := HS.out l[x] (List.getElem_mem hxl); generalize l[x] = t at hT hst; obtain ⟨kd, fm, tn, am, nc⟩ := t; obtain ⟨q0, q1, q2, q3, q4⟩ := hT; have k7 := blk_notg5 KD.out hg7 (by have := S1.out; omega); have p0 := k7.cell 0; have p1 := k7.cell 1; have p2 := k7.cell 2; have p3 := k7.cell 3; have p4 := k7.cell 4; have f0 := k7.frozen 0; have f1 := k7.frozen 1; have f2 := k7.frozen 2; have f3 := k7.frozen 3; have f4 := k7.frozen 4; simp only [List.getElem?_cons_zero, List.getElem?_cons_succ] at p0 p1 p2 p3 p4 q0 q1 q2 q3 q4))
        all_goals
          have O7 := hide (own_putR o7 (show w.heap.size < w2.heap.size by have := S1.out; omega) (.int .i64 kd) (.string fm) (.string tn) (.int .i64 am) (.int .i64 nc))
          have B7 := hide ((Hb.out.trans (hc7.bel.mono (by have := S1.out; omega))).trans (below_put5 w7 w.heap.size (.int .i64 kd) (.string fm) (.string tn) (.int .i64 am) (.int .i64 nc)))
          clear k7 hc7 hg7 o7
          go_wp2
          refine bodyPost_ret (v := .tuple #[.slice (some ⟨bt, ot, none⟩) l.length c5, .agg #[.int .i64 kd, .string fm, .string tn, .int .i64 am, .int .i64 nc]]) (by simp [results, Try.f27, go_sem, p0, p1, p2, p3, p4]) rfl ?_
          exact ⟨_, l, (kd, fm, tn, am, nc), rfl, O7.out.rd, hlen, HS.out, hst, B7.out⟩
    · have h0i : ¬ ((0 : Int) < (l.length : Int)) := by omega
      have HOV := HO
      have KV := K5
      have HCV := HC
      clear HO K5 HC HB5
      go_wp2_with fail
      refine (l5Any_any w1 w5 w1.heap.size _ code HCV.out hl).mono ?_
      rintro e w7 ⟨t, rfl, ht, hc7, hg7⟩
      obtain ⟨kd, fm, tn, am, nc⟩ := t
      simp only [txV]
      have k7 := blk_notg5 KV.out hg7 (by have := S1.out; omega)
      have p0 := k7.cell 0
      have p1 := k7.cell 1
      have p2 := k7.cell 2
      have p3 := k7.cell 3
      have p4 := k7.cell 4
      have f0 := k7.frozen 0
      have f1 := k7.frozen 1
      have f2 := k7.frozen 2
      have f3 := k7.frozen 3
      have f4 := k7.frozen 4
      simp only [List.getElem?_cons_zero, List.getElem?_cons_succ] at p0 p1 p2 p3 p4
      have O7 := hide (own_putR (HOV.out.notg hg7 hgl) (show w.heap.size < w2.heap.size by have := S1.out; omega) (.int .i64 kd) (.string fm) (.string tn) (.int .i64 am) (.int .i64 nc))
      have B7 := hide ((Hb.out.trans (hc7.bel.mono (by have := S1.out; omega))).trans (below_put5 w7 w.heap.size (.int .i64 kd) (.string fm) (.string tn) (.int .i64 am) (.int .i64 nc)))
      have Ht := hide ht
      clear k7 ht hc7 hg7 HCV KV HOV
      go_wp2
      refine bodyPost_ret (v := .tuple #[.slice a5 l.length c5, .agg #[.int .i64 kd, .string fm, .string tn, .int .i64 am, .int .i64 nc]]) (by simp [results, Try.f27, go_sem, p0, p1, p2, p3, p4]) rfl ?_
      exact ⟨_, l, (kd, fm, tn, am, nc), rfl, O7.out.rd, hlen, HS.out, Ht.out, B7.out⟩
end Go.Proofs.Ytkpnhgikkanfmaa
