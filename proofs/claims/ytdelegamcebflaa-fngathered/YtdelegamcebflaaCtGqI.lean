/- The landed code's GatherQc. -/
import Derived.Test.YtdelegamcebflaaCtGq
import Derived.Test.YtdelegamcebflaaCtOkI
namespace Go.Proofs.Ytdelegamcebflaa
open Go.RowKit Go.Sort
set_option linter.unusedVariables false

theorem voted_at (vs : List Tr) (r b : Int) (n : ByteArray) (k : Nat) (h : k < vs.length) (e : vs[k] = (r, b, n)) : votedB vs r b n = true := by
  unfold votedB
  rw [List.any_eq_true]
  exact ⟨vs[k], List.getElem_mem _, by simp [e]⟩
theorem whoQ_step (l : List Vl) (vs : List Tr) (r b : Int) (k : Nat) (h : k < l.length) : whoQ (l.take (k + 1)) vs r b = if votedB vs r b l[k].1 = true then whoQ (l.take k) vs r b ++ [l[k].1] else whoQ (l.take k) vs r b := by
  cases hv : votedB vs r b l[k].1
  · rw [if_neg (by simp)]; exact whoQ_out l vs r b k h hv
  · rw [if_pos rfl]; exact whoQ_in l vs r b k h hv
set_option maxRecDepth 20000 in
set_option maxHeartbeats 4000000 in
theorem indexVote_any (v : Value) (vs : List Tr) (r b : Int) (n : ByteArray) (w : World) (hr : RdR w v vs) (hl : vs.length ≤ 4000000) :
    Calls Try.prog 31 #[v, .agg #[.int .i64 r, .int .i64 b, .string n]] w fun e w' => (∃ i : Int, e = .returned (.int .i64 i) ∧ votedB vs r b n = decide (0 ≤ i)) ∧ Below w.heap.size w w' := by
  obtain ⟨av, cv, rfl⟩ := hr.shape
  have Hr := hide hr
  clear hr
  go_enter Try.func31, Try.ntmps31
  go_wp2
  obtain ⟨w1, hw1⟩ : ∃ w1, w.alloc (.cells #[.int .i64 r, .int .i64 b, .string n] 34) = w1 := ⟨_, rfl⟩
  rw [hw1]
  have hB1 : Below w.heap.size w w1 := by rw [← hw1]; exact (Below.refl _ w).alloc (Nat.le_refl _) _
  have k1 : Blk w1 w.heap.size 34 [.int .i64 r, .int .i64 b, .string n] := by rw [← hw1]; exact Blk.new w _ _
  have HB1 := hide hB1
  have K1 := hide k1
  clear hB1 k1 hw1
  go_loopw [8] (fun iv wr => ∃ k : Nat, k ≤ vs.length ∧ iv = .int .i64 (k : Int) ∧ votedB (vs.take k) r b n = false ∧ Below w1.heap.size w1 wr) (fun iv _ => vs.length - (intOf iv).toNat)
  case atStart => exact ⟨0, Nat.zero_le _, rfl, rfl, Below.refl _ _⟩
  case round =>
    obtain ⟨k, hk, rfl, hno, hq⟩ := hrel
    have HBw := hide (HB1.out.trans (hq.mono HB1.out.size))
    by_cases hkl : k < vs.length
    · obtain ⟨bv, ov, rfl, hv1, hv2, hbv, hat⟩ := Hr.out.at hkl
      have hki : (k : Int) < (vs.length : Int) := by omega
      obtain ⟨t0, t1, t2⟩ := hat.below HBw.out hbv
      have Hsn := hide (voted_snoc vs r b n k hkl)
      have Hat := hide (voted_at vs r b n k hkl)
      rw [hno, Bool.false_or] at Hsn
      have kq := K1.out.below hq K1.out.lt
      have x0 := kq.cell 0
      have x1 := kq.cell 1
      have x2 := kq.cell 2
      simp only [List.getElem?_cons_zero, List.getElem?_cons_succ] at x0 x1 x2
      generalize vs[k] = t at t0 t1 t2 Hsn hat Hat
      obtain ⟨ta, tb, tn⟩ := t
      simp only at t0 t1 t2
      have g0 := cell_regrown t0
      have g1 := cell_regrown t1
      have g2 := cell_regrown t2
      have y0 := cell_regrown x0
      have y1 := cell_regrown x1
      have y2 := cell_regrown x2
      have Hq := hide hq
      clear t0 t1 t2 x0 x1 x2 hat hno kq hq
      by_cases h1 : r = ta
      · rw [← h1] at g0 Hsn Hat
        clear h1
        by_cases h2 : b = tb
        · rw [← h2] at g1 Hsn Hat
          clear h2
          by_cases h3 : n = tn
          · rw [← h3] at g2 Hsn Hat
            clear h3
            have Hr2 : Hid (votedB vs r b n = decide (0 ≤ (k : Int))) := hide (by rw [Hat.out rfl, decide_eq_true (by omega)])
            go_wp2
            refine wp_region_quiet_below (by kernel_rfl) (by kernel_rfl) ?_
            repeat (go_big_quiet_step (fail))
            refine wpQuiet_nil ?_
            intro _ hw'
            obtain ⟨⟨dq, osq⟩, hw''⟩ := hw'
            subst hw''
            go_wp2
            go_ret
            exact ⟨⟨_, rfl, Hr2.out⟩, HBw.out.trans ((below_regrown wr dq osq).mono HBw.out.size)⟩
          · rw [decide_eq_false (by intro e; simp only [Prod.mk.injEq] at e; exact h3 e.2.2.symm)] at Hsn
            have hD := bytes_ne h3
            clear h3
            go_wp2
            refine wp_region_quiet_below (by kernel_rfl) (by kernel_rfl) ?_
            repeat (go_big_quiet_step (fail))
            refine wpQuiet_nil ?_
            intro _ hw'
            obtain ⟨⟨dq, osq⟩, hw''⟩ := hw'
            subst hw''
            go_wp2
            go_roundw
            case rel => exact ⟨k + 1, by omega, by go_num, Hsn.out, Hq.out.trans ((below_regrown wr dq osq).mono Hq.out.size)⟩
            case measure => simp [intOf]; omega
        · rw [decide_eq_false (by intro e; simp only [Prod.mk.injEq] at e; exact h2 e.2.1.symm)] at Hsn
          have hD : (b == tb) = false := by rw [beq_eq_false_iff_ne]; exact h2
          clear h2
          go_wp2
          refine wp_region_quiet_below (by kernel_rfl) (by kernel_rfl) ?_
          repeat (go_big_quiet_step (fail))
          refine wpQuiet_nil ?_
          intro _ hw'
          obtain ⟨⟨dq, osq⟩, hw''⟩ := hw'
          subst hw''
          go_wp2
          go_roundw
          case rel => exact ⟨k + 1, by omega, by go_num, Hsn.out, Hq.out.trans ((below_regrown wr dq osq).mono Hq.out.size)⟩
          case measure => simp [intOf]; omega
      · rw [decide_eq_false (by intro e; simp only [Prod.mk.injEq] at e; exact h1 e.1.symm)] at Hsn
        have hD : (r == ta) = false := by rw [beq_eq_false_iff_ne]; exact h1
        clear h1
        go_wp2
        refine wp_region_quiet_below (by kernel_rfl) (by kernel_rfl) ?_
        repeat (go_big_quiet_step (fail))
        refine wpQuiet_nil ?_
        intro _ hw'
        obtain ⟨⟨dq, osq⟩, hw''⟩ := hw'
        subst hw''
        go_wp2
        go_roundw
        case rel => exact ⟨k + 1, by omega, by go_num, Hsn.out, Hq.out.trans ((below_regrown wr dq osq).mono Hq.out.size)⟩
        case measure => simp [intOf]; omega
    · have Hf : Hid (votedB vs r b n = decide ((0 : Int) ≤ -1)) := hide (by rw [List.take_of_length_le (by omega)] at hno; rw [hno]; rfl)
      clear hno hq
      go_wp2
      go_ret
      exact ⟨⟨_, rfl, Hf.out⟩, HBw.out⟩
set_option maxRecDepth 20000 in
theorem containsVote_any (v : Value) (vs : List Tr) (r b : Int) (n : ByteArray) (w : World) (hr : RdR w v vs) (hl : vs.length ≤ 4000000) :
    Calls Try.prog 18 #[v, .agg #[.int .i64 r, .int .i64 b, .string n]] w fun e w' => e = .returned (.bool (votedB vs r b n)) ∧ Below w.heap.size w w' := by
  obtain ⟨a, c, rfl⟩ := hr.shape
  have hB1 := (Below.refl _ w).alloc (Nat.le_refl _) (.cells #[.int .i64 r, .int .i64 b, .string n] 34)
  have HI := hide (indexVote_any (.slice a vs.length c) vs r b n _ (hr.below hB1 (Nat.le_refl _)) hl)
  have HB1 := hide hB1
  clear hr hB1
  go_enter Try.func18, Try.ntmps18
  go_wp2_with fail
  refine HI.out.mono ?_
  rintro e w1 ⟨⟨i, rfl, hi⟩, hb⟩
  have Hi := hide hi
  have HB := hide (HB1.out.trans (hb.mono HB1.out.size))
  clear hi hb
  go_wp2
  go_ret
  exact ⟨ret_bool Hi.out.symm, HB.out⟩
/-- Behind a name that was asked: those gathered so far, in block Bq. -/
def GatB (base Bq : Nat) (r b : Int) (M : List ByteArray) (w' : World) : Prop := ∃ a c, Blk w' Bq 30 [.int .i64 r, .int .i64 b, .slice a M.length c] ∧ OwnS base w' (.slice a M.length c) M
set_option maxRecDepth 20000 in
set_option maxHeartbeats 2000000 in
theorem gatherOne_any (Bv Br Bb Bq base : Nat) (vv : Value) (vs : List Tr) (r b : Int) (nm : ByteArray) (N M : List ByteArray) (w : World)
    (hv : w.cell? ⟨Bv, 0, none⟩ = some vv) (hr : w.cell? ⟨Br, 0, none⟩ = some (.int .i64 r)) (hb : w.cell? ⟨Bb, 0, none⟩ = some (.int .i64 b)) (hg : GatB base Bq r b N w)
    (hrv : RdR w vv vs) (hlv : vs.length ≤ 4000000) (hN : N.length ≤ 1000000) (hqb : Bq < base) (hbase : base ≤ w.heap.size) (hM : M = if votedB vs r b nm = true then N ++ [nm] else N) :
    Calls Try.prog 17 #[.string nm, .pointer (some ⟨Bv, 0, none⟩), .pointer (some ⟨Br, 0, none⟩), .pointer (some ⟨Bb, 0, none⟩), .pointer (some ⟨Bq, 0, none⟩)] w fun e w' => e = .returned (.tuple #[]) ∧ GatB base Bq r b M w' ∧ Below Bq w w' := by
  obtain ⟨a, c, kq, ho⟩ := hg
  obtain ⟨av, cv, rfl⟩ := hrv.shape
  have HC := hide (containsVote_any (.slice av vs.length cv) vs r b nm w hrv hlv)
  have Kq := hide kq
  have Ho := hide ho
  have HM := hide hM
  clear hrv kq ho hM
  go_enter Try.func17, Try.ntmps17
  go_wp2_with fail
  refine HC.out.mono ?_
  rintro e w2 ⟨rfl, hb2⟩
  have k2 := Kq.out.below hb2 Kq.out.lt
  have o2 := Ho.out.below hb2 (Nat.le_refl _)
  have hz2 := hb2.size
  have HB2 := hide (hb2.mono (show Bq ≤ w.heap.size by omega))
  clear hb2 HC hv hr hb
  cases hD : votedB vs r b nm
  · have e := HM.out
    rw [hD, if_neg (by simp)] at e
    subst e
    have K2 := hide k2
    have O2 := hide o2
    clear hD k2 o2
    go_wp2
    refine bodyPost_end (results_none Try.results17 _ _ _) rfl ?_
    exact ⟨rfl, ⟨a, c, K2.out, O2.out⟩, HB2.out⟩
  · have e := HM.out
    rw [hD, if_pos rfl] at e
    subst e
    have x2 := k2.cell 2
    simp only [List.getElem?_cons_zero, List.getElem?_cons_succ] at x2
    have x2a := (k2.below ((Below.refl _ w2).alloc (Nat.le_refl _) (.cells #[.string nm] 9)) k2.lt).cell 2
    simp only [List.getElem?_cons_zero, List.getElem?_cons_succ] at x2a
    have K2 := hide (k2.below ((Below.refl _ w2).alloc (Nat.le_refl _) (.cells #[.string nm] 9)) k2.lt)
    have O2 := hide o2
    clear hD k2 o2
    go_wp2_with (at_builtin; refine app_ownS _ rfl _ _ rfl base _ _ N [nm] rfl rfl (O2.out.alloc _) (rd_one_str' _ _ _ (by simp)) (by simp; omega) (by simp; omega) ?_; intro v7 w7 ho7 hb7; have k7 := K2.out.below hb7 hqb; have hsh := ho7.rd.shape; rw [List.length_append, List.length_cons, List.length_nil, Nat.zero_add] at hsh; obtain ⟨a7, c7, hv7⟩ := hsh; subst hv7; have x7 := k7.cell 2; have f7 := k7.frozen 2; simp only [List.getElem?_cons_zero, List.getElem?_cons_succ] at x7)
    have HB7 := hide ((HB2.out.trans ((((Below.refl Bq w2).alloc (by omega) (.cells #[.string nm] 9)).trans (hb7.mono (by omega))))).setCell (p := ⟨Bq, 2, none⟩) (Nat.le_refl _) (.slice a7 (N.length + 1) c7))
    have HK7 := hide (k7.setC 2 (.slice a7 (N.length + 1) c7))
    have HO7 := hide (ho7.olderC (g := Bq) hqb 2 (.slice a7 (N.length + 1) c7))
    have HlN : Hid ((N ++ [nm]).length = N.length + 1) := hide (by simp)
    clear k7 ho7 hb7
    refine bodyPost_end (results_none Try.results17 _ _ _) rfl ?_
    exact ⟨rfl, ⟨a7, c7, by rw [HlN.out]; exact HK7.out, by rw [HlN.out]; exact HO7.out⟩, HB7.out⟩
theorem Blk.alC {w : World} {B : Nat} {t : TypeId} {cs : List Value} (h : Blk w B t cs) (o : Obj) : Blk (w.alloc o) B t cs := h.below ((Below.refl _ w).alloc (Nat.le_refl _) o) h.lt
set_option maxRecDepth 20000 in
set_option maxHeartbeats 2000000 in
theorem eachName_any (v vv : Value) (l : List Vl) (vs : List Tr) (r b : Int) (Bv Br Bb Bq base : Nat) (wA w : World) (hl0 : RdV wA v l) (hv0 : RdR wA vv vs) (hA : Below wA.heap.size wA w) (hAq : wA.heap.size ≤ Bq)
    (hv : w.cell? ⟨Bv, 0, none⟩ = some vv) (hr : w.cell? ⟨Br, 0, none⟩ = some (.int .i64 r)) (hb : w.cell? ⟨Bb, 0, none⟩ = some (.int .i64 b)) (hg : GatB base Bq r b [] w) (h1 : Bv < Bq) (h2 : Br < Bq) (h3 : Bb < Bq)
    (hl : l.length ≤ 1000000) (hlv : vs.length ≤ 4000000) (hqb : Bq < base) (hbase : base ≤ w.heap.size) :
    Calls Try.prog 16 #[v, .func (.func 17) #[] #[.pointer (some ⟨Bv, 0, none⟩), .pointer (some ⟨Br, 0, none⟩), .pointer (some ⟨Bb, 0, none⟩), .pointer (some ⟨Bq, 0, none⟩)]] w fun e w' => e = .returned (.tuple #[]) ∧ GatB base Bq r b (whoQ l vs r b) w' ∧ Below Bq w w' := by
  obtain ⟨al, cl, rfl⟩ := hl0.shape
  have Hl0 := hide hl0
  have Hv0 := hide hv0
  have HA := hide hA
  have Hv := hide hv
  have Hr := hide hr
  have Hb := hide hb
  have Hg := hide hg
  clear hl0 hv0 hA hv hr hb hg
  go_enter Try.func16, Try.ntmps16
  go_wp2
  go_loopw [8] (fun iv wr => ∃ i : Nat, i ≤ l.length ∧ iv = .int .i64 (i : Int) ∧ GatB base Bq r b (whoQ (l.take i) vs r b) wr ∧ Below Bq w wr) (fun iv _ => l.length - (intOf iv).toNat)
  case atStart => exact ⟨0, Nat.zero_le _, rfl, Hg.out, Below.refl _ _⟩
  case round =>
    obtain ⟨i, hi, rfl, hgi, hq⟩ := hrel
    have hzq := hq.size
    have hBw : Below wA.heap.size wA wr := HA.out.trans (hq.mono hAq)
    by_cases hlt : i < l.length
    · obtain ⟨bl, ol, rfl, hc1, hc2, hbl, hcl, hcl2⟩ := Hl0.out.at hlt
      have hli : (i : Int) < (l.length : Int) := by omega
      have c0 := (hBw.cell (p := ⟨bl, ol + i * 2, none⟩) hbl).trans hcl
      have c1 := (hBw.cell (p := ⟨bl, ol + i * 2 + 1, none⟩) hbl).trans hcl2
      have hwl := whoQ_len (l.take i) vs r b
      have htk : (l.take i).length ≤ l.length := by simp; omega
      have hstep := whoQ_step l vs r b i hlt
      obtain ⟨M, hMe⟩ : ∃ M, whoQ (l.take (i + 1)) vs r b = M := ⟨_, rfl⟩
      rw [hMe] at hstep
      have HMe := hide hMe
      clear hMe
      generalize whoQ (l.take i) vs r b = N at hgi hwl hstep
      generalize l[i].1 = nm at c0 hcl hstep
      generalize l[i].2 = wt at c1 hcl2
      obtain ⟨w1, hw1⟩ : ∃ w1, wr.alloc (.cells #[.string nm, .int .i64 wt] 46) = w1 := ⟨_, rfl⟩
      have hA1 : Below wr.heap.size wr w1 := by rw [← hw1]; exact (Below.refl _ wr).alloc (Nat.le_refl _) _
      have hB1 := hq.trans (hA1.mono (show Bq ≤ wr.heap.size by omega))
      have k1 : Blk w1 wr.heap.size 46 [.string nm, .int .i64 wt] := by rw [← hw1]; exact Blk.new wr _ _
      have e0 := k1.cell 0
      have e1 := k1.cell 1
      simp only [List.getElem?_cons_zero, List.getElem?_cons_succ] at e0 e1
      have hg1 : GatB base Bq r b N w1 := by
        obtain ⟨a, c, x, y⟩ := hgi
        exact ⟨a, c, x.below hA1 x.lt, y.below hA1 (Nat.le_refl _)⟩
      have HC := hide (gatherOne_any Bv Br Bb Bq base vv vs r b nm N M w1 ((hB1.cell (p := ⟨Bv, 0, none⟩) h1).trans Hv.out) ((hB1.cell (p := ⟨Br, 0, none⟩) h2).trans Hr.out) ((hB1.cell (p := ⟨Bb, 0, none⟩) h3).trans Hb.out) hg1 (Hv0.out.below (HA.out.trans (hB1.mono hAq)) (Nat.le_refl _)) hlv (by omega) hqb (by have := hB1.size; omega) hstep)
      have HB1 := hide hB1
      clear hA1 hB1 k1 hg1 hgi hcl hcl2 hstep hBw hq
      go_wp2_with fail
      refine HC.out.mono ?_
      rintro e w2 ⟨rfl, hg2, hb2⟩
      have HB2 := hide (HB1.out.trans hb2)
      have Hg2 := hide hg2
      clear hb2 hg2 c0 c1 e0 e1
      go_wp2
      go_roundw
      case rel => exact ⟨i + 1, by omega, by go_num, by rw [HMe.out]; exact Hg2.out, HB2.out⟩
      case measure => simp [intOf]; omega
    · have ei : i = l.length := by omega
      subst ei
      rw [List.take_length] at hgi
      have Hgi := hide hgi
      have Hq := hide hq
      clear hgi hq hBw
      go_wp2
      refine bodyPost_end (results_none Try.results16 _ _ _) rfl ?_
      exact ⟨rfl, Hgi.out, Hq.out⟩
set_option maxRecDepth 20000 in
set_option maxHeartbeats 4000000 in
theorem implGatherQc_any (v vv : Value) (l : List Vl) (vs : List Tr) (r b : Int) (w : World) (hr : RdV w v l) (hrv : RdR w vv vs) (hl : l.length ≤ 1000000) (hlv : vs.length ≤ 4000000) (hs : ∀ p ∈ l, p.1.size ≤ maxLen) (hm : ModV l) :
    Calls Try.prog 6 #[v, vv, .int .i64 r, .int .i64 b] w fun e w' => ∃ vw, e = .returned (.tuple #[qcV (gaQ l vs r b).1.1 (gaQ l vs r b).1.2.1 vw, .bool (gaQ l vs r b).2]) ∧ OwnS w.heap.size w' vw (gaQ l vs r b).1.2.2 ∧ Below w.heap.size w w' := by
  have hmf : ∀ (fn : Fn) (first cap : Array Value) (w : World), (Instr.makeFunc fn first cap).run Try.prog w = .ok (.func fn first cap) w := fun _ _ _ _ => rfl
  obtain ⟨al, cl, rfl⟩ := hr.shape
  obtain ⟨av, cv, rfl⟩ := hrv.shape
  have Hr := hide hr
  have Hrv := hide hrv
  clear hr hrv
  go_enter Try.func6, Try.ntmps6
  go_wp2_with fail
  obtain ⟨w5, hw5⟩ : ∃ x, ((((w.alloc (.cells #[.slice av vs.length cv] 25)).alloc (.cells #[.int .i64 r] 3)).alloc (.cells #[.int .i64 b] 3)).alloc (.cells #[.int .i64 0, .int .i64 0, .slice none 0 0] 30)).alloc (.cells #[.int .i64 r, .int .i64 b, .slice none 0 0] 30) = x := ⟨_, rfl⟩
  rw [hw5]
  have hs5 : w5.heap.size = w.heap.size + 5 := by rw [← hw5]; simp
  have hb5 : Below w.heap.size w w5 := by rw [← hw5]; exact (((((Below.refl _ w).alloc (Nat.le_refl _) _).alloc (by simp) _).alloc (by simp; omega) _).alloc (by simp; omega) _).alloc (by simp; omega) _
  have kV : Blk w5 w.heap.size 25 [.slice av vs.length cv] := by rw [← hw5]; exact ((((Blk.new w _ [.slice av vs.length cv]).alC _).alC _).alC _).alC _
  have kr : Blk w5 (w.heap.size + 1) 3 [.int .i64 r] := by rw [← hw5]; exact (((Blk.newR _ _ [.int .i64 r] _ (by simp)).alC _).alC _).alC _
  have kb : Blk w5 (w.heap.size + 2) 3 [.int .i64 b] := by rw [← hw5]; exact ((Blk.newR _ _ [.int .i64 b] _ (by simp)).alC _).alC _
  have kR : Blk w5 (w.heap.size + 3) 30 [.int .i64 0, .int .i64 0, .slice none 0 0] := by rw [← hw5]; exact (Blk.newR _ _ [.int .i64 0, .int .i64 0, .slice none 0 0] _ (by simp)).alC _
  have kQ : Blk w5 (w.heap.size + 4) 30 [.int .i64 r, .int .i64 b, .slice none 0 0] := by rw [← hw5]; exact Blk.newR _ _ [.int .i64 r, .int .i64 b, .slice none 0 0] _ (by simp)
  refine (eachName_any (.slice al l.length cl) (.slice av vs.length cv) l vs r b w.heap.size (w.heap.size + 1) (w.heap.size + 2) (w.heap.size + 4) (w.heap.size + 5) w w5 Hr.out Hrv.out hb5 (by omega) (kV.cell 0) (kr.cell 0) (kb.cell 0) ⟨none, 0, kQ, World.ownsRow_nil _ _ _ _⟩ (by omega) (by omega) (by omega) hl hlv (by omega) (by omega)).mono ?_
  rintro e w6 ⟨rfl, ⟨a, c, kq, ho⟩, hb6⟩
  have hz6 := hb6.size
  have hB6 : Below w.heap.size w w6 := hb5.trans (hb6.mono (by omega))
  have r6 := kR.below hb6 (by omega)
  have hwl := whoQ_len l vs r b
  have hws : ∀ s ∈ whoQ l vs r b, s.size ≤ maxLen := fun s h => by
    obtain ⟨p, hp, rfl⟩ := List.mem_map.1 (List.mem_filter.1 h).1
    exact hs p hp
  have HG : Hid (gaQ l vs r b = if qcB l r b (whoQ l vs r b) = true ∧ rootB r b (whoQ l vs r b) = false then ((r, b, whoQ l vs r b), true) else ((0, 0, []), false)) := hide rfl
  generalize whoQ l vs r b = N at kq ho hwl hws HG
  have HQ := hide (fun V (hV : Below w6.heap.size w6 V) => implQcOk_any (.slice al l.length cl) (.slice a N.length c) l r b N V (Hr.out.below (hB6.trans (hV.mono hB6.size)) (Nat.le_refl _)) (ho.rd.below hV (Nat.le_refl _)) (by omega) (by omega) hws hm)
  have HRt := hide (implIsRootQc_any r b (.slice a N.length c) N w6 ho.rd (by omega))
  simp only [qcV] at HQ HRt
  generalize qcB l r b N = Q0 at HQ HG
  generalize rootB r b N = R0 at HRt HG
  have x0 := kq.cell 0
  have x1 := kq.cell 1
  have x2 := kq.cell 2
  simp only [List.getElem?_cons_zero, List.getElem?_cons_succ] at x0 x1 x2
  have Kq := hide kq
  have Ho := hide ho
  have HB6 := hide hB6
  have R6 := hide r6
  clear kq ho hb6 hB6 r6 hws kV kr kb kR kQ hb5 hw5 hs hm Hr Hrv
  go_wp2_with fail
  refine HRt.out.mono ?_
  rintro e w7 ⟨rfl, hb7⟩
  have hz7 := hb7.size
  have HQ7 := hide (HQ.out w7 hb7)
  have k7 := Kq.out.below hb7 Kq.out.lt
  have r7 := R6.out.below hb7 R6.out.lt
  have o7 := Ho.out.below hb7 (Nat.le_refl _)
  have hB7 := HB6.out.trans (hb7.mono HB6.out.size)
  have y0 := k7.cell 0
  have y1 := k7.cell 1
  have y2 := k7.cell 2
  simp only [List.getElem?_cons_zero, List.getElem?_cons_succ] at y0 y1 y2
  clear x0 x1 x2 Kq R6 Ho HB6 hb7 HQ HRt
  cases R0
  · go_wp2_with fail
    refine HQ7.out.mono ?_
    rintro e w8 ⟨rfl, hb8⟩
    have hz8 := hb8.size
    have k8 := k7.below hb8 k7.lt
    have r8 := r7.below hb8 r7.lt
    have o8 := o7.below hb8 (Nat.le_refl _)
    have hB8 := hB7.trans (hb8.mono hB7.size)
    have p0 := k8.cell 0
    have p1 := k8.cell 1
    have p2 := k8.cell 2
    have u0 := r8.cell 0
    have u1 := r8.cell 1
    have u2 := r8.cell 2
    have g0 := r8.frozen 0
    have g1 := r8.frozen 1
    have g2 := r8.frozen 2
    simp only [List.getElem?_cons_zero, List.getElem?_cons_succ] at p0 p1 p2 u0 u1 u2
    clear y0 y1 y2 k7 r7 o7 hB7 hb8 HQ7
    cases Q0
    · rw [if_neg (by simp)] at HG
      have HBF := hide (((hB8.setCell (p := ⟨w.heap.size + 3, 0, none⟩) (by simp) (.int .i64 0)).setCell (p := ⟨w.heap.size + 3, 1, none⟩) (by simp) (.int .i64 0)).setCell (p := ⟨w.heap.size + 3, 2, none⟩) (by simp) (.slice none 0 0))
      clear k8 r8 o8 hB8
      go_wp2
      refine bodyPost_ret (v := .tuple #[.agg #[.int .i64 0, .int .i64 0, .slice none 0 0], .bool false]) (by simp [results, Try.f6, go_sem, u0, u1, u2]) rfl ?_
      rw [HG.out]
      exact ⟨_, rfl, World.ownsRow_nil _ _ _ _, HBF.out⟩
    · rw [if_pos (by simp)] at HG
      have HBF := hide (((hB8.setCell (p := ⟨w.heap.size + 3, 0, none⟩) (by simp) (.int .i64 r)).setCell (p := ⟨w.heap.size + 3, 1, none⟩) (by simp) (.int .i64 b)).setCell (p := ⟨w.heap.size + 3, 2, none⟩) (by simp) (.slice a N.length c))
      have HOF := hide ((((o8.olderC (g := w.heap.size + 3) (by omega) 0 (.int .i64 r)).olderC (g := w.heap.size + 3) (by omega) 1 (.int .i64 b)).olderC (g := w.heap.size + 3) (by omega) 2 (.slice a N.length c)).mono (show w.heap.size ≤ w.heap.size + 5 by omega))
      clear k8 r8 o8 hB8
      go_wp2
      refine bodyPost_ret (v := .tuple #[.agg #[.int .i64 r, .int .i64 b, .slice a N.length c], .bool true]) (by simp [results, Try.f6, go_sem, u0, u1, u2]) rfl ?_
      rw [HG.out]
      exact ⟨_, rfl, HOF.out, HBF.out⟩
  · rw [if_neg (by simp)] at HG
    have u0 := r7.cell 0
    have u1 := r7.cell 1
    have u2 := r7.cell 2
    have g0 := r7.frozen 0
    have g1 := r7.frozen 1
    have g2 := r7.frozen 2
    simp only [List.getElem?_cons_zero, List.getElem?_cons_succ] at u0 u1 u2
    have HBF := hide (((hB7.setCell (p := ⟨w.heap.size + 3, 0, none⟩) (by simp) (.int .i64 0)).setCell (p := ⟨w.heap.size + 3, 1, none⟩) (by simp) (.int .i64 0)).setCell (p := ⟨w.heap.size + 3, 2, none⟩) (by simp) (.slice none 0 0))
    clear k7 r7 o7 hB7 HQ7
    go_wp2
    refine bodyPost_ret (v := .tuple #[.agg #[.int .i64 0, .int .i64 0, .slice none 0 0], .bool false]) (by simp [results, Try.f6, go_sem, u0, u1, u2]) rfl ?_
    rw [HG.out]
    exact ⟨_, rfl, World.ownsRow_nil _ _ _ _, HBF.out⟩
end Go.Proofs.Ytdelegamcebflaa
