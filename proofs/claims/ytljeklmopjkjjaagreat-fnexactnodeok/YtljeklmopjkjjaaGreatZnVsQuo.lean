/- What those who vote weigh, by the landed code: WeightOf, TotalOf, LeaderOf. Quorums, on both sides, where the weights are small. -/
import Derived.Test.YtljeklmopjkjjaaGreatZnVsSum
namespace Go.Proofs.YtljeklmopjkjjaaGreat
open Go.RowKit
set_option linter.unusedVariables false

set_option maxRecDepth 20000 in
set_option maxHeartbeats 1000000 in
theorem index_any (v : Value) (ns : List ByteArray) (s : ByteArray) (w : World) (hr : RdS w v ns) (hl : ns.length ≤ 4000000) :
    Calls Tryz.prog 151 #[v, .string s] w fun e w' => (∃ i : Int, e = .returned (.int .i64 i) ∧ hasN ns s = decide (0 ≤ i)) ∧ Below w.heap.size w w' := by
  rcases hr with ⟨a, cap, rfl, rfl, -⟩ | ⟨b, off, cap, h0, rfl, h1, h2, h3, h4⟩
  · go_enter Tryz.func151, Tryz.ntmps151
    go_wp2
    refine wp_loop_rounds 1 ?_
    rw [rounds_succ]
    go_wp2
    go_ret
    exact ⟨⟨_, rfl, rfl⟩, Below.refl _ _⟩
  · have H4 := hide h4
    clear h4
    go_enter Tryz.func151, Tryz.ntmps151
    go_wp2
    go_loopw [8] (fun i wr => ∃ k : Nat, k ≤ ns.length ∧ i = .int .i64 k ∧ s ∉ ns.take k ∧ Below w.heap.size w wr) (fun i _ => ns.length - (intOf i).toNat)
    case atStart => exact ⟨0, Nat.zero_le _, rfl, by simp, Below.refl _ _⟩
    case round =>
      obtain ⟨k, hk, rfl, hno, hb⟩ := hrel
      have Hno := hide hno
      clear hno
      by_cases hlt : k < ns.length
      · have hc := (hb.cell (p := ⟨b, off + k, none⟩) h3).trans (H4.out k hlt)
        have hli : (k : Int) < (ns.length : Int) := by omega
        by_cases he : ns[k] = s
        · have Hr : Hid (hasN ns s = decide (0 ≤ (k : Int))) := hide (by rw [hasN_yes (by rw [← he]; exact List.getElem_mem _), decide_eq_true (by omega)])
          rw [he] at hc
          clear he
          go_wp2
          go_ret
          exact ⟨⟨_, rfl, Hr.out⟩, hb⟩
        · have Hn2 := hide (mem_next hlt Hno.out he)
          have hq := bytes_ne he
          have hq2 := bytes_ne (Ne.symm he)
          clear he Hno
          generalize ns[k] = t at hc hq hq2
          go_wp2
          go_roundw
          case rel => exact ⟨k + 1, by omega, by go_num, Hn2.out, hb⟩
          case measure => simp [intOf]; omega
      · have Hr : Hid (hasN ns s = decide ((0 : Int) ≤ -1)) := hide (by rw [hasN_no (by have := Hno.out; rwa [List.take_of_length_le (by omega)] at this)]; rfl)
        go_wp2
        go_ret
        exact ⟨⟨_, rfl, Hr.out⟩, hb⟩
set_option maxRecDepth 20000 in
theorem contains_any (v : Value) (ns : List ByteArray) (s : ByteArray) (w : World) (hr : RdS w v ns) (hl : ns.length ≤ 4000000) :
    Calls Tryz.prog 149 #[v, .string s] w fun e w' => e = .returned (.bool (hasN ns s)) ∧ Below w.heap.size w w' := by
  obtain ⟨a, c, rfl⟩ := hr.shape
  have HI := hide (index_any _ ns s w hr hl)
  clear hr
  go_enter Tryz.func149, Tryz.ntmps149
  go_wp2_with fail
  refine HI.out.mono ?_
  rintro e w1 ⟨⟨i, rfl, hi⟩, hb⟩
  have Hi := hide hi
  clear hi
  go_wp2
  go_ret
  exact ⟨ret_bool Hi.out.symm, hb⟩
set_option maxRecDepth 20000 in
theorem alone_any (p : Vl) (w : World) : Calls Tryz.prog 147 #[.agg #[.string p.1, .int .i64 p.2]] w fun e w' => e = .returned (.int .i64 p.2) ∧ Below w.heap.size w w' := by
  obtain ⟨a, b⟩ := p
  have hB := hide ((Below.refl _ w).alloc (Nat.le_refl _) (.cells #[.string a, .int .i64 b] 121))
  go_enter Tryz.func147, Tryz.ntmps147
  go_wp2
  go_ret
  exact ⟨rfl, hB.out⟩
set_option maxRecDepth 20000 in
set_option maxHeartbeats 1000000 in
theorem among_any (p : Vl) (B : Nat) (vn : Value) (ns : List ByteArray) (w : World) (hc : w.cell? ⟨B, 0, none⟩ = some vn) (hB : B < w.heap.size) (hr : RdS w vn ns) (hl : ns.length ≤ 4000000) :
    Calls Tryz.prog 148 #[.agg #[.string p.1, .int .i64 p.2], .pointer (some ⟨B, 0, none⟩)] w fun e w' => e = .returned (.int .i64 (wtN ns p)) ∧ Below w.heap.size w w' := by
  obtain ⟨a, b⟩ := p
  obtain ⟨an, cn, rfl⟩ := hr.shape
  obtain ⟨w1, hw1⟩ : ∃ w1, w.alloc (.cells #[.string a, .int .i64 b] 121) = w1 := ⟨_, rfl⟩
  have hB1 : Below w.heap.size w w1 := by rw [← hw1]; exact (Below.refl _ w).alloc (Nat.le_refl _) _
  have k1 : Blk w1 w.heap.size 121 [.string a, .int .i64 b] := by rw [← hw1]; exact Blk.new w _ _
  have c0 := k1.cell 0
  have c1 := k1.cell 1
  simp only [List.getElem?_cons_zero, List.getElem?_cons_succ] at c0 c1
  have cB := (hB1.cell (p := ⟨B, 0, none⟩) hB).trans hc
  have HC := hide (fun V (hb : Below w1.heap.size w1 V) => contains_any (.slice an ns.length cn) ns a V ((hr.below hB1 (Nat.le_refl _)).below hb (Nat.le_refl _)) hl)
  simp only
  have Hw : Hid (wtN ns (a, b) = if hasN ns a = true then b else 0) := hide rfl
  generalize wtN ns (a, b) = X at Hw ⊢
  clear hr hc
  go_enter Tryz.func148, Tryz.ntmps148
  go_wp2_with fail
  refine (HC.out _ (Below.refl _ _)).mono ?_
  rintro e w2 ⟨rfl, hb2⟩
  have k2 := k1.below hb2 k1.lt
  have d1 := k2.cell 1
  simp only [List.getElem?_cons_zero, List.getElem?_cons_succ] at d1
  have HB2 := hide (hB1.trans (hb2.mono hB1.size))
  clear c0 c1 cB k1 k2 hb2 hB1 HC hw1
  cases hm : hasN ns a
  · have hX := hide (Hw.out.trans (if_neg (by rw [hm]; simp)))
    clear hm Hw
    go_wp2
    go_ret
    exact ⟨ret_int hX.out.symm, HB2.out⟩
  · have hX := hide (Hw.out.trans (if_pos hm))
    clear hm Hw
    go_wp2
    go_ret
    exact ⟨ret_int hX.out.symm, HB2.out⟩
set_option maxRecDepth 20000 in
set_option maxHeartbeats 1000000 in
theorem sumAlone_any (v : Value) (l : List Vl) (w : World) (hr : RdV w v l) (hl : l.length ≤ 4000000) :
    Calls Tryz.prog 146 #[v, .func (.func 147) #[] #[]] w fun e w' => e = .returned (.int .i64 (sumV (fun p : Vl => p.2) l)) ∧ Below w.heap.size w w' := by
  rcases hr with ⟨a, cap, rfl, rfl, -⟩ | ⟨b, off, cap, h0, rfl, h1, h2, h3, h4⟩
  · go_enter Tryz.func146, Tryz.ntmps146
    go_wp2
    refine wp_loop_rounds 1 ?_
    rw [rounds_succ]
    go_wp2
    go_ret
    exact ⟨rfl, Below.refl _ _⟩
  · have H4 := hide h4
    clear h4
    go_enter Tryz.func146, Tryz.ntmps146
    go_wp2
    go_loopw [5, 10] (fun nv iv wr => ∃ k : Nat, k ≤ l.length ∧ iv = .int .i64 k ∧ nv = .int .i64 (sumV (fun p : Vl => p.2) (l.take k)) ∧ Below w.heap.size w wr) (fun _ iv _ => l.length - (intOf iv).toNat)
    case atStart => exact ⟨0, Nat.zero_le _, rfl, rfl, Below.refl _ _⟩
    case round =>
      obtain ⟨k, hkl, rfl, rfl, hb⟩ := hrel
      by_cases hlt : k < l.length
      · have c0 := (hb.cell (p := ⟨b, off + k * 2, none⟩) h3).trans (H4.out k hlt).1
        have c1 := (hb.cell (p := ⟨b, off + k * 2 + 1, none⟩) h3).trans (H4.out k hlt).2
        have hli : (k : Int) < (l.length : Int) := by omega
        have Hf := hide (sumV_snoc (fun p : Vl => p.2) l k hlt)
        generalize sumV (fun p : Vl => p.2) (l.take k) = acc at Hf ⊢
        generalize l[k] = p at c0 c1 Hf
        obtain ⟨nm, wt⟩ := p
        simp only at c0 c1
        obtain ⟨w1, hw1⟩ : ∃ w1, wr.alloc (.cells #[.string nm, .int .i64 wt] 121) = w1 := ⟨_, rfl⟩
        have hA : Below wr.heap.size wr w1 := by rw [← hw1]; exact (Below.refl _ wr).alloc (Nat.le_refl _) _
        have HB1 := hide (hb.trans (hA.mono hb.size))
        have k1 : Blk w1 wr.heap.size 121 [.string nm, .int .i64 wt] := by rw [← hw1]; exact Blk.new wr _ _
        have e0 := k1.cell 0
        have e1 := k1.cell 1
        simp only [List.getElem?_cons_zero, List.getElem?_cons_succ] at e0 e1
        have HC := hide (alone_any (nm, wt) w1)
        simp only at HC
        generalize ((fun p : Vl => p.2) (nm, wt)) = x at HC Hf
        clear hA k1 hb
        go_wp2_with fail
        refine HC.out.mono ?_
        rintro e w2 ⟨rfl, hb2⟩
        go_wp2
        go_roundw
        case rel => exact ⟨k + 1, by omega, by go_num, by rw [Hf.out], HB1.out.trans (hb2.mono HB1.out.size)⟩
        case measure => simp [intOf]; omega
      · have Hf : Hid (sumV (fun p : Vl => p.2) l = sumV (fun p : Vl => p.2) (l.take k)) := hide (by rw [List.take_of_length_le (by omega)])
        generalize sumV (fun p : Vl => p.2) (l.take k) = acc at Hf ⊢
        go_wp2
        go_ret
        exact ⟨ret_int Hf.out.symm, hb⟩
set_option maxRecDepth 20000 in
theorem implTotalOf_any (v : Value) (l : List Vl) (w : World) (hr : RdV w v l) (hl : l.length ≤ 4000000) :
    Calls Tryz.prog 140 #[v] w fun e w' => e = .returned (.int .i64 (totalV l)) ∧ Below w.heap.size w w' := by
  obtain ⟨a, c, rfl⟩ := hr.shape
  have HS := hide (sumAlone_any _ l w hr hl)
  have Ht : Hid (totalV l = sumV (fun p : Vl => p.2) l) := hide rfl
  generalize totalV l = X at Ht ⊢
  generalize sumV (fun p : Vl => p.2) l = Y at Ht HS
  clear hr
  go_enter Tryz.func140, Tryz.ntmps140
  go_wp2_with fail
  refine HS.out.mono ?_
  rintro e w1 ⟨rfl, hb⟩
  go_wp2
  go_ret
  exact ⟨ret_int Ht.out.symm, hb⟩
set_option maxRecDepth 20000 in
set_option maxHeartbeats 1000000 in
theorem sumAmong_any (v : Value) (l : List Vl) (B : Nat) (vn : Value) (ns : List ByteArray) (w : World) (hr : RdV w v l) (hl : l.length ≤ 4000000) (hc : w.cell? ⟨B, 0, none⟩ = some vn) (hB : B < w.heap.size) (hrn : RdS w vn ns) (hln : ns.length ≤ 4000000) :
    Calls Tryz.prog 146 #[v, .func (.func 148) #[] #[.pointer (some ⟨B, 0, none⟩)]] w fun e w' => e = .returned (.int .i64 (sumV (wtN ns) l)) ∧ Below w.heap.size w w' := by
  rcases hr with ⟨a, cap, rfl, rfl, -⟩ | ⟨b, off, cap, h0, rfl, h1, h2, h3, h4⟩
  · go_enter Tryz.func146, Tryz.ntmps146
    go_wp2
    refine wp_loop_rounds 1 ?_
    rw [rounds_succ]
    go_wp2
    go_ret
    exact ⟨rfl, Below.refl _ _⟩
  · have H4 := hide h4
    have Hrn := hide hrn
    have Hc := hide hc
    clear h4 hrn hc
    go_enter Tryz.func146, Tryz.ntmps146
    go_wp2
    go_loopw [5, 10] (fun nv iv wr => ∃ k : Nat, k ≤ l.length ∧ iv = .int .i64 k ∧ nv = .int .i64 (sumV (wtN ns) (l.take k)) ∧ Below w.heap.size w wr) (fun _ iv _ => l.length - (intOf iv).toNat)
    case atStart => exact ⟨0, Nat.zero_le _, rfl, rfl, Below.refl _ _⟩
    case round =>
      obtain ⟨k, hkl, rfl, rfl, hb⟩ := hrel
      by_cases hlt : k < l.length
      · have c0 := (hb.cell (p := ⟨b, off + k * 2, none⟩) h3).trans (H4.out k hlt).1
        have c1 := (hb.cell (p := ⟨b, off + k * 2 + 1, none⟩) h3).trans (H4.out k hlt).2
        have hli : (k : Int) < (l.length : Int) := by omega
        have Hf := hide (sumV_snoc (wtN ns) l k hlt)
        generalize sumV (wtN ns) (l.take k) = acc at Hf ⊢
        generalize l[k] = p at c0 c1 Hf
        obtain ⟨nm, wt⟩ := p
        simp only at c0 c1
        obtain ⟨w1, hw1⟩ : ∃ w1, wr.alloc (.cells #[.string nm, .int .i64 wt] 121) = w1 := ⟨_, rfl⟩
        have hA : Below wr.heap.size wr w1 := by rw [← hw1]; exact (Below.refl _ wr).alloc (Nat.le_refl _) _
        have HB1 := hide (hb.trans (hA.mono hb.size))
        have k1 : Blk w1 wr.heap.size 121 [.string nm, .int .i64 wt] := by rw [← hw1]; exact Blk.new wr _ _
        have e0 := k1.cell 0
        have e1 := k1.cell 1
        simp only [List.getElem?_cons_zero, List.getElem?_cons_succ] at e0 e1
        have HC := hide (among_any (nm, wt) B vn ns w1 ((HB1.out.cell (p := ⟨B, 0, none⟩) hB).trans Hc.out) (Nat.lt_of_lt_of_le hB HB1.out.size) (Hrn.out.below HB1.out (Nat.le_refl _)) hln)
        simp only at HC
        generalize ((wtN ns) (nm, wt)) = x at HC Hf
        clear hA k1 hb
        go_wp2_with fail
        refine HC.out.mono ?_
        rintro e w2 ⟨rfl, hb2⟩
        go_wp2
        go_roundw
        case rel => exact ⟨k + 1, by omega, by go_num, by rw [Hf.out], HB1.out.trans (hb2.mono HB1.out.size)⟩
        case measure => simp [intOf]; omega
      · have Hf : Hid (sumV (wtN ns) l = sumV (wtN ns) (l.take k)) := hide (by rw [List.take_of_length_le (by omega)])
        generalize sumV (wtN ns) (l.take k) = acc at Hf ⊢
        go_wp2
        go_ret
        exact ⟨ret_int Hf.out.symm, hb⟩
set_option maxRecDepth 20000 in
theorem implWeightOf_any (v vn : Value) (l : List Vl) (ns : List ByteArray) (w : World) (hr : RdV w v l) (hrn : RdS w vn ns) (hl : l.length ≤ 4000000) (hln : ns.length ≤ 4000000) :
    Calls Tryz.prog 141 #[v, vn] w fun e w' => e = .returned (.int .i64 (weightV l ns)) ∧ Below w.heap.size w w' := by
  have hmf : ∀ (fn : Fn) (first cap : Array Value) (w : World), (Instr.makeFunc fn first cap).run Tryz.prog w = .ok (.func fn first cap) w := fun _ _ _ _ => rfl
  obtain ⟨a, c, rfl⟩ := hr.shape
  obtain ⟨an, cn, rfl⟩ := hrn.shape
  obtain ⟨w1, hw1⟩ : ∃ w1, w.alloc (.cells #[.slice an ns.length cn] 27) = w1 := ⟨_, rfl⟩
  have hB1 : Below w.heap.size w w1 := by rw [← hw1]; exact (Below.refl _ w).alloc (Nat.le_refl _) _
  have k1 : Blk w1 w.heap.size 27 [.slice an ns.length cn] := by rw [← hw1]; exact Blk.new w _ _
  have HS := hide (sumAmong_any _ l w.heap.size (.slice an ns.length cn) ns w1 (hr.below hB1 (Nat.le_refl _)) hl (k1.cell 0) k1.lt (hrn.below hB1 (Nat.le_refl _)) hln)
  have Ht : Hid (weightV l ns = sumV (wtN ns) l) := hide rfl
  generalize weightV l ns = X at Ht ⊢
  generalize sumV (wtN ns) l = Y at Ht HS
  clear hr hrn k1
  go_enter Tryz.func141, Tryz.ntmps141
  go_wp2_with fail
  refine HS.out.mono ?_
  rintro e w2 ⟨rfl, hb⟩
  go_wp2
  go_ret
  exact ⟨ret_int Ht.out.symm, hB1.trans (hb.mono hB1.size)⟩
end Go.Proofs.YtljeklmopjkjjaaGreat

namespace Go.Proofs.YtljeklmopjkjjaaGreat
open Go.RowKit
set_option linter.unusedVariables false

set_option maxRecDepth 20000 in
theorem thirdUp_any (n : Nat) (w : World) (hn : n ≤ 1000000000) :
    Calls Tryz.prog 142 #[.int .i64 (n : Int)] w fun e w' => e = .returned (.int .i64 (((n + 2) / 3 : Nat) : Int)) ∧ Below w.heap.size w w' := by
  have t1 : Int.tmod (n : Int) 3 = ((n % 3 : Nat) : Int) := by rw [Int.tmod_eq_emod_of_nonneg (by omega)]; omega
  have t2 : Int.tdiv (n : Int) 3 = ((n / 3 : Nat) : Int) := by rw [Int.tdiv_eq_ediv_of_nonneg (by omega)]; omega
  by_cases h : 0 < n % 3
  · have e : Hid ((n + 2) / 3 = n / 3 + 1) := hide (by omega)
    have hm : (0 : Int) < ((n % 3 : Nat) : Int) := by omega
    have hd : n / 3 ≤ 1000000000 := by omega
    generalize n % 3 = m at t1 hm
    generalize n / 3 = q at t2 e hd
    generalize (n + 2) / 3 = X at e ⊢
    go_enter Tryz.func142, Tryz.ntmps142
    go_wp2
    go_ret
    exact ⟨by rw [e.out]; rfl, Below.refl _ _⟩
  · have e : Hid ((n + 2) / 3 = n / 3) := hide (by omega)
    have hm : ¬ (0 : Int) < ((n % 3 : Nat) : Int) := by omega
    have hd : n / 3 ≤ 1000000000 := by omega
    generalize n % 3 = m at t1 hm
    generalize n / 3 = q at t2 e hd
    generalize (n + 2) / 3 = X at e ⊢
    go_enter Tryz.func142, Tryz.ntmps142
    go_wp2
    go_ret
    exact ⟨by rw [e.out]; rfl, Below.refl _ _⟩
set_option maxRecDepth 20000 in
set_option maxHeartbeats 1000000 in
theorem implIsQuorum_small (v vn : Value) (l : List Vl) (ns : List ByteArray) (w : World) (hr : RdV w v l) (hrn : RdS w vn ns) (hl : l.length ≤ 4000000) (hln : ns.length ≤ 4000000) (hT : 0 ≤ totalV l ∧ totalV l ≤ 1000000000) :
    Calls Tryz.prog 126 #[v, vn] w fun e w' => e = .returned (.bool (decide (2 * totalV l < 3 * weightV l ns))) ∧ Below w.heap.size w w' := by
  obtain ⟨a, c, rfl⟩ := hr.shape
  obtain ⟨an, cn, rfl⟩ := hrn.shape
  have HT := hide (implTotalOf_any _ l w hr hl)
  have HW := hide (fun w h1 h2 => implWeightOf_any (.slice a l.length c) (.slice an ns.length cn) l ns w h1 h2 hl hln)
  have Hr := hide hr
  have Hrn := hide hrn
  obtain ⟨n, hn⟩ : ∃ n : Nat, totalV l = (n : Int) := ⟨(totalV l).toNat, by omega⟩
  rw [hn] at HT hT ⊢
  have hn2 : n ≤ 1000000000 := by omega
  have HU := hide (fun w => thirdUp_any n w hn2)
  generalize weightV l ns = W at HW ⊢
  clear hr hrn hn hT
  have Hd : Hid (decide (2 * (n : Int) < 3 * W) = decide ((n : Int) - (((n + 2) / 3 : Nat) : Int) < W)) := hide (by rw [decide_eq_decide]; omega)
  generalize decide (2 * (n : Int) < 3 * W) = D at Hd ⊢
  have hq : (n + 2) / 3 ≤ n + 1 := by omega
  generalize (n + 2) / 3 = q at Hd HU hq
  go_enter Tryz.func126, Tryz.ntmps126
  go_wp2_with fail
  refine HT.out.mono ?_
  rintro e w1 ⟨rfl, hb1⟩
  go_wp2_with fail
  refine (HW.out _ (Hr.out.below hb1 (Nat.le_refl _)) (Hrn.out.below hb1 (Nat.le_refl _))).mono ?_
  rintro e w2 ⟨rfl, hb2⟩
  go_wp2_with fail
  refine (HU.out _).mono ?_
  rintro e w3 ⟨rfl, hb3⟩
  have hB := (hb1.trans (hb2.mono hb1.size)).trans (hb3.mono (Nat.le_trans hb1.size hb2.size))
  have hwr : IntKind.i64.wrap ((n : Int) - (q : Int)) = (n : Int) - (q : Int) := by rw [IntKind.wrap_i64]; omega
  go_wp2
  go_ret
  exact ⟨ret_bool (by rw [Hd.out]), hB⟩
set_option maxRecDepth 20000 in
set_option maxHeartbeats 1000000 in
theorem specIsQuorum_small (v vn : Value) (l : List Vl) (ns : List ByteArray) (w : World) (hr : RdV w v l) (hrn : RdS w vn ns) (hl : l.length ≤ 4000000) (hln : ns.length ≤ 4000000) (hT : 0 ≤ totalV l ∧ totalV l ≤ 1000000000) (hW : 0 ≤ weightV l ns ∧ weightV l ns ≤ 1000000000) :
    Calls Tryz.prog 66 #[v, vn] w fun e w' => e = .returned (.bool (decide (2 * totalV l < 3 * weightV l ns))) ∧ Below w.heap.size w w' := by
  obtain ⟨a, c, rfl⟩ := hr.shape
  obtain ⟨an, cn, rfl⟩ := hrn.shape
  have HW := hide (specWeightOf_any _ _ l ns w hr hrn hl hln)
  have HT := hide (fun w h => specTotalOf_any (.slice a l.length c) l w h hl)
  have Hr := hide hr
  generalize weightV l ns = W at HW hW ⊢
  generalize totalV l = T at HT hT ⊢
  have w1 : IntKind.i64.wrap (3 * W) = 3 * W := by rw [IntKind.wrap_i64]; omega
  have w2 : IntKind.i64.wrap (2 * T) = 2 * T := by rw [IntKind.wrap_i64]; omega
  clear hr hrn hT hW
  go_enter Tryz.func66, Tryz.ntmps66
  go_wp2_with fail
  refine HW.out.mono ?_
  rintro e w1' ⟨rfl, hb1⟩
  go_wp2_with fail
  refine (HT.out _ (Hr.out.below hb1 (Nat.le_refl _))).mono ?_
  rintro e w2' ⟨rfl, hb2⟩
  have hB := hb1.trans (hb2.mono hb1.size)
  go_wp2
  go_ret
  exact ⟨rfl, hB⟩
end Go.Proofs.YtljeklmopjkjjaaGreat
