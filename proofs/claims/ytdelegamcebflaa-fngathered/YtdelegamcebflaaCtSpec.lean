/- The model's certificates: what is right. -/
import Derived.Test.YtdelegamcebflaaCtVal
import Derived.Test.YtdelegamcebflaaCtMem
import Derived.Test.YtdelegamcebflaaVsQuo
import Derived.Test.YtdelegamcebflaaNamesOk
namespace Go.Proofs.Ytdelegamcebflaa
open Go.RowKit
set_option linter.unusedVariables false

/-- All that is weighed is not great. -/
def ModV (l : List Vl) : Prop := (0 ≤ totalV l ∧ totalV l ≤ 1000000000) ∧ ∀ ns, 0 ≤ weightV l ns ∧ weightV l ns ≤ 1000000000
/-- A certificate's value: its round, its block, its names being vw. -/
def qcV (r b : Int) (vw : Value) : Value := .agg #[.int .i64 r, .int .i64 b, vw]
def rootB (r b : Int) (ns : List ByteArray) : Bool := decide (r = 0) && (decide (b = -1) && decide (ns.length = 0))
def allV (l : List Vl) (ns : List ByteArray) : Bool := ns.all (fun s => hasN (l.map (·.1)) s) && nmsB ns
def quoB (l : List Vl) (ns : List ByteArray) : Bool := decide (2 * totalV l < 3 * weightV l ns)
/-- Whether a certificate is right. -/
def qcB (l : List Vl) (r b : Int) (ns : List ByteArray) : Bool := rootB r b ns || (inB r 1 10000 && (inB b 0 100000 && (allV l ns && quoB l ns)))
set_option maxRecDepth 20000 in
set_option maxHeartbeats 1000000 in
theorem specL7In_any (v : Value) (l : List Vl) (s : ByteArray) (w : World) (hr : RdV w v l) (hl : l.length ≤ 4000000) :
    Calls Try.prog 42 #[v, .string s] w fun e w' => e = .returned (.bool (hasN (l.map (·.1)) s)) ∧ Below w.heap.size w w' := by
  rcases hr with ⟨a, cap, rfl, rfl, -⟩ | ⟨b, off, cap, h0, rfl, h1, h2, h3, h4⟩
  · go_enter Try.func42, Try.ntmps42
    go_wp2
    refine wp_loop_rounds 1 ?_
    rw [rounds_succ]
    go_wp2
    go_ret
    exact ⟨rfl, Below.refl _ _⟩
  · have H4 := hide h4
    clear h4
    go_enter Try.func42, Try.ntmps42
    go_wp2
    go_loopw [5] (fun i wr => ∃ k : Nat, k ≤ l.length ∧ i = .int .i64 k ∧ s ∉ (l.map (·.1)).take k ∧ Below w.heap.size w wr) (fun i _ => l.length - (intOf i).toNat)
    case atStart => exact ⟨0, Nat.zero_le _, rfl, by simp, Below.refl _ _⟩
    case round =>
      obtain ⟨k, hk, rfl, hno, hb⟩ := hrel
      have Hno := hide hno
      clear hno
      by_cases hlt : k < l.length
      · have hc := (hb.cell (p := ⟨b, off + k * 2, none⟩) h3).trans (H4.out k hlt).1
        have hli : (k : Int) < (l.length : Int) := by omega
        have hlm : k < (l.map (·.1)).length := by simpa using hlt
        by_cases he : l[k].1 = s
        · have Hr : Hid (hasN (l.map (·.1)) s = true) := hide (hasN_yes (by rw [← he]; exact List.mem_map_of_mem (List.getElem_mem _)))
          rw [he] at hc
          clear he
          go_wp2
          go_ret
          exact ⟨ret_bool Hr.out.symm, hb⟩
        · have Hn2 := hide (mem_next hlm Hno.out (by simpa using he))
          have hq := bytes_ne he
          clear he Hno
          generalize l[k].1 = t at hc hq
          go_wp2
          go_roundw
          case rel => exact ⟨k + 1, by omega, by go_num, Hn2.out, hb⟩
          case measure => simp [intOf]; omega
      · have Hr : Hid (hasN (l.map (·.1)) s = false) := hide (hasN_no (by have := Hno.out; rwa [List.take_of_length_le (by simp; omega)] at this))
        go_wp2
        go_ret
        exact ⟨ret_bool Hr.out.symm, hb⟩
theorem all_no (l : List Vl) (ns : List ByteArray) (k : Nat) (h : k < ns.length) (hk : hasN (l.map (·.1)) ns[k] = false) : allV l ns = false := by
  unfold allV
  have : ns.all (fun s => hasN (l.map (·.1)) s) = false := by
    rw [List.all_eq_false]
    exact ⟨ns[k], List.getElem_mem _, by simp [hk]⟩
  rw [this, Bool.false_and]
theorem all_yes (l : List Vl) (ns : List ByteArray) (h : ∀ j (hj : j < ns.length), hasN (l.map (·.1)) ns[j] = true) : allV l ns = nmsB ns := by
  unfold allV
  have : ns.all (fun s => hasN (l.map (·.1)) s) = true := by
    rw [List.all_eq_true]
    intro s hs
    obtain ⟨j, hj, rfl⟩ := List.mem_iff_getElem.1 hs
    exact h j hj
  rw [this, Bool.true_and]
set_option maxRecDepth 20000 in
set_option maxHeartbeats 1000000 in
theorem specL8All_any (v vn : Value) (l : List Vl) (ns : List ByteArray) (w : World) (hr : RdV w v l) (hrn : RdS w vn ns) (hl : l.length ≤ 4000000) (hln : ns.length ≤ 4000000) (hs : ∀ s ∈ ns, s.size ≤ maxLen) :
    Calls Try.prog 33 #[v, vn] w fun e w' => e = .returned (.bool (allV l ns)) ∧ Below w.heap.size w w' := by
  obtain ⟨al, cl, rfl⟩ := hr.shape
  have HN := hide (fun w h => specNamesOk_any vn ns w h hln hs)
  have Hrn := hide hrn
  rcases hrn with ⟨a, cap, rfl, rfl, -⟩ | ⟨b, off, cap, h0, rfl, h1, h2, h3, h4⟩
  · clear hr
    go_enter Try.func33, Try.ntmps33
    go_wp2
    refine wp_loop_rounds 1 ?_
    rw [rounds_succ]
    go_wp2_with fail
    refine (HN.out _ Hrn.out).mono ?_
    rintro e w2 ⟨rfl, hb2⟩
    go_wp2
    go_ret
    exact ⟨rfl, hb2 _⟩
  · have H4 := hide h4
    have HI := hide (fun s w h => specL7In_any (.slice al l.length cl) l s w h hl)
    have Hr := hide hr
    clear h4 hr
    go_enter Try.func33, Try.ntmps33
    go_wp2
    go_loopw [5] (fun i wr => ∃ k : Nat, k ≤ ns.length ∧ i = .int .i64 k ∧ (∀ j (hj : j < ns.length), j < k → hasN (l.map (·.1)) ns[j] = true) ∧ Below w.heap.size w wr) (fun i _ => ns.length - (intOf i).toNat)
    case atStart => exact ⟨0, Nat.zero_le _, rfl, fun j _ hj => by omega, Below.refl _ _⟩
    case round =>
      obtain ⟨k, hk, rfl, hok, hb⟩ := hrel
      have Hok := hide hok
      clear hok
      by_cases hlt : k < ns.length
      · have hc := (hb.cell (p := ⟨b, off + k, none⟩) h3).trans (H4.out k hlt)
        have hli : (k : Int) < (ns.length : Int) := by omega
        have HI2 := hide (HI.out ns[k] wr (Hr.out.below hb (Nat.le_refl _)))
        have Hno := hide (all_no l ns k hlt)
        have Hnx : Hid (hasN (l.map (·.1)) ns[k] = true → ∀ j (hj : j < ns.length), j < k + 1 → hasN (l.map (·.1)) ns[j] = true) := hide (fun h j hj hjk => by
          by_cases e : j = k
          · subst e; exact h
          · exact Hok.out j hj (by omega))
        generalize ns[k] = s at hc HI2 Hno Hnx
        have Hb := hide hb
        clear hb
        cases hh : hasN (l.map (·.1)) s
        · rw [hh] at HI2
          have Hf := hide (Hno.out hh)
          clear hh Hnx
          go_wp2_with fail
          refine HI2.out.mono ?_
          rintro e w2 ⟨rfl, hb2⟩
          have HB2 := hide (Hb.out.trans (hb2.mono Hb.out.size))
          go_wp2
          go_ret
          exact ⟨ret_bool Hf.out.symm, HB2.out⟩
        · rw [hh] at HI2
          have Hnx := hide (Hnx.out hh)
          clear hh
          go_wp2_with fail
          refine HI2.out.mono ?_
          rintro e w2 ⟨rfl, hb2⟩
          have HB2 := hide (Hb.out.trans (hb2.mono Hb.out.size))
          clear hb2
          go_wp2
          go_roundw
          case rel => exact ⟨k + 1, by omega, by go_num, Hnx.out, HB2.out⟩
          case measure => simp [intOf]; omega
      · have Hf := hide (all_yes l ns (fun j hj => Hok.out j hj (by omega)))
        have HN2 := hide (HN.out wr (Hrn.out.below hb (Nat.le_refl _)))
        have Hb := hide hb
        clear hb
        generalize nmsB ns = N at Hf HN2
        go_wp2_with fail
        refine HN2.out.mono ?_
        rintro e w2 ⟨rfl, hb2⟩
        have HB2 := hide (Hb.out.trans (hb2 _))
        go_wp2
        go_ret
        exact ⟨ret_bool Hf.out.symm, HB2.out⟩
set_option maxRecDepth 20000 in
set_option maxHeartbeats 1000000 in
theorem specL8Root_any (r b : Int) (vw : Value) (ws : List ByteArray) (w : World) (hrw : RdS w vw ws) (hlw : ws.length ≤ 4000000) :
    Calls Try.prog 21 #[qcV r b vw] w fun e w' => e = .returned (.bool (rootB r b ws)) ∧ Below w.heap.size w w' := by
  obtain ⟨a, c, rfl⟩ := hrw.shape
  clear hrw
  simp only [qcV]
  have HB := hide ((Below.refl _ w).alloc (Nat.le_refl _) (.cells #[.int .i64 r, .int .i64 b, .slice a ws.length c] 30))
  by_cases h1 : r = 0
  · by_cases h2 : b = -1
    · by_cases h3 : ws.length = 0
      · have Hf : Hid (rootB r b ws = true) := hide (by unfold rootB; rw [decide_eq_true h1, decide_eq_true h2, decide_eq_true h3]; rfl)
        have h3i : ((ws.length : Int) == 0) = true := by rw [beq_iff_eq]; omega
        subst h1 h2
        generalize rootB 0 (-1) ws = X at Hf ⊢
        clear h3
        go_enter Try.func21, Try.ntmps21
        go_wp2
        go_ret
        exact ⟨ret_bool Hf.out.symm, HB.out⟩
      · have Hf : Hid (rootB r b ws = false) := hide (by unfold rootB; rw [decide_eq_false h3, Bool.and_false, Bool.and_false])
        have h3i : ((ws.length : Int) == 0) = false := by rw [beq_eq_false_iff_ne]; omega
        subst h1 h2
        generalize rootB 0 (-1) ws = X at Hf ⊢
        go_enter Try.func21, Try.ntmps21
        go_wp2
        go_ret
        exact ⟨ret_bool Hf.out.symm, HB.out⟩
    · have Hf : Hid (rootB r b ws = false) := hide (by unfold rootB; rw [decide_eq_false h2, Bool.false_and, Bool.and_false])
      have h2i : (b == -1) = false := by rw [beq_eq_false_iff_ne]; exact h2
      subst h1
      generalize rootB 0 b ws = X at Hf ⊢
      clear h2
      go_enter Try.func21, Try.ntmps21
      go_wp2
      go_ret
      exact ⟨ret_bool Hf.out.symm, HB.out⟩
  · have Hf : Hid (rootB r b ws = false) := hide (by unfold rootB; rw [decide_eq_false h1, Bool.false_and])
    have h1i : (r == 0) = false := by rw [beq_eq_false_iff_ne]; exact h1
    generalize rootB r b ws = X at Hf ⊢
    clear h1
    go_enter Try.func21, Try.ntmps21
    go_wp2
    go_ret
    exact ⟨ret_bool Hf.out.symm, HB.out⟩
set_option maxRecDepth 20000 in
set_option maxHeartbeats 2000000 in
theorem specQcOk_any (v vw : Value) (l : List Vl) (r b : Int) (ws : List ByteArray) (w : World) (hr : RdV w v l) (hrw : RdS w vw ws) (hl : l.length ≤ 4000000) (hlw : ws.length ≤ 4000000) (hs : ∀ s ∈ ws, s.size ≤ maxLen) (hm : ModV l) :
    Calls Try.prog 20 #[v, qcV r b vw] w fun e w' => e = .returned (.bool (qcB l r b ws)) ∧ Below w.heap.size w w' := by
  obtain ⟨al, cl, rfl⟩ := hr.shape
  obtain ⟨a, c, rfl⟩ := hrw.shape
  obtain ⟨w1, hw1⟩ : ∃ w1, w.alloc (.cells #[.int .i64 r, .int .i64 b, .slice a ws.length c] 30) = w1 := ⟨_, rfl⟩
  have hb1 : Below w.heap.size w w1 := by rw [← hw1]; exact (Below.refl _ w).alloc (Nat.le_refl _) _
  have k1 : Blk w1 w.heap.size 30 [.int .i64 r, .int .i64 b, .slice a ws.length c] := by rw [← hw1]; exact Blk.new w _ _
  have HR := hide (specL8Root_any r b _ ws w1 (hrw.below hb1 (Nat.le_refl _)) hlw)
  have HA := hide (fun V (hb : Below w.heap.size w V) => specL8All_any (.slice al l.length cl) (.slice a ws.length c) l ws V (hr.below hb (Nat.le_refl _)) (hrw.below hb (Nat.le_refl _)) hl hlw hs)
  have HQ := hide (fun V (hb : Below w.heap.size w V) => specIsQuorum_small (.slice al l.length cl) (.slice a ws.length c) l ws V (hr.below hb (Nat.le_refl _)) (hrw.below hb (Nat.le_refl _)) hl hlw hm.1 (hm.2 ws))
  have HX : Hid (qcB l r b ws = (rootB r b ws || (inB r 1 10000 && (inB b 0 100000 && (allV l ws && quoB l ws))))) := hide rfl
  have HU : Hid (decide (2 * totalV l < 3 * weightV l ws) = quoB l ws) := hide rfl
  rw [HU.out] at HQ
  generalize qcB l r b ws = X at HX ⊢
  generalize rootB r b ws = R0 at HX HR
  generalize allV l ws = A0 at HX HA
  generalize quoB l ws = Q0 at HX HQ HU
  simp only [qcV] at *
  have x0 := k1.cell 0
  have x1 := k1.cell 1
  have x2 := k1.cell 2
  simp only [List.getElem?_cons_zero, List.getElem?_cons_succ] at x0 x1 x2
  clear hr hrw hs hm HU
  cases R0
  · rw [Bool.false_or] at HX
    go_enter Try.func20, Try.ntmps20
    go_wp2_with fail
    refine HR.out.mono ?_
    rintro e w2 ⟨rfl, hb2⟩
    have k2 := k1.below hb2 k1.lt
    have hB2 := hb1.trans (hb2.mono hb1.size)
    have y0 := k2.cell 0
    have y1 := k2.cell 1
    have y2 := k2.cell 2
    simp only [List.getElem?_cons_zero, List.getElem?_cons_succ] at y0 y1 y2
    clear x0 x1 x2 k1 hb2 hw1
    cases h1 : inB r 1 10000
    · rw [h1, Bool.false_and] at HX
      go_wp2_with (go_at_call 32; refine (l1In_any _ _ _ _).mono ?_; rintro e w3 ⟨rfl, rfl⟩)
      go_ret
      exact ⟨ret_bool HX.out.symm, hB2⟩
    · rw [h1, Bool.true_and] at HX
      cases h2 : inB b 0 100000
      · rw [h2, Bool.false_and] at HX
        go_wp2_with (go_at_call 32; refine (l1In_any _ _ _ _).mono ?_; rintro e w3 ⟨rfl, rfl⟩)
        go_ret
        exact ⟨ret_bool HX.out.symm, hB2⟩
      · rw [h2, Bool.true_and] at HX
        have HA2 := hide (HA.out _ hB2)
        cases A0
        · rw [Bool.false_and] at HX
          go_wp2_with (first
            | (go_at_call 32; refine (l1In_any _ _ _ _).mono ?_; rintro e w3 ⟨rfl, rfl⟩)
            | (go_at_call 33; refine HA2.out.mono ?_; rintro e w4 ⟨rfl, hb4⟩))
          go_ret
          exact ⟨ret_bool HX.out.symm, hB2.trans (hb4.mono hB2.size)⟩
        · rw [Bool.true_and] at HX
          go_wp2_with (first
            | (go_at_call 32; refine (l1In_any _ _ _ _).mono ?_; rintro e w3 ⟨rfl, rfl⟩)
            | (go_at_call 33; refine HA2.out.mono ?_; rintro e w4 ⟨rfl, hb4⟩; have hB4 := hB2.trans (hb4.mono hB2.size); have k4 := k2.below hb4 k2.lt; have z2 := k4.cell 2; simp only [List.getElem?_cons_zero, List.getElem?_cons_succ] at z2)
            | (go_at_call 34; refine (HQ.out _ hB4).mono ?_; rintro e w5 ⟨rfl, hb5⟩))
          go_ret
          exact ⟨ret_bool HX.out.symm, hB4.trans (hb5.mono hB4.size)⟩
  · rw [Bool.true_or] at HX
    go_enter Try.func20, Try.ntmps20
    go_wp2_with fail
    refine HR.out.mono ?_
    rintro e w2 ⟨rfl, hb2⟩
    have hB2 := hb1.trans (hb2.mono hb1.size)
    clear x0 x1 x2 k1 hb2
    go_wp2
    go_ret
    exact ⟨ret_bool HX.out.symm, hB2⟩
end Go.Proofs.Ytdelegamcebflaa
