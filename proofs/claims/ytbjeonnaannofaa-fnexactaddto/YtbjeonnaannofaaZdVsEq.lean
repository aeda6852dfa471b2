/- Those who vote, held against each other; their size. -/
import Derived.Test.YtbjeonnaannofaaZdVsMem
import Derived.Deep.RegionHeldLaw
namespace Go.Proofs.Ytbjeonnaannofaa
open Go.RowKit
set_option linter.unusedVariables false

set_option maxRecDepth 20000 in
theorem eqVal_any (p q : Vl) (w : World) : Calls Try.prog 118 #[.agg #[.string p.1, .int .i64 p.2], .agg #[.string q.1, .int .i64 q.2]] w fun e w' => e = .returned (.bool (decide (p = q))) ∧ Below w.heap.size w w' := by
  obtain ⟨a, b⟩ := p
  obtain ⟨c, d⟩ := q
  have hB := hide (((Below.refl _ w).alloc (Nat.le_refl _) (.cells #[.string a, .int .i64 b] 97)).alloc (by simp) (.cells #[.string c, .int .i64 d] 97))
  by_cases h1 : a = c
  · subst h1
    by_cases h2 : b = d
    · subst h2
      go_enter Try.func118, Try.ntmps118
      go_wp2
      go_ret
      exact ⟨by simp, hB.out⟩
    · have Hd : Hid (decide ((a, b) = (a, d)) = false) := hide (by rw [decide_eq_false]; intro e; injection e with _ e; exact h2 e)
      have hq : (b != d) = true := by rw [bne_iff_ne]; exact h2
      clear h2
      go_enter Try.func118, Try.ntmps118
      go_wp2
      go_ret
      exact ⟨ret_bool Hd.out.symm, hB.out⟩
  · have Hd : Hid (decide ((a, b) = (c, d)) = false) := hide (by rw [decide_eq_false]; intro e; injection e with e _; exact h1 e)
    have hq := bytes_ne h1
    clear h1
    go_enter Try.func118, Try.ntmps118
    go_wp2
    go_ret
    exact ⟨ret_bool Hd.out.symm, hB.out⟩

set_option maxRecDepth 20000 in
set_option maxHeartbeats 1000000 in
theorem eqValS_any (v1 v2 : Value) (l1 l2 : List Vl) (w : World) (hr1 : RdV w v1 l1) (hr2 : RdV w v2 l2) (hl1 : l1.length ≤ 4000000) (hl2 : l2.length ≤ 4000000) :
    Calls Try.prog 65 #[v1, v2] w fun e w' => e = .returned (.bool (decide (l1 = l2))) ∧ Below w.heap.size w w' := by
  by_cases hne : l1.length = l2.length
  · rcases hr1 with ⟨a, cap, rfl, rfl, -⟩ | ⟨b, off, cap, h0, rfl, h1, h2, h3, h4⟩
    · have e2 : l2 = [] := List.length_eq_zero_iff.1 (by simpa using hne.symm)
      subst e2
      obtain ⟨a2, cap2, rfl⟩ := hr2.shape
      clear hr2
      go_enter Try.func65, Try.ntmps65
      go_wp2
      refine wp_loop_rounds 1 ?_
      rw [rounds_succ]
      go_wp2
      go_ret
      exact ⟨rfl, Below.refl _ _⟩
    · rcases hr2 with ⟨a2, cap2, rfl, rfl, -⟩ | ⟨b2, off2, cap2, g0, rfl, g1, g2, g3, g4⟩
      · exact absurd (List.length_eq_zero_iff.1 (by simpa using hne)) h0
      · have Hne := hide hne
        have hlen : ((l1.length : Int) != (l2.length : Int)) = false := by rw [hne]; simp
        have hle : l1.length ≤ l2.length := by omega
        have hge : l2.length ≤ l1.length := by omega
        have H4 := hide h4
        have G4 := hide g4
        clear hne h4 g4
        go_enter Try.func65, Try.ntmps65
        go_wp2
        go_loopw [5] (fun i wr => ∃ k : Nat, k ≤ l1.length ∧ i = .int .i64 k ∧ l1.take k = l2.take k ∧ Below w.heap.size w wr) (fun i _ => l1.length - (intOf i).toNat)
        case atStart => exact ⟨0, Nat.zero_le _, rfl, rfl, Below.refl _ _⟩
        case round =>
          obtain ⟨k, hk, rfl, ht, hs⟩ := hrel
          have Ht := hide ht
          clear ht
          by_cases hlt : k < l1.length
          · have hlt2 : k < l2.length := by omega
            obtain ⟨d1, d2⟩ := H4.out k hlt
            obtain ⟨e1, e2⟩ := G4.out k hlt2
            have hc1 : wr.drew.cell? ⟨b, off + k * 2, none⟩ = some (.string l1[k].1) := (hs.cell (p := ⟨b, off + k * 2, none⟩) h3).trans d1
            have hc2 : wr.drew.cell? ⟨b, off + k * 2 + 1, none⟩ = some (.int .i64 l1[k].2) := (hs.cell (p := ⟨b, off + k * 2 + 1, none⟩) h3).trans d2
            have hd1 : wr.drew.cell? ⟨b2, off2 + k * 2, none⟩ = some (.string l2[k].1) := (hs.cell (p := ⟨b2, off2 + k * 2, none⟩) g3).trans e1
            have hd2 : wr.drew.cell? ⟨b2, off2 + k * 2 + 1, none⟩ = some (.int .i64 l2[k].2) := (hs.cell (p := ⟨b2, off2 + k * 2 + 1, none⟩) g3).trans e2
            have hli : (k : Int) < (l1.length : Int) := by omega
            have hli2 : (k : Int) < (l2.length : Int) := by omega
            have HE := hide (eqVal_any l1[k] l2[k] wr.drew)
            have Hnx : Hid (l1[k] = l2[k] → l1.take (k + 1) = l2.take (k + 1)) := hide (fun he => take_eq_snoc hlt hlt2 Ht.out he)
            have Hno : Hid (l1[k] ≠ l2[k] → decide (l1 = l2) = false) := hide (fun he => by rw [decide_eq_false]; intro e; subst e; exact he rfl)
            clear d1 d2 e1 e2
            generalize hp : l1[k] = p at hc1 hc2 HE Hnx Hno
            generalize hq : l2[k] = q at hd1 hd2 HE Hnx Hno
            clear hp hq
            by_cases he : p = q
            · rw [decide_eq_true he] at HE
              have Hnx := hide (Hnx.out he)
              clear he Hno
              go_wp2
              go_region_held_law (fun w' => w'.cell? ⟨b, off + k * 2, none⟩ = some (.string p.1) ∧ w'.cell? ⟨b, off + k * 2 + 1, none⟩ = some (.int .i64 p.2) ∧ w'.cell? ⟨b2, off2 + k * 2, none⟩ = some (.string q.1) ∧ w'.cell? ⟨b2, off2 + k * 2 + 1, none⟩ = some (.int .i64 q.2)) (first | exact ⟨hc1, hc2, hd1, hd2⟩ | exact hS2) ((go_at_call 118; refine HE.out.mono ?_; rintro e w2 ⟨rfl, hb2⟩; have hz := hs.size; have hS2 : w2.cell? ⟨b, off + k * 2, none⟩ = some (.string p.1) ∧ w2.cell? ⟨b, off + k * 2 + 1, none⟩ = some (.int .i64 p.2) ∧ w2.cell? ⟨b2, off2 + k * 2, none⟩ = some (.string q.1) ∧ w2.cell? ⟨b2, off2 + k * 2 + 1, none⟩ = some (.int .i64 q.2) := ⟨(hb2.cell (p := ⟨b, off + k * 2, none⟩) (Nat.lt_of_lt_of_le h3 hz)).trans hc1, (hb2.cell (p := ⟨b, off + k * 2 + 1, none⟩) (Nat.lt_of_lt_of_le h3 hz)).trans hc2, (hb2.cell (p := ⟨b2, off2 + k * 2, none⟩) (Nat.lt_of_lt_of_le g3 hz)).trans hd1, (hb2.cell (p := ⟨b2, off2 + k * 2 + 1, none⟩) (Nat.lt_of_lt_of_le g3 hz)).trans hd2⟩))
              go_wp2
              go_roundw
              case rel => exact ⟨k + 1, by omega, by go_num, Hnx.out, hs.drew.trans (hb2.mono hs.size)⟩
              case measure => simp [intOf]; omega
            · rw [decide_eq_false he] at HE
              have Hno := hide (Hno.out he)
              clear he Hnx
              go_wp2
              go_region_held_law (fun w' => w'.cell? ⟨b, off + k * 2, none⟩ = some (.string p.1) ∧ w'.cell? ⟨b, off + k * 2 + 1, none⟩ = some (.int .i64 p.2) ∧ w'.cell? ⟨b2, off2 + k * 2, none⟩ = some (.string q.1) ∧ w'.cell? ⟨b2, off2 + k * 2 + 1, none⟩ = some (.int .i64 q.2)) (first | exact ⟨hc1, hc2, hd1, hd2⟩ | exact hS2) ((go_at_call 118; refine HE.out.mono ?_; rintro e w2 ⟨rfl, hb2⟩; have hz := hs.size; have hS2 : w2.cell? ⟨b, off + k * 2, none⟩ = some (.string p.1) ∧ w2.cell? ⟨b, off + k * 2 + 1, none⟩ = some (.int .i64 p.2) ∧ w2.cell? ⟨b2, off2 + k * 2, none⟩ = some (.string q.1) ∧ w2.cell? ⟨b2, off2 + k * 2 + 1, none⟩ = some (.int .i64 q.2) := ⟨(hb2.cell (p := ⟨b, off + k * 2, none⟩) (Nat.lt_of_lt_of_le h3 hz)).trans hc1, (hb2.cell (p := ⟨b, off + k * 2 + 1, none⟩) (Nat.lt_of_lt_of_le h3 hz)).trans hc2, (hb2.cell (p := ⟨b2, off2 + k * 2, none⟩) (Nat.lt_of_lt_of_le g3 hz)).trans hd1, (hb2.cell (p := ⟨b2, off2 + k * 2 + 1, none⟩) (Nat.lt_of_lt_of_le g3 hz)).trans hd2⟩))
              go_wp2
              go_ret
              exact ⟨ret_bool Hno.out.symm, hs.drew.trans (hb2.mono hs.size)⟩
          · have hf : Hid (decide (l1 = l2) = true) := hide (by
              rw [decide_eq_true]
              have := Ht.out
              rwa [List.take_of_length_le (by omega), List.take_of_length_le (by omega)] at this)
            go_wp2
            go_ret
            exact ⟨ret_bool hf.out.symm, hs⟩
  · obtain ⟨a, cap, rfl⟩ := hr1.shape
    obtain ⟨a2, cap2, rfl⟩ := hr2.shape
    clear hr1 hr2
    have hlen : ((l1.length : Int) != (l2.length : Int)) = true := by rw [bne_iff_ne]; omega
    have hf : Hid (decide (l1 = l2) = false) := hide (by rw [decide_eq_false]; intro e; subst e; exact hne rfl)
    clear hne
    go_enter Try.func65, Try.ntmps65
    go_wp2
    go_ret
    exact ⟨ret_bool hf.out.symm, Below.refl _ _⟩
def totV (l : List Vl) : Nat := (l.map (·.1.size)).sum
theorem totV_snoc (l : List Vl) (k : Nat) (h : k < l.length) : totV (l.take (k + 1)) = totV (l.take k) + l[k].1.size := by
  unfold totV
  rw [List.take_succ_eq_append_getElem h, List.map_append, List.sum_append]
  simp only [List.map_cons, List.map_nil, List.sum_cons, List.sum_nil, Nat.add_zero]
set_option maxRecDepth 20000 in
theorem szVal_fit (p : Vl) (r : Nat) (w : World) (h : p.1.size ≤ r) (hr : r ≤ 100000000) :
    Calls Try.prog 122 #[.agg #[.string p.1, .int .i64 p.2], .int .i64 (r : Int)] w fun e w' => e = .returned (.int .i64 ((r - p.1.size : Nat) : Int)) ∧ Below w.heap.size w w' := by
  obtain ⟨a, b⟩ := p
  simp only at h ⊢
  have HB := hide ((Below.refl _ w).alloc (Nat.le_refl _) (.cells #[.string a, .int .i64 b] 143))
  have w1 : IntKind.i64.wrap ((r : Int) - (a.size : Int)) = ((r - a.size : Nat) : Int) := by rw [IntKind.wrap_i64]; omega
  have h0 : ¬ ((r : Int) - (a.size : Int)) < 0 := by omega
  have h1 : ¬ (((r - a.size : Nat) : Int)) < 0 := by omega
  generalize r - a.size = q at w1 h1 ⊢
  go_enter Try.func122, Try.ntmps122
  go_wp2
  go_ret
  exact ⟨rfl, HB.out⟩
set_option maxRecDepth 20000 in
theorem szVal_not (p : Vl) (r : Nat) (w : World) (h : ¬ p.1.size ≤ r) (hr : r ≤ 100000000) (hs : p.1.size ≤ 9223372036854775807) :
    Calls Try.prog 122 #[.agg #[.string p.1, .int .i64 p.2], .int .i64 (r : Int)] w fun e w' => e = .returned (.int .i64 (-1)) ∧ Below w.heap.size w w' := by
  obtain ⟨a, b⟩ := p
  simp only at h hs ⊢
  have HB := hide ((Below.refl _ w).alloc (Nat.le_refl _) (.cells #[.string a, .int .i64 b] 143))
  have w1 : IntKind.i64.wrap ((r : Int) - (a.size : Int)) = (r : Int) - (a.size : Int) := by rw [IntKind.wrap_i64]; omega
  have h0 : ((r : Int) - (a.size : Int)) < 0 := by omega
  go_enter Try.func122, Try.ntmps122
  go_wp2
  go_ret
  exact ⟨rfl, HB.out⟩
set_option maxRecDepth 20000 in
set_option maxHeartbeats 1000000 in
theorem szValS_any (v : Value) (l : List Vl) (m : Nat) (w : World) (hr : RdV w v l) (hm : m ≤ 100000000) (hl : l.length ≤ 9223372036854775807) (hs : ∀ a ∈ l, a.1.size ≤ 9223372036854775807) :
    Calls Try.prog 80 #[v, .int .i64 (m : Int)] w fun e w' => ∃ r : Int, e = .returned (.int .i64 r) ∧ (0 ≤ r → l.length + totV l ≤ m ∧ r ≤ (m : Int)) ∧ Below w.heap.size w w' := by
  by_cases hn : m < l.length
  · obtain ⟨a, cap, rfl⟩ := hr.shape
    clear hr hs
    go_enter Try.func80, Try.ntmps80
    go_wp2
    go_ret
    exact ⟨_, rfl, fun h => by omega, Below.refl _ _⟩
  · rcases hr with ⟨a, cap, rfl, rfl, -⟩ | ⟨b, off, cap, h0, rfl, h1, h2, h3, h4⟩
    · go_enter Try.func80, Try.ntmps80
      go_wp2
      refine wp_loop_rounds 1 ?_
      rw [rounds_succ]
      go_wp2
      go_ret
      exact ⟨_, rfl, fun _ => ⟨by simp [totV], by simp⟩, Below.refl _ _⟩
    · have Hs := hide hs
      have H4 := hide h4
      clear hs h4
      go_enter Try.func80, Try.ntmps80
      go_wp2
      go_loopw [1, 5] (fun mv iv wr => ∃ k r : Nat, k ≤ l.length ∧ iv = .int .i64 (k : Int) ∧ mv = .int .i64 (r : Int) ∧ l.length + totV (l.take k) + r = m ∧ Below w.heap.size w wr) (fun _ iv _ => l.length - (intOf iv).toNat)
      case atStart => exact ⟨0, m - l.length, Nat.zero_le _, rfl, by go_num, by simp [totV]; omega, Below.refl _ _⟩
      case round =>
        obtain ⟨k, r, hk, rfl, rfl, hrem, hb⟩ := hrel
        have Hrem := hide hrem
        have hrm : r ≤ m := by omega
        clear hrem
        by_cases hlt : k < l.length
        · obtain ⟨d0, d1⟩ := H4.out k hlt
          have c0 := (hb.cell (p := ⟨b, off + k * 2, none⟩) h3).trans d0
          have c1 := (hb.cell (p := ⟨b, off + k * 2 + 1, none⟩) h3).trans d1
          have hsz := Hs.out l[k] (List.getElem_mem hlt)
          have Hsn := hide (totV_snoc l k hlt)
          have hli : (k : Int) < (l.length : Int) := by omega
          clear d0 d1
          by_cases hfit : l[k].1.size ≤ r
          · have HZ := hide (szVal_fit l[k] r wr hfit (by omega))
            obtain ⟨q, hq⟩ : ∃ q, r - l[k].1.size = q := ⟨_, rfl⟩
            have Hq : Hid (l[k].1.size + q = r) := hide (by omega)
            rw [hq] at HZ
            clear hfit hsz hq
            generalize l[k] = ak at c0 c1 HZ Hsn Hq
            obtain ⟨nm, wt⟩ := ak
            simp only at c0 c1 HZ
            go_wp2_with (go_at_call 122; refine HZ.out.mono ?_; rintro e w2 ⟨rfl, hb2⟩)
            go_roundw
            case rel => exact ⟨k + 1, q, by omega, by go_num, rfl, by rw [Hsn.out]; have := Hrem.out; have := Hq.out; omega, hb.trans (hb2.mono hb.size)⟩
            case measure => simp [intOf]; omega
          · have HZ := hide (szVal_not l[k] r wr hfit (by omega) hsz)
            clear hfit hsz
            generalize l[k] = ak at c0 c1 HZ Hsn
            obtain ⟨nm, wt⟩ := ak
            simp only at c0 c1 HZ
            go_wp2_with (go_at_call 122; refine HZ.out.mono ?_; rintro e w2 ⟨rfl, hb2⟩)
            go_ret
            exact ⟨_, rfl, fun h => by omega, hb.trans (hb2.mono hb.size)⟩
        · have hf : Hid (l.length + totV l ≤ m ∧ (r : Int) ≤ (m : Int)) := hide (by have := Hrem.out; rw [List.take_of_length_le (by omega)] at this; omega)
          go_wp2
          go_ret
          exact ⟨_, rfl, fun _ => hf.out, hb⟩
end Go.Proofs.Ytbjeonnaannofaa
