/- Votes and leavings, held against each other; their size. The sizes of lists, each told alike: what is left is no more than there was, and the list is short. -/
import Derived.Test.YtljeklmopjkjjaaGreatZnVsMem
import Derived.Deep.RegionHeldLaw
import Derived.Test.YtljeklmopjkjjaaGreatZnKsSz
import Derived.Test.YtljeklmopjkjjaaGreatZnLgVal
namespace Go.Proofs.YtljeklmopjkjjaaGreat
open Go.RowKit
set_option linter.unusedVariables false

set_option maxRecDepth 20000 in
theorem eqVote_any (p q : Tr) (w : World) : Calls Tryz.prog 91 #[.agg #[.int .i64 p.1, .int .i64 p.2.1, .string p.2.2], .agg #[.int .i64 q.1, .int .i64 q.2.1, .string q.2.2]] w fun e w' => e = .returned (.bool (decide (p = q))) ∧ Below w.heap.size w w' := by
  obtain ⟨a, b, c⟩ := p
  obtain ⟨d, f, g⟩ := q
  have hB := hide (((Below.refl _ w).alloc (Nat.le_refl _) (.cells #[.int .i64 a, .int .i64 b, .string c] 131)).alloc (by simp) (.cells #[.int .i64 d, .int .i64 f, .string g] 131))
  by_cases h1 : a = d
  · subst h1
    by_cases h2 : b = f
    · subst h2
      by_cases h3 : c = g
      · subst h3
        go_enter Tryz.func91, Tryz.ntmps91
        go_wp2
        go_ret
        exact ⟨by simp, hB.out⟩
      · have Hd : Hid (decide ((a, b, c) = (a, b, g)) = false) := hide (by rw [decide_eq_false]; intro e; injection e with _ e; injection e with _ e; exact h3 e)
        have hq := bytes_ne h3
        clear h3
        go_enter Tryz.func91, Tryz.ntmps91
        go_wp2
        go_ret
        exact ⟨ret_bool Hd.out.symm, hB.out⟩
    · have Hd : Hid (decide ((a, b, c) = (a, f, g)) = false) := hide (by rw [decide_eq_false]; intro e; injection e with _ e; injection e with e _; exact h2 e)
      have hq : (b != f) = true := by rw [bne_iff_ne]; exact h2
      clear h2
      go_enter Tryz.func91, Tryz.ntmps91
      go_wp2
      go_ret
      exact ⟨ret_bool Hd.out.symm, hB.out⟩
  · have Hd : Hid (decide ((a, b, c) = (d, f, g)) = false) := hide (by rw [decide_eq_false]; intro e; injection e with e _; exact h1 e)
    have hq : (a != d) = true := by rw [bne_iff_ne]; exact h1
    clear h1
    go_enter Tryz.func91, Tryz.ntmps91
    go_wp2
    go_ret
    exact ⟨ret_bool Hd.out.symm, hB.out⟩
set_option maxRecDepth 20000 in
set_option maxHeartbeats 1000000 in
theorem eqVoteS_any (v1 v2 : Value) (l1 l2 : List Tr) (w : World) (hr1 : RdR w v1 l1) (hr2 : RdR w v2 l2) (hl1 : l1.length ≤ 4000000) (hl2 : l2.length ≤ 4000000) :
    Calls Tryz.prog 46 #[v1, v2] w fun e w' => e = .returned (.bool (decide (l1 = l2))) ∧ Below w.heap.size w w' := by
  by_cases hne : l1.length = l2.length
  · rcases hr1 with ⟨a, cap, rfl, rfl, -⟩ | ⟨b, off, cap, h0, rfl, h1, h2, h3, h4⟩
    · have e2 : l2 = [] := List.length_eq_zero_iff.1 (by simpa using hne.symm)
      subst e2
      obtain ⟨a2, cap2, rfl⟩ := hr2.shape
      clear hr2
      go_enter Tryz.func46, Tryz.ntmps46
      go_wp2
      refine wp_loop_rounds 1 ?_
      rw [rounds_succ]
      go_wp2
      go_ret
      exact ⟨rfl, Below.refl _ _⟩
    · rcases hr2 with ⟨a2, cap2, rfl, rfl, -⟩ | ⟨b2, off2, cap2, g0, rfl, g1, g2, g3, g4⟩
      · exact absurd (List.length_eq_zero_iff.1 (by simpa using hne)) h0
      · have Hne := hide hne
        have hlen : ((l1.length : Int) != (l2.length : Int)) = false := by rw [hne]; simp
        have hle : l1.length ≤ l2.length := by omega
        have hge : l2.length ≤ l1.length := by omega
        have H4 := hide h4
        have G4 := hide g4
        clear hne h4 g4
        go_enter Tryz.func46, Tryz.ntmps46
        go_wp2
        go_loopw [5] (fun i wr => ∃ k : Nat, k ≤ l1.length ∧ i = .int .i64 k ∧ l1.take k = l2.take k ∧ Below w.heap.size w wr) (fun i _ => l1.length - (intOf i).toNat)
        case atStart => exact ⟨0, Nat.zero_le _, rfl, rfl, Below.refl _ _⟩
        case round =>
          obtain ⟨k, hk, rfl, ht, hs⟩ := hrel
          have Ht := hide ht
          clear ht
          by_cases hlt : k < l1.length
          · have hlt2 : k < l2.length := by omega
            obtain ⟨d0, d1, d2⟩ := H4.out k hlt
            obtain ⟨e0, e1, e2⟩ := G4.out k hlt2
            have hc0 : wr.drew.cell? ⟨b, off + k * 3, none⟩ = some (.int .i64 l1[k].1) := (hs.cell (p := ⟨b, off + k * 3, none⟩) h3).trans d0
            have hd0 : wr.drew.cell? ⟨b2, off2 + k * 3, none⟩ = some (.int .i64 l2[k].1) := (hs.cell (p := ⟨b2, off2 + k * 3, none⟩) g3).trans e0
            have hc1 : wr.drew.cell? ⟨b, off + k * 3 + 1, none⟩ = some (.int .i64 l1[k].2.1) := (hs.cell (p := ⟨b, off + k * 3 + 1, none⟩) h3).trans d1
            have hd1 : wr.drew.cell? ⟨b2, off2 + k * 3 + 1, none⟩ = some (.int .i64 l2[k].2.1) := (hs.cell (p := ⟨b2, off2 + k * 3 + 1, none⟩) g3).trans e1
            have hc2 : wr.drew.cell? ⟨b, off + k * 3 + 2, none⟩ = some (.string l1[k].2.2) := (hs.cell (p := ⟨b, off + k * 3 + 2, none⟩) h3).trans d2
            have hd2 : wr.drew.cell? ⟨b2, off2 + k * 3 + 2, none⟩ = some (.string l2[k].2.2) := (hs.cell (p := ⟨b2, off2 + k * 3 + 2, none⟩) g3).trans e2
            have hli : (k : Int) < (l1.length : Int) := by omega
            have hli2 : (k : Int) < (l2.length : Int) := by omega
            have HE := hide (eqVote_any l1[k] l2[k] wr.drew)
            have Hnx : Hid (l1[k] = l2[k] → l1.take (k + 1) = l2.take (k + 1)) := hide (fun he => take_eq_snoc hlt hlt2 Ht.out he)
            have Hno : Hid (l1[k] ≠ l2[k] → decide (l1 = l2) = false) := hide (fun he => by rw [decide_eq_false]; intro e; subst e; exact he rfl)
            clear d0 d1 d2 e0 e1 e2
            generalize hp : l1[k] = p at hc0 hc1 hc2 HE Hnx Hno
            generalize hq : l2[k] = q at hd0 hd1 hd2 HE Hnx Hno
            clear hp hq
            by_cases he : p = q
            · rw [decide_eq_true he] at HE
              have Hnx := hide (Hnx.out he)
              clear he Hno
              go_wp2
              go_region_held_law (fun w' => w'.cell? ⟨b, off + k * 3, none⟩ = some (.int .i64 p.1) ∧ w'.cell? ⟨b, off + k * 3 + 1, none⟩ = some (.int .i64 p.2.1) ∧ w'.cell? ⟨b, off + k * 3 + 2, none⟩ = some (.string p.2.2) ∧ w'.cell? ⟨b2, off2 + k * 3, none⟩ = some (.int .i64 q.1) ∧ w'.cell? ⟨b2, off2 + k * 3 + 1, none⟩ = some (.int .i64 q.2.1) ∧ w'.cell? ⟨b2, off2 + k * 3 + 2, none⟩ = some (.string q.2.2)) (first | exact ⟨hc0, hc1, hc2, hd0, hd1, hd2⟩ | exact hS2) ((go_at_call 91; refine HE.out.mono ?_; rintro e w2 ⟨rfl, hb2⟩; have hz := hs.size; have hS2 : w2.cell? ⟨b, off + k * 3, none⟩ = some (.int .i64 p.1) ∧ w2.cell? ⟨b, off + k * 3 + 1, none⟩ = some (.int .i64 p.2.1) ∧ w2.cell? ⟨b, off + k * 3 + 2, none⟩ = some (.string p.2.2) ∧ w2.cell? ⟨b2, off2 + k * 3, none⟩ = some (.int .i64 q.1) ∧ w2.cell? ⟨b2, off2 + k * 3 + 1, none⟩ = some (.int .i64 q.2.1) ∧ w2.cell? ⟨b2, off2 + k * 3 + 2, none⟩ = some (.string q.2.2) := ⟨(hb2.cell (p := ⟨b, off + k * 3, none⟩) (Nat.lt_of_lt_of_le h3 hz)).trans hc0, (hb2.cell (p := ⟨b, off + k * 3 + 1, none⟩) (Nat.lt_of_lt_of_le h3 hz)).trans hc1, (hb2.cell (p := ⟨b, off + k * 3 + 2, none⟩) (Nat.lt_of_lt_of_le h3 hz)).trans hc2, (hb2.cell (p := ⟨b2, off2 + k * 3, none⟩) (Nat.lt_of_lt_of_le g3 hz)).trans hd0, (hb2.cell (p := ⟨b2, off2 + k * 3 + 1, none⟩) (Nat.lt_of_lt_of_le g3 hz)).trans hd1, (hb2.cell (p := ⟨b2, off2 + k * 3 + 2, none⟩) (Nat.lt_of_lt_of_le g3 hz)).trans hd2⟩))
              go_wp2
              go_roundw
              case rel => exact ⟨k + 1, by omega, by go_num, Hnx.out, hs.drew.trans (hb2.mono hs.size)⟩
              case measure => simp [intOf]; omega
            · rw [decide_eq_false he] at HE
              have Hno := hide (Hno.out he)
              clear he Hnx
              go_wp2
              go_region_held_law (fun w' => w'.cell? ⟨b, off + k * 3, none⟩ = some (.int .i64 p.1) ∧ w'.cell? ⟨b, off + k * 3 + 1, none⟩ = some (.int .i64 p.2.1) ∧ w'.cell? ⟨b, off + k * 3 + 2, none⟩ = some (.string p.2.2) ∧ w'.cell? ⟨b2, off2 + k * 3, none⟩ = some (.int .i64 q.1) ∧ w'.cell? ⟨b2, off2 + k * 3 + 1, none⟩ = some (.int .i64 q.2.1) ∧ w'.cell? ⟨b2, off2 + k * 3 + 2, none⟩ = some (.string q.2.2)) (first | exact ⟨hc0, hc1, hc2, hd0, hd1, hd2⟩ | exact hS2) ((go_at_call 91; refine HE.out.mono ?_; rintro e w2 ⟨rfl, hb2⟩; have hz := hs.size; have hS2 : w2.cell? ⟨b, off + k * 3, none⟩ = some (.int .i64 p.1) ∧ w2.cell? ⟨b, off + k * 3 + 1, none⟩ = some (.int .i64 p.2.1) ∧ w2.cell? ⟨b, off + k * 3 + 2, none⟩ = some (.string p.2.2) ∧ w2.cell? ⟨b2, off2 + k * 3, none⟩ = some (.int .i64 q.1) ∧ w2.cell? ⟨b2, off2 + k * 3 + 1, none⟩ = some (.int .i64 q.2.1) ∧ w2.cell? ⟨b2, off2 + k * 3 + 2, none⟩ = some (.string q.2.2) := ⟨(hb2.cell (p := ⟨b, off + k * 3, none⟩) (Nat.lt_of_lt_of_le h3 hz)).trans hc0, (hb2.cell (p := ⟨b, off + k * 3 + 1, none⟩) (Nat.lt_of_lt_of_le h3 hz)).trans hc1, (hb2.cell (p := ⟨b, off + k * 3 + 2, none⟩) (Nat.lt_of_lt_of_le h3 hz)).trans hc2, (hb2.cell (p := ⟨b2, off2 + k * 3, none⟩) (Nat.lt_of_lt_of_le g3 hz)).trans hd0, (hb2.cell (p := ⟨b2, off2 + k * 3 + 1, none⟩) (Nat.lt_of_lt_of_le g3 hz)).trans hd1, (hb2.cell (p := ⟨b2, off2 + k * 3 + 2, none⟩) (Nat.lt_of_lt_of_le g3 hz)).trans hd2⟩))
              go_wp2
              go_ret
              exact ⟨ret_bool Hno.out.symm, hs.drew.trans (hb2.mono hs.size)⟩
          · have hf : Hid (decide (l1 = l2) = true) := hide (by
              rw [decide_eq_true]
              have := Ht.out
              rwa [List.take_of_length_le (by omega), List.take_of_length_le (by omega)] at this)
            go_wp2
            go_ret
            exact ⟨ret_bool hf.out.symm, hs⟩
  · obtain ⟨a, cap, rfl⟩ := hr1.shape
    obtain ⟨a2, cap2, rfl⟩ := hr2.shape
    clear hr1 hr2
    have hlen : ((l1.length : Int) != (l2.length : Int)) = true := by rw [bne_iff_ne]; omega
    have hf : Hid (decide (l1 = l2) = false) := hide (by rw [decide_eq_false]; intro e; subst e; exact hne rfl)
    clear hne
    go_enter Tryz.func46, Tryz.ntmps46
    go_wp2
    go_ret
    exact ⟨ret_bool hf.out.symm, Below.refl _ _⟩
def totVote (l : List Tr) : Nat := (l.map (·.2.2.size)).sum
theorem totVoteote_snoc (l : List Tr) (k : Nat) (h : k < l.length) : totVote (l.take (k + 1)) = totVote (l.take k) + l[k].2.2.size := by
  unfold totVote
  rw [List.take_succ_eq_append_getElem h, List.map_append, List.sum_append]
  simp only [List.map_cons, List.map_nil, List.sum_cons, List.sum_nil, Nat.add_zero]
set_option maxRecDepth 20000 in
theorem szVote_fit (p : Tr) (r : Nat) (w : World) (h : p.2.2.size ≤ r) (hr : r ≤ 100000000) :
    Calls Tryz.prog 55 #[.agg #[.int .i64 p.1, .int .i64 p.2.1, .string p.2.2], .int .i64 (r : Int)] w fun e w' => e = .returned (.int .i64 ((r - p.2.2.size : Nat) : Int)) ∧ Below w.heap.size w w' := by
  obtain ⟨c, b, a⟩ := p
  simp only at h ⊢
  have HB := hide ((Below.refl _ w).alloc (Nat.le_refl _) (.cells #[.int .i64 c, .int .i64 b, .string a] 107))
  have w1 : IntKind.i64.wrap ((r : Int) - (a.size : Int)) = ((r - a.size : Nat) : Int) := by rw [IntKind.wrap_i64]; omega
  have h0 : ¬ ((r : Int) - (a.size : Int)) < 0 := by omega
  have h1 : ¬ (((r - a.size : Nat) : Int)) < 0 := by omega
  generalize r - a.size = q at w1 h1 ⊢
  go_enter Tryz.func55, Tryz.ntmps55
  go_wp2
  go_ret
  exact ⟨rfl, HB.out⟩
set_option maxRecDepth 20000 in
theorem szVote_not (p : Tr) (r : Nat) (w : World) (h : ¬ p.2.2.size ≤ r) (hr : r ≤ 100000000) (hs : p.2.2.size ≤ 9223372036854775807) :
    Calls Tryz.prog 55 #[.agg #[.int .i64 p.1, .int .i64 p.2.1, .string p.2.2], .int .i64 (r : Int)] w fun e w' => e = .returned (.int .i64 (-1)) ∧ Below w.heap.size w w' := by
  obtain ⟨c, b, a⟩ := p
  simp only at h hs ⊢
  have HB := hide ((Below.refl _ w).alloc (Nat.le_refl _) (.cells #[.int .i64 c, .int .i64 b, .string a] 107))
  have w1 : IntKind.i64.wrap ((r : Int) - (a.size : Int)) = (r : Int) - (a.size : Int) := by rw [IntKind.wrap_i64]; omega
  have h0 : ((r : Int) - (a.size : Int)) < 0 := by omega
  go_enter Tryz.func55, Tryz.ntmps55
  go_wp2
  go_ret
  exact ⟨rfl, HB.out⟩
set_option maxRecDepth 20000 in
set_option maxHeartbeats 1000000 in
theorem szVoteS_any (v : Value) (l : List Tr) (m : Nat) (w : World) (hr : RdR w v l) (hm : m ≤ 100000000) (hl : l.length ≤ 9223372036854775807) (hs : ∀ a ∈ l, a.2.2.size ≤ 9223372036854775807) :
    Calls Tryz.prog 14 #[v, .int .i64 (m : Int)] w fun e w' => ∃ r : Int, e = .returned (.int .i64 r) ∧ (0 ≤ r → l.length + totVote l ≤ m ∧ r ≤ (m : Int)) ∧ Below w.heap.size w w' := by
  by_cases hn : m < l.length
  · obtain ⟨a, cap, rfl⟩ := hr.shape
    clear hr hs
    go_enter Tryz.func14, Tryz.ntmps14
    go_wp2
    go_ret
    exact ⟨_, rfl, fun h => by omega, Below.refl _ _⟩
  · rcases hr with ⟨a, cap, rfl, rfl, -⟩ | ⟨b, off, cap, h0, rfl, h1, h2, h3, h4⟩
    · go_enter Tryz.func14, Tryz.ntmps14
      go_wp2
      refine wp_loop_rounds 1 ?_
      rw [rounds_succ]
      go_wp2
      go_ret
      exact ⟨_, rfl, fun _ => ⟨by simp [totVote], by simp⟩, Below.refl _ _⟩
    · have Hs := hide hs
      have H4 := hide h4
      clear hs h4
      go_enter Tryz.func14, Tryz.ntmps14
      go_wp2
      go_loopw [1, 5] (fun mv iv wr => ∃ k r : Nat, k ≤ l.length ∧ iv = .int .i64 (k : Int) ∧ mv = .int .i64 (r : Int) ∧ l.length + totVote (l.take k) + r = m ∧ Below w.heap.size w wr) (fun _ iv _ => l.length - (intOf iv).toNat)
      case atStart => exact ⟨0, m - l.length, Nat.zero_le _, rfl, by go_num, by simp [totVote]; omega, Below.refl _ _⟩
      case round =>
        obtain ⟨k, r, hk, rfl, rfl, hrem, hb⟩ := hrel
        have Hrem := hide hrem
        have hrm : r ≤ m := by omega
        clear hrem
        by_cases hlt : k < l.length
        · obtain ⟨d0, d1, d2⟩ := H4.out k hlt
          have c0 := (hb.cell (p := ⟨b, off + k * 3, none⟩) h3).trans d0
          have c1 := (hb.cell (p := ⟨b, off + k * 3 + 1, none⟩) h3).trans d1
          have c2 := (hb.cell (p := ⟨b, off + k * 3 + 2, none⟩) h3).trans d2
          have hsz := Hs.out l[k] (List.getElem_mem hlt)
          have Hsn := hide (totVoteote_snoc l k hlt)
          have hli : (k : Int) < (l.length : Int) := by omega
          clear d0 d1 d2
          by_cases hfit : l[k].2.2.size ≤ r
          · have HZ := hide (szVote_fit l[k] r wr hfit (by omega))
            obtain ⟨q, hq⟩ : ∃ q, r - l[k].2.2.size = q := ⟨_, rfl⟩
            have Hq : Hid (l[k].2.2.size + q = r) := hide (by omega)
            rw [hq] at HZ
            clear hfit hsz hq
            generalize l[k] = ak at c0 c1 c2 HZ Hsn Hq
            obtain ⟨rd, wt, nm⟩ := ak
            simp only at c0 c1 c2 HZ
            go_wp2_with (go_at_call 55; refine HZ.out.mono ?_; rintro e w2 ⟨rfl, hb2⟩)
            go_roundw
            case rel => exact ⟨k + 1, q, by omega, by go_num, rfl, by rw [Hsn.out]; have := Hrem.out; have := Hq.out; omega, hb.trans (hb2.mono hb.size)⟩
            case measure => simp [intOf]; omega
          · have HZ := hide (szVote_not l[k] r wr hfit (by omega) hsz)
            clear hfit hsz
            generalize l[k] = ak at c0 c1 c2 HZ Hsn
            obtain ⟨rd, wt, nm⟩ := ak
            simp only at c0 c1 c2 HZ
            go_wp2_with (go_at_call 55; refine HZ.out.mono ?_; rintro e w2 ⟨rfl, hb2⟩)
            go_ret
            exact ⟨_, rfl, fun h => by omega, hb.trans (hb2.mono hb.size)⟩
        · have hf : Hid (l.length + totVote l ≤ m ∧ (r : Int) ≤ (m : Int)) := hide (by have := Hrem.out; rw [List.take_of_length_le (by omega)] at this; omega)
          go_wp2
          go_ret
          exact ⟨_, rfl, fun _ => hf.out, hb⟩
set_option maxRecDepth 20000 in
theorem eqGone_any (p q : Tr) (w : World) : Calls Tryz.prog 92 #[.agg #[.int .i64 p.1, .int .i64 p.2.1, .string p.2.2], .agg #[.int .i64 q.1, .int .i64 q.2.1, .string q.2.2]] w fun e w' => e = .returned (.bool (decide (p = q))) ∧ Below w.heap.size w w' := by
  obtain ⟨a, b, c⟩ := p
  obtain ⟨d, f, g⟩ := q
  have hB := hide (((Below.refl _ w).alloc (Nat.le_refl _) (.cells #[.int .i64 a, .int .i64 b, .string c] 133)).alloc (by simp) (.cells #[.int .i64 d, .int .i64 f, .string g] 133))
  by_cases h1 : a = d
  · subst h1
    by_cases h2 : b = f
    · subst h2
      by_cases h3 : c = g
      · subst h3
        go_enter Tryz.func92, Tryz.ntmps92
        go_wp2
        go_ret
        exact ⟨by simp, hB.out⟩
      · have Hd : Hid (decide ((a, b, c) = (a, b, g)) = false) := hide (by rw [decide_eq_false]; intro e; injection e with _ e; injection e with _ e; exact h3 e)
        have hq := bytes_ne h3
        clear h3
        go_enter Tryz.func92, Tryz.ntmps92
        go_wp2
        go_ret
        exact ⟨ret_bool Hd.out.symm, hB.out⟩
    · have Hd : Hid (decide ((a, b, c) = (a, f, g)) = false) := hide (by rw [decide_eq_false]; intro e; injection e with _ e; injection e with e _; exact h2 e)
      have hq : (b != f) = true := by rw [bne_iff_ne]; exact h2
      clear h2
      go_enter Tryz.func92, Tryz.ntmps92
      go_wp2
      go_ret
      exact ⟨ret_bool Hd.out.symm, hB.out⟩
  · have Hd : Hid (decide ((a, b, c) = (d, f, g)) = false) := hide (by rw [decide_eq_false]; intro e; injection e with e _; exact h1 e)
    have hq : (a != d) = true := by rw [bne_iff_ne]; exact h1
    clear h1
    go_enter Tryz.func92, Tryz.ntmps92
    go_wp2
    go_ret
    exact ⟨ret_bool Hd.out.symm, hB.out⟩
set_option maxRecDepth 20000 in
set_option maxHeartbeats 1000000 in
theorem eqGoneS_any (v1 v2 : Value) (l1 l2 : List Tr) (w : World) (hr1 : RdR w v1 l1) (hr2 : RdR w v2 l2) (hl1 : l1.length ≤ 4000000) (hl2 : l2.length ≤ 4000000) :
    Calls Tryz.prog 47 #[v1, v2] w fun e w' => e = .returned (.bool (decide (l1 = l2))) ∧ Below w.heap.size w w' := by
  by_cases hne : l1.length = l2.length
  · rcases hr1 with ⟨a, cap, rfl, rfl, -⟩ | ⟨b, off, cap, h0, rfl, h1, h2, h3, h4⟩
    · have e2 : l2 = [] := List.length_eq_zero_iff.1 (by simpa using hne.symm)
      subst e2
      obtain ⟨a2, cap2, rfl⟩ := hr2.shape
      clear hr2
      go_enter Tryz.func47, Tryz.ntmps47
      go_wp2
      refine wp_loop_rounds 1 ?_
      rw [rounds_succ]
      go_wp2
      go_ret
      exact ⟨rfl, Below.refl _ _⟩
    · rcases hr2 with ⟨a2, cap2, rfl, rfl, -⟩ | ⟨b2, off2, cap2, g0, rfl, g1, g2, g3, g4⟩
      · exact absurd (List.length_eq_zero_iff.1 (by simpa using hne)) h0
      · have Hne := hide hne
        have hlen : ((l1.length : Int) != (l2.length : Int)) = false := by rw [hne]; simp
        have hle : l1.length ≤ l2.length := by omega
        have hge : l2.length ≤ l1.length := by omega
        have H4 := hide h4
        have G4 := hide g4
        clear hne h4 g4
        go_enter Tryz.func47, Tryz.ntmps47
        go_wp2
        go_loopw [5] (fun i wr => ∃ k : Nat, k ≤ l1.length ∧ i = .int .i64 k ∧ l1.take k = l2.take k ∧ Below w.heap.size w wr) (fun i _ => l1.length - (intOf i).toNat)
        case atStart => exact ⟨0, Nat.zero_le _, rfl, rfl, Below.refl _ _⟩
        case round =>
          obtain ⟨k, hk, rfl, ht, hs⟩ := hrel
          have Ht := hide ht
          clear ht
          by_cases hlt : k < l1.length
          · have hlt2 : k < l2.length := by omega
            obtain ⟨d0, d1, d2⟩ := H4.out k hlt
            obtain ⟨e0, e1, e2⟩ := G4.out k hlt2
            have hc0 : wr.drew.cell? ⟨b, off + k * 3, none⟩ = some (.int .i64 l1[k].1) := (hs.cell (p := ⟨b, off + k * 3, none⟩) h3).trans d0
            have hd0 : wr.drew.cell? ⟨b2, off2 + k * 3, none⟩ = some (.int .i64 l2[k].1) := (hs.cell (p := ⟨b2, off2 + k * 3, none⟩) g3).trans e0
            have hc1 : wr.drew.cell? ⟨b, off + k * 3 + 1, none⟩ = some (.int .i64 l1[k].2.1) := (hs.cell (p := ⟨b, off + k * 3 + 1, none⟩) h3).trans d1
            have hd1 : wr.drew.cell? ⟨b2, off2 + k * 3 + 1, none⟩ = some (.int .i64 l2[k].2.1) := (hs.cell (p := ⟨b2, off2 + k * 3 + 1, none⟩) g3).trans e1
            have hc2 : wr.drew.cell? ⟨b, off + k * 3 + 2, none⟩ = some (.string l1[k].2.2) := (hs.cell (p := ⟨b, off + k * 3 + 2, none⟩) h3).trans d2
            have hd2 : wr.drew.cell? ⟨b2, off2 + k * 3 + 2, none⟩ = some (.string l2[k].2.2) := (hs.cell (p := ⟨b2, off2 + k * 3 + 2, none⟩) g3).trans e2
            have hli : (k : Int) < (l1.length : Int) := by omega
            have hli2 : (k : Int) < (l2.length : Int) := by omega
            have HE := hide (eqGone_any l1[k] l2[k] wr.drew)
            have Hnx : Hid (l1[k] = l2[k] → l1.take (k + 1) = l2.take (k + 1)) := hide (fun he => take_eq_snoc hlt hlt2 Ht.out he)
            have Hno : Hid (l1[k] ≠ l2[k] → decide (l1 = l2) = false) := hide (fun he => by rw [decide_eq_false]; intro e; subst e; exact he rfl)
            clear d0 d1 d2 e0 e1 e2
            generalize hp : l1[k] = p at hc0 hc1 hc2 HE Hnx Hno
            generalize hq : l2[k] = q at hd0 hd1 hd2 HE Hnx Hno
            clear hp hq
            by_cases he : p = q
            · rw [decide_eq_true he] at HE
              have Hnx := hide (Hnx.out he)
              clear he Hno
              go_wp2
              go_region_held_law (fun w' => w'.cell? ⟨b, off + k * 3, none⟩ = some (.int .i64 p.1) ∧ w'.cell? ⟨b, off + k * 3 + 1, none⟩ = some (.int .i64 p.2.1) ∧ w'.cell? ⟨b, off + k * 3 + 2, none⟩ = some (.string p.2.2) ∧ w'.cell? ⟨b2, off2 + k * 3, none⟩ = some (.int .i64 q.1) ∧ w'.cell? ⟨b2, off2 + k * 3 + 1, none⟩ = some (.int .i64 q.2.1) ∧ w'.cell? ⟨b2, off2 + k * 3 + 2, none⟩ = some (.string q.2.2)) (first | exact ⟨hc0, hc1, hc2, hd0, hd1, hd2⟩ | exact hS2) ((go_at_call 92; refine HE.out.mono ?_; rintro e w2 ⟨rfl, hb2⟩; have hz := hs.size; have hS2 : w2.cell? ⟨b, off + k * 3, none⟩ = some (.int .i64 p.1) ∧ w2.cell? ⟨b, off + k * 3 + 1, none⟩ = some (.int .i64 p.2.1) ∧ w2.cell? ⟨b, off + k * 3 + 2, none⟩ = some (.string p.2.2) ∧ w2.cell? ⟨b2, off2 + k * 3, none⟩ = some (.int .i64 q.1) ∧ w2.cell? ⟨b2, off2 + k * 3 + 1, none⟩ = some (.int .i64 q.2.1) ∧ w2.cell? ⟨b2, off2 + k * 3 + 2, none⟩ = some (.string q.2.2) := ⟨(hb2.cell (p := ⟨b, off + k * 3, none⟩) (Nat.lt_of_lt_of_le h3 hz)).trans hc0, (hb2.cell (p := ⟨b, off + k * 3 + 1, none⟩) (Nat.lt_of_lt_of_le h3 hz)).trans hc1, (hb2.cell (p := ⟨b, off + k * 3 + 2, none⟩) (Nat.lt_of_lt_of_le h3 hz)).trans hc2, (hb2.cell (p := ⟨b2, off2 + k * 3, none⟩) (Nat.lt_of_lt_of_le g3 hz)).trans hd0, (hb2.cell (p := ⟨b2, off2 + k * 3 + 1, none⟩) (Nat.lt_of_lt_of_le g3 hz)).trans hd1, (hb2.cell (p := ⟨b2, off2 + k * 3 + 2, none⟩) (Nat.lt_of_lt_of_le g3 hz)).trans hd2⟩))
              go_wp2
              go_roundw
              case rel => exact ⟨k + 1, by omega, by go_num, Hnx.out, hs.drew.trans (hb2.mono hs.size)⟩
              case measure => simp [intOf]; omega
            · rw [decide_eq_false he] at HE
              have Hno := hide (Hno.out he)
              clear he Hnx
              go_wp2
              go_region_held_law (fun w' => w'.cell? ⟨b, off + k * 3, none⟩ = some (.int .i64 p.1) ∧ w'.cell? ⟨b, off + k * 3 + 1, none⟩ = some (.int .i64 p.2.1) ∧ w'.cell? ⟨b, off + k * 3 + 2, none⟩ = some (.string p.2.2) ∧ w'.cell? ⟨b2, off2 + k * 3, none⟩ = some (.int .i64 q.1) ∧ w'.cell? ⟨b2, off2 + k * 3 + 1, none⟩ = some (.int .i64 q.2.1) ∧ w'.cell? ⟨b2, off2 + k * 3 + 2, none⟩ = some (.string q.2.2)) (first | exact ⟨hc0, hc1, hc2, hd0, hd1, hd2⟩ | exact hS2) ((go_at_call 92; refine HE.out.mono ?_; rintro e w2 ⟨rfl, hb2⟩; have hz := hs.size; have hS2 : w2.cell? ⟨b, off + k * 3, none⟩ = some (.int .i64 p.1) ∧ w2.cell? ⟨b, off + k * 3 + 1, none⟩ = some (.int .i64 p.2.1) ∧ w2.cell? ⟨b, off + k * 3 + 2, none⟩ = some (.string p.2.2) ∧ w2.cell? ⟨b2, off2 + k * 3, none⟩ = some (.int .i64 q.1) ∧ w2.cell? ⟨b2, off2 + k * 3 + 1, none⟩ = some (.int .i64 q.2.1) ∧ w2.cell? ⟨b2, off2 + k * 3 + 2, none⟩ = some (.string q.2.2) := ⟨(hb2.cell (p := ⟨b, off + k * 3, none⟩) (Nat.lt_of_lt_of_le h3 hz)).trans hc0, (hb2.cell (p := ⟨b, off + k * 3 + 1, none⟩) (Nat.lt_of_lt_of_le h3 hz)).trans hc1, (hb2.cell (p := ⟨b, off + k * 3 + 2, none⟩) (Nat.lt_of_lt_of_le h3 hz)).trans hc2, (hb2.cell (p := ⟨b2, off2 + k * 3, none⟩) (Nat.lt_of_lt_of_le g3 hz)).trans hd0, (hb2.cell (p := ⟨b2, off2 + k * 3 + 1, none⟩) (Nat.lt_of_lt_of_le g3 hz)).trans hd1, (hb2.cell (p := ⟨b2, off2 + k * 3 + 2, none⟩) (Nat.lt_of_lt_of_le g3 hz)).trans hd2⟩))
              go_wp2
              go_ret
              exact ⟨ret_bool Hno.out.symm, hs.drew.trans (hb2.mono hs.size)⟩
          · have hf : Hid (decide (l1 = l2) = true) := hide (by
              rw [decide_eq_true]
              have := Ht.out
              rwa [List.take_of_length_le (by omega), List.take_of_length_le (by omega)] at this)
            go_wp2
            go_ret
            exact ⟨ret_bool hf.out.symm, hs⟩
  · obtain ⟨a, cap, rfl⟩ := hr1.shape
    obtain ⟨a2, cap2, rfl⟩ := hr2.shape
    clear hr1 hr2
    have hlen : ((l1.length : Int) != (l2.length : Int)) = true := by rw [bne_iff_ne]; omega
    have hf : Hid (decide (l1 = l2) = false) := hide (by rw [decide_eq_false]; intro e; subst e; exact hne rfl)
    clear hne
    go_enter Tryz.func47, Tryz.ntmps47
    go_wp2
    go_ret
    exact ⟨ret_bool hf.out.symm, Below.refl _ _⟩
def totGone (l : List Tr) : Nat := (l.map (·.2.2.size)).sum
theorem totGone_snoc (l : List Tr) (k : Nat) (h : k < l.length) : totGone (l.take (k + 1)) = totGone (l.take k) + l[k].2.2.size := by
  unfold totGone
  rw [List.take_succ_eq_append_getElem h, List.map_append, List.sum_append]
  simp only [List.map_cons, List.map_nil, List.sum_cons, List.sum_nil, Nat.add_zero]
set_option maxRecDepth 20000 in
theorem szGone_fit (p : Tr) (r : Nat) (w : World) (h : p.2.2.size ≤ r) (hr : r ≤ 100000000) :
    Calls Tryz.prog 56 #[.agg #[.int .i64 p.1, .int .i64 p.2.1, .string p.2.2], .int .i64 (r : Int)] w fun e w' => e = .returned (.int .i64 ((r - p.2.2.size : Nat) : Int)) ∧ Below w.heap.size w w' := by
  obtain ⟨c, b, a⟩ := p
  simp only at h ⊢
  have HB := hide ((Below.refl _ w).alloc (Nat.le_refl _) (.cells #[.int .i64 c, .int .i64 b, .string a] 110))
  have w1 : IntKind.i64.wrap ((r : Int) - (a.size : Int)) = ((r - a.size : Nat) : Int) := by rw [IntKind.wrap_i64]; omega
  have h0 : ¬ ((r : Int) - (a.size : Int)) < 0 := by omega
  have h1 : ¬ (((r - a.size : Nat) : Int)) < 0 := by omega
  generalize r - a.size = q at w1 h1 ⊢
  go_enter Tryz.func56, Tryz.ntmps56
  go_wp2
  go_ret
  exact ⟨rfl, HB.out⟩
set_option maxRecDepth 20000 in
theorem szGone_not (p : Tr) (r : Nat) (w : World) (h : ¬ p.2.2.size ≤ r) (hr : r ≤ 100000000) (hs : p.2.2.size ≤ 9223372036854775807) :
    Calls Tryz.prog 56 #[.agg #[.int .i64 p.1, .int .i64 p.2.1, .string p.2.2], .int .i64 (r : Int)] w fun e w' => e = .returned (.int .i64 (-1)) ∧ Below w.heap.size w w' := by
  obtain ⟨c, b, a⟩ := p
  simp only at h hs ⊢
  have HB := hide ((Below.refl _ w).alloc (Nat.le_refl _) (.cells #[.int .i64 c, .int .i64 b, .string a] 110))
  have w1 : IntKind.i64.wrap ((r : Int) - (a.size : Int)) = (r : Int) - (a.size : Int) := by rw [IntKind.wrap_i64]; omega
  have h0 : ((r : Int) - (a.size : Int)) < 0 := by omega
  go_enter Tryz.func56, Tryz.ntmps56
  go_wp2
  go_ret
  exact ⟨rfl, HB.out⟩
set_option maxRecDepth 20000 in
set_option maxHeartbeats 1000000 in
theorem szGoneS_any (v : Value) (l : List Tr) (m : Nat) (w : World) (hr : RdR w v l) (hm : m ≤ 100000000) (hl : l.length ≤ 9223372036854775807) (hs : ∀ a ∈ l, a.2.2.size ≤ 9223372036854775807) :
    Calls Tryz.prog 15 #[v, .int .i64 (m : Int)] w fun e w' => ∃ r : Int, e = .returned (.int .i64 r) ∧ (0 ≤ r → l.length + totGone l ≤ m ∧ r ≤ (m : Int)) ∧ Below w.heap.size w w' := by
  by_cases hn : m < l.length
  · obtain ⟨a, cap, rfl⟩ := hr.shape
    clear hr hs
    go_enter Tryz.func15, Tryz.ntmps15
    go_wp2
    go_ret
    exact ⟨_, rfl, fun h => by omega, Below.refl _ _⟩
  · rcases hr with ⟨a, cap, rfl, rfl, -⟩ | ⟨b, off, cap, h0, rfl, h1, h2, h3, h4⟩
    · go_enter Tryz.func15, Tryz.ntmps15
      go_wp2
      refine wp_loop_rounds 1 ?_
      rw [rounds_succ]
      go_wp2
      go_ret
      exact ⟨_, rfl, fun _ => ⟨by simp [totGone], by simp⟩, Below.refl _ _⟩
    · have Hs := hide hs
      have H4 := hide h4
      clear hs h4
      go_enter Tryz.func15, Tryz.ntmps15
      go_wp2
      go_loopw [1, 5] (fun mv iv wr => ∃ k r : Nat, k ≤ l.length ∧ iv = .int .i64 (k : Int) ∧ mv = .int .i64 (r : Int) ∧ l.length + totGone (l.take k) + r = m ∧ Below w.heap.size w wr) (fun _ iv _ => l.length - (intOf iv).toNat)
      case atStart => exact ⟨0, m - l.length, Nat.zero_le _, rfl, by go_num, by simp [totGone]; omega, Below.refl _ _⟩
      case round =>
        obtain ⟨k, r, hk, rfl, rfl, hrem, hb⟩ := hrel
        have Hrem := hide hrem
        have hrm : r ≤ m := by omega
        clear hrem
        by_cases hlt : k < l.length
        · obtain ⟨d0, d1, d2⟩ := H4.out k hlt
          have c0 := (hb.cell (p := ⟨b, off + k * 3, none⟩) h3).trans d0
          have c1 := (hb.cell (p := ⟨b, off + k * 3 + 1, none⟩) h3).trans d1
          have c2 := (hb.cell (p := ⟨b, off + k * 3 + 2, none⟩) h3).trans d2
          have hsz := Hs.out l[k] (List.getElem_mem hlt)
          have Hsn := hide (totGone_snoc l k hlt)
          have hli : (k : Int) < (l.length : Int) := by omega
          clear d0 d1 d2
          by_cases hfit : l[k].2.2.size ≤ r
          · have HZ := hide (szGone_fit l[k] r wr hfit (by omega))
            obtain ⟨q, hq⟩ : ∃ q, r - l[k].2.2.size = q := ⟨_, rfl⟩
            have Hq : Hid (l[k].2.2.size + q = r) := hide (by omega)
            rw [hq] at HZ
            clear hfit hsz hq
            generalize l[k] = ak at c0 c1 c2 HZ Hsn Hq
            obtain ⟨rd, wt, nm⟩ := ak
            simp only at c0 c1 c2 HZ
            go_wp2_with (go_at_call 56; refine HZ.out.mono ?_; rintro e w2 ⟨rfl, hb2⟩)
            go_roundw
            case rel => exact ⟨k + 1, q, by omega, by go_num, rfl, by rw [Hsn.out]; have := Hrem.out; have := Hq.out; omega, hb.trans (hb2.mono hb.size)⟩
            case measure => simp [intOf]; omega
          · have HZ := hide (szGone_not l[k] r wr hfit (by omega) hsz)
            clear hfit hsz
            generalize l[k] = ak at c0 c1 c2 HZ Hsn
            obtain ⟨rd, wt, nm⟩ := ak
            simp only at c0 c1 c2 HZ
            go_wp2_with (go_at_call 56; refine HZ.out.mono ?_; rintro e w2 ⟨rfl, hb2⟩)
            go_ret
            exact ⟨_, rfl, fun h => by omega, hb.trans (hb2.mono hb.size)⟩
        · have hf : Hid (l.length + totGone l ≤ m ∧ (r : Int) ≤ (m : Int)) := hide (by have := Hrem.out; rw [List.take_of_length_le (by omega)] at this; omega)
          go_wp2
          go_ret
          exact ⟨_, rfl, fun _ => hf.out, hb⟩
end Go.Proofs.YtljeklmopjkjjaaGreat

namespace Go.Proofs.YtljeklmopjkjjaaGreat
open Go.RowKit
set_option linter.unusedVariables false

/-- What the laws' sizes answer: a number, no more than there was; not below 0 just if P. -/
def Szd (P : Prop) (m : Nat) (w : World) (e : Ending) (w' : World) : Prop := ∃ r : Int, e = .returned (.int .i64 r) ∧ (0 ≤ r → P ∧ r ≤ (m : Int)) ∧ Below w.heap.size w w'
theorem szuLedger (e : Int) (v : Value) (l : List Ac) (m : Nat) (w : World) (hr : RdA w v l) (hm : m ≤ 4000000) (hl : l.length ≤ maxLen) (hs : ∀ a ∈ l, a.1.size ≤ maxLen ∧ a.2.2.2.2.length ≤ maxLen) :
    Calls Tryz.prog 9 #[lgV e v, .int .i64 (m : Int)] w fun en w' => Szd (l.length ≤ 4000000 ∧ ∀ a ∈ l, a.2.2.2.2.length ≤ 4000000) m w en w' := by
  have em : maxLen ≤ 9223372036854775807 := by unfold maxLen; omega
  refine (szLedger_any e v l m w hr (by omega) (by omega) (fun a ha => by have := hs a ha; omega)).mono ?_
  rintro en w' ⟨r, h1, h2, h3⟩
  exact ⟨r, h1, fun h => by
    obtain ⟨a, b⟩ := h2 h
    exact ⟨⟨by omega, fun x hx => by have := totA_at l x hx; unfold wgA at this; omega⟩, b⟩, h3⟩
theorem szuVal (v : Value) (l : List Vl) (m : Nat) (w : World) (hr : RdV w v l) (hm : m ≤ 4000000) (hl : l.length ≤ maxLen) (hs : ∀ a ∈ l, a.1.size ≤ maxLen) :
    Calls Tryz.prog 10 #[v, .int .i64 (m : Int)] w fun en w' => Szd (l.length ≤ 4000000) m w en w' := by
  have em : maxLen ≤ 9223372036854775807 := by unfold maxLen; omega
  refine (szValN_any v l m w hr (by omega) (by omega) (fun a ha => by have := hs a ha; omega)).mono ?_
  rintro en w' ⟨r, h1, h2, h3⟩
  exact ⟨r, h1, fun h => by have := h2 h; exact ⟨by omega, by omega⟩, h3⟩
theorem szuBlock (v : Value) (l : List Bk) (m : Nat) (w : World) (hr : RdKs w v l) (hm : m ≤ 4000000) (hl : l.length ≤ maxLen) (hs : ∀ b ∈ l, FitK b) :
    Calls Tryz.prog 11 #[v, .int .i64 (m : Int)] w fun en w' => Szd (l.length ≤ 4000000 ∧ ∀ b ∈ l, FewK b) m w en w' := by
  refine (szBlockSN_any v l m w hr (by omega) hl hs).mono ?_
  rintro en w' ⟨r, h1, h2, h3⟩
  exact ⟨r, h1, fun h => by
    have a := h2 h
    exact ⟨⟨by omega, fun b hb => by
      have t := totK_at l b hb
      have f := hs b hb
      unfold wgK at t
      exact ⟨by omega, by omega, by omega, by omega, by omega, f.qs, f.ws, f.ts, f.ns, f.ms, f.rs⟩⟩, by omega⟩, h3⟩
theorem szuQc (r b : Int) (v : Value) (l : List ByteArray) (m : Nat) (w : World) (hr : RdS w v l) (hm : m ≤ 4000000) (hl : l.length ≤ maxLen) (hs : ∀ s ∈ l, s.size ≤ maxLen) :
    Calls Tryz.prog 12 #[qcV r b v, .int .i64 (m : Int)] w fun en w' => Szd (l.length ≤ 4000000) m w en w' := by
  have em : maxLen ≤ 9223372036854775807 := by unfold maxLen; omega
  refine (szQcN_any r b v l m w hr (by omega) (by omega) (fun a ha => by have := hs a ha; omega)).mono ?_
  rintro en w' ⟨r, h1, h2, h3⟩
  exact ⟨r, h1, fun h => by have := h2 h; exact ⟨by omega, by omega⟩, h3⟩
theorem szuTc (r : Int) (v u : Value) (l : List ByteArray) (n : List Int) (m : Nat) (w : World) (hr : RdS w v l) (hi : RdI w u n) (hm : m ≤ 4000000) (hl : l.length ≤ maxLen) (hs : ∀ s ∈ l, s.size ≤ maxLen) (hn : n.length ≤ maxLen) :
    Calls Tryz.prog 13 #[tcV r v u, .int .i64 (m : Int)] w fun en w' => Szd (l.length ≤ 4000000 ∧ n.length ≤ 4000000) m w en w' := by
  have em : maxLen ≤ 9223372036854775807 := by unfold maxLen; omega
  refine (szTcN_any r v u l n m w hr hi (by omega) (by omega) (fun a ha => by have := hs a ha; omega) (by omega)).mono ?_
  rintro en w' ⟨r, h1, h2, h3⟩
  exact ⟨r, h1, fun h => by have := h2 h; exact ⟨⟨by omega, by omega⟩, by omega⟩, h3⟩
theorem szuVote (v : Value) (l : List Tr) (m : Nat) (w : World) (hr : RdR w v l) (hm : m ≤ 4000000) (hl : l.length ≤ maxLen) (hs : ∀ a ∈ l, a.2.2.size ≤ maxLen) :
    Calls Tryz.prog 14 #[v, .int .i64 (m : Int)] w fun en w' => Szd (l.length ≤ 4000000) m w en w' := by
  have em : maxLen ≤ 9223372036854775807 := by unfold maxLen; omega
  refine (szVoteS_any v l m w hr (by omega) (by omega) (fun a ha => by have := hs a ha; omega)).mono ?_
  rintro en w' ⟨r, h1, h2, h3⟩
  exact ⟨r, h1, fun h => by have := h2 h; exact ⟨by omega, by omega⟩, h3⟩
theorem szuGone (v : Value) (l : List Tr) (m : Nat) (w : World) (hr : RdR w v l) (hm : m ≤ 4000000) (hl : l.length ≤ maxLen) (hs : ∀ a ∈ l, a.2.2.size ≤ maxLen) :
    Calls Tryz.prog 15 #[v, .int .i64 (m : Int)] w fun en w' => Szd (l.length ≤ 4000000) m w en w' := by
  have em : maxLen ≤ 9223372036854775807 := by unfold maxLen; omega
  refine (szGoneS_any v l m w hr (by omega) (by omega) (fun a ha => by have := hs a ha; omega)).mono ?_
  rintro en w' ⟨r, h1, h2, h3⟩
  exact ⟨r, h1, fun h => by have := h2 h; exact ⟨by omega, by omega⟩, h3⟩
theorem szuInt (v : Value) (l : List Int) (m : Nat) (w : World) (hr : RdI w v l) (hm : m ≤ 4000000) (hl : l.length ≤ maxLen) :
    Calls Tryz.prog 16 #[v, .int .i64 (m : Int)] w fun en w' => Szd (l.length ≤ 4000000) m w en w' := by
  have em : maxLen ≤ 9223372036854775807 := by unfold maxLen; omega
  refine (szIntN_any v l m w hr (by omega) (by omega)).mono ?_
  rintro en w' ⟨r, h1, h2, h3⟩
  exact ⟨r, h1, fun h => by have := h2 h; exact ⟨by omega, by omega⟩, by rw [h3]; exact Below.refl _ _⟩
theorem szuTx (v : Value) (l : List Tx5) (m : Nat) (w : World) (hr : RdT w v l) (hm : m ≤ 4000000) (hl : l.length ≤ maxLen) (hs : ∀ t ∈ l, t.2.1.size ≤ maxLen ∧ t.2.2.1.size ≤ maxLen) :
    Calls Tryz.prog 17 #[v, .int .i64 (m : Int)] w fun en w' => Szd (l.length ≤ 4000000) m w en w' := by
  have em : maxLen ≤ 9223372036854775807 := by unfold maxLen; omega
  refine (szTxN_any v l m w hr (by omega) (by omega) (fun a ha => by have := hs a ha; omega)).mono ?_
  rintro en w' ⟨r, h1, h2, h3⟩
  exact ⟨r, h1, fun h => by have := h2 h; exact ⟨by omega, by omega⟩, h3⟩
end Go.Proofs.YtljeklmopjkjjaaGreat
