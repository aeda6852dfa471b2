/- What those who vote weigh, on both sides: WeightOf, TotalOf, LeaderOf. -/
import Derived.Test.YtdelegamcebflaaVsApp
namespace Go.Proofs.Ytdelegamcebflaa
open Go.RowKit
set_option linter.unusedVariables false

theorem foldV_snoc {α β : Type} (f : β → α → β) (z : β) (l : List α) (k : Nat) (h : k < l.length) : (l.take (k + 1)).foldl f z = f ((l.take k).foldl f z) l[k] := by
  rw [List.take_succ_eq_append_getElem h, List.foldl_append]; rfl
/-- What all of them come to, each by f. -/
def sumV (f : Vl → Int) (l : List Vl) : Int := l.foldl (fun s p => wrap64 (s + f p)) 0
theorem sumV_snoc (f : Vl → Int) (l : List Vl) (k : Nat) (h : k < l.length) : sumV f (l.take (k + 1)) = wrap64 (sumV f (l.take k) + f l[k]) := foldV_snoc _ _ l k h
theorem wrap64_twice (x : Int) : wrap64 (wrap64 x + 0) = wrap64 x := by rw [Int.add_zero]; unfold wrap64; omega
theorem sumV_same (f : Vl → Int) : ∀ (l : List Vl) (s : Int), wrap64 (s + 0) = s → wrap64 (l.foldl (fun s p => wrap64 (s + f p)) s + 0) = l.foldl (fun s p => wrap64 (s + f p)) s
  | [], s, h => h
  | p :: l, s, h => by rw [List.foldl_cons]; exact sumV_same f l _ (wrap64_twice _)
theorem sumV_zero (f : Vl → Int) (l : List Vl) : wrap64 (sumV f l + 0) = sumV f l := sumV_same f l 0 (by unfold wrap64; omega)
/-- Whether a name is among these. -/
def hasN (ns : List ByteArray) (s : ByteArray) : Bool := ns.any (fun t => decide (t = s))
theorem hasN_yes {ns : List ByteArray} {s : ByteArray} (h : s ∈ ns) : hasN ns s = true := List.any_eq_true.2 ⟨s, h, by simp⟩
theorem hasN_no {ns : List ByteArray} {s : ByteArray} (h : s ∉ ns) : hasN ns s = false := by
  cases e : hasN ns s with
  | false => rfl
  | true =>
    obtain ⟨t, ht, e'⟩ := List.any_eq_true.1 e
    have : t = s := by simpa using e'
    exact absurd (this ▸ ht) h
/-- What one weighs among these names. -/
def wtN (ns : List ByteArray) (p : Vl) : Int := if hasN ns p.1 = true then p.2 else 0
def weightV (l : List Vl) (ns : List ByteArray) : Int := sumV (wtN ns) l
def totalV (l : List Vl) : Int := sumV (·.2) l
/-- Who leads in a round. -/
def leadV (l : List Vl) (r : Int) : ByteArray := if l.length = 0 ∨ r < 0 then ByteArray.empty else (l.getD (r.toNat % l.length) (ByteArray.empty, 0)).1
theorem mem_next {ns : List ByteArray} {s : ByteArray} {k : Nat} (h : k < ns.length) (hn : s ∉ ns.take k) (he : ns[k] ≠ s) : s ∉ ns.take (k + 1) := by
  rw [List.take_succ_eq_append_getElem h]
  intro hm
  rcases List.mem_append.1 hm with h' | h'
  · exact hn h'
  · exact he (by simpa using (List.mem_singleton.1 h').symm)

set_option maxRecDepth 20000 in
set_option maxHeartbeats 1000000 in
theorem specHas_any (v : Value) (ns : List ByteArray) (s : ByteArray) (w : World) (hr : RdS w v ns) (hl : ns.length ≤ 4000000) :
    Calls Try.prog 51 #[v, .string s] w fun e w' => e = .returned (.bool (hasN ns s)) ∧ Below w.heap.size w w' := by
  rcases hr with ⟨a, cap, rfl, rfl, -⟩ | ⟨b, off, cap, h0, rfl, h1, h2, h3, h4⟩
  · go_enter Try.func51, Try.ntmps51
    go_wp2
    refine wp_loop_rounds 1 ?_
    rw [rounds_succ]
    go_wp2
    go_ret
    exact ⟨rfl, Below.refl _ _⟩
  · have H4 := hide h4
    clear h4
    go_enter Try.func51, Try.ntmps51
    go_wp2
    go_loopw [5] (fun i wr => ∃ k : Nat, k ≤ ns.length ∧ i = .int .i64 k ∧ s ∉ ns.take k ∧ Below w.heap.size w wr) (fun i _ => ns.length - (intOf i).toNat)
    case atStart => exact ⟨0, Nat.zero_le _, rfl, by simp, Below.refl _ _⟩
    case round =>
      obtain ⟨k, hk, rfl, hno, hb⟩ := hrel
      have Hno := hide hno
      clear hno
      by_cases hlt : k < ns.length
      · have hc := (hb.cell (p := ⟨b, off + k, none⟩) h3).trans (H4.out k hlt)
        have hli : (k : Int) < (ns.length : Int) := by omega
        by_cases he : ns[k] = s
        · have Hr : Hid (hasN ns s = true) := hide (hasN_yes (by rw [← he]; exact List.getElem_mem _))
          rw [he] at hc
          clear he
          go_wp2
          go_ret
          exact ⟨ret_bool Hr.out.symm, hb⟩
        · have Hn2 := hide (mem_next hlt Hno.out he)
          have hq := bytes_ne he
          clear he Hno
          generalize ns[k] = t at hc hq
          go_wp2
          go_roundw
          case rel => exact ⟨k + 1, by omega, by go_num, Hn2.out, hb⟩
          case measure => simp [intOf]; omega
      · have Hr : Hid (hasN ns s = false) := hide (hasN_no (by have := Hno.out; rwa [List.take_of_length_le (by omega)] at this))
        go_wp2
        go_ret
        exact ⟨ret_bool Hr.out.symm, hb⟩
set_option maxRecDepth 20000 in
set_option maxHeartbeats 1000000 in
theorem specWeightOf_any (v vn : Value) (l : List Vl) (ns : List ByteArray) (w : World) (hr : RdV w v l) (hrn : RdS w vn ns) (hl : l.length ≤ 4000000) (hln : ns.length ≤ 4000000) :
    Calls Try.prog 44 #[v, vn] w fun e w' => e = .returned (.int .i64 (weightV l ns)) ∧ Below w.heap.size w w' := by
  obtain ⟨an, cn, rfl⟩ := hrn.shape
  rcases hr with ⟨a, cap, rfl, rfl, -⟩ | ⟨b, off, cap, h0, rfl, h1, h2, h3, h4⟩
  · go_enter Try.func44, Try.ntmps44
    go_wp2
    refine wp_loop_rounds 1 ?_
    rw [rounds_succ]
    go_wp2
    go_ret
    exact ⟨rfl, Below.refl _ _⟩
  · have H4 := hide h4
    have Hrn := hide hrn
    clear h4 hrn
    go_enter Try.func44, Try.ntmps44
    go_wp2
    go_loopw [5, 6] (fun nv iv wr => ∃ k : Nat, k ≤ l.length ∧ iv = .int .i64 k ∧ nv = .int .i64 (sumV (wtN ns) (l.take k)) ∧ Below w.heap.size w wr) (fun _ iv _ => l.length - (intOf iv).toNat)
    case atStart => exact ⟨0, Nat.zero_le _, rfl, rfl, Below.refl _ _⟩
    case round =>
      obtain ⟨k, hkl, rfl, rfl, hb⟩ := hrel
      by_cases hlt : k < l.length
      · have c0 := (hb.cell (p := ⟨b, off + k * 2, none⟩) h3).trans (H4.out k hlt).1
        have c1 := (hb.cell (p := ⟨b, off + k * 2 + 1, none⟩) h3).trans (H4.out k hlt).2
        have hli : (k : Int) < (l.length : Int) := by omega
        have Hf := hide (sumV_snoc (wtN ns) l k hlt)
        have Hz := hide (sumV_zero (wtN ns) (l.take k))
        have hbw : b < wr.heap.size := Nat.lt_of_lt_of_le h3 hb.size
        have HH := hide (specHas_any (.slice an ns.length cn) ns l[k].1 wr (Hrn.out.below hb (Nat.le_refl _)) hln)
        generalize sumV (wtN ns) (l.take k) = acc at Hf Hz ⊢
        generalize l[k] = p at c0 c1 Hf HH
        obtain ⟨nm, wt⟩ := p
        simp only at c0 c1 HH
        cases hm : hasN ns nm
        case true =>
          rw [hm] at HH
          have Hf2 : Hid (sumV (wtN ns) (l.take (k + 1)) = wrap64 (acc + wt)) := hide (by rw [Hf.out]; unfold wtN; rw [if_pos hm])
          clear Hf Hz hm
          have Hb := hide hb
          clear hb
          go_wp2_with (go_at_call 51; refine HH.out.mono ?_; rintro e w2 ⟨rfl, hb2⟩; have d1 := (hb2.cell (p := ⟨b, off + k * 2 + 1, none⟩) hbw).trans c1)
          go_roundw
          case rel => exact ⟨k + 1, by omega, by go_num, by rw [Hf2.out], Hb.out.trans (hb2.mono Hb.out.size)⟩
          case measure => simp [intOf]; omega
        case false =>
          rw [hm] at HH
          have Hf2 : Hid (sumV (wtN ns) (l.take (k + 1)) = acc) := hide (by rw [Hf.out]; unfold wtN; rw [if_neg (by rw [hm]; simp)]; exact Hz.out)
          clear Hf Hz hm
          have Hb := hide hb
          clear hb
          go_wp2_with (go_at_call 51; refine HH.out.mono ?_; rintro e w2 ⟨rfl, hb2⟩)
          go_roundw
          case rel => exact ⟨k + 1, by omega, by go_num, by rw [Hf2.out], Hb.out.trans (hb2.mono Hb.out.size)⟩
          case measure => simp [intOf]; omega
      · have Hf : Hid (weightV l ns = sumV (wtN ns) (l.take k)) := hide (by unfold weightV; rw [List.take_of_length_le (by omega)])
        generalize sumV (wtN ns) (l.take k) = acc at Hf ⊢
        go_wp2
        go_ret
        exact ⟨ret_int Hf.out.symm, hb⟩
set_option maxRecDepth 20000 in
set_option maxHeartbeats 1000000 in
theorem specTotalOf_any (v : Value) (l : List Vl) (w : World) (hr : RdV w v l) (hl : l.length ≤ 4000000) :
    Calls Try.prog 45 #[v] w fun e w' => e = .returned (.int .i64 (totalV l)) ∧ Below w.heap.size w w' := by
  rcases hr with ⟨a, cap, rfl, rfl, -⟩ | ⟨b, off, cap, h0, rfl, h1, h2, h3, h4⟩
  · go_enter Try.func45, Try.ntmps45
    go_wp2
    refine wp_loop_rounds 1 ?_
    rw [rounds_succ]
    go_wp2
    go_ret
    exact ⟨rfl, Below.refl _ _⟩
  · have H4 := hide h4
    clear h4
    go_enter Try.func45, Try.ntmps45
    go_wp2
    go_loopw [3, 4] (fun nv iv wr => ∃ k : Nat, k ≤ l.length ∧ iv = .int .i64 k ∧ nv = .int .i64 (sumV (·.2) (l.take k)) ∧ Below w.heap.size w wr) (fun _ iv _ => l.length - (intOf iv).toNat)
    case atStart => exact ⟨0, Nat.zero_le _, rfl, rfl, Below.refl _ _⟩
    case round =>
      obtain ⟨k, hkl, rfl, rfl, hb⟩ := hrel
      by_cases hlt : k < l.length
      · have c1 := (hb.cell (p := ⟨b, off + k * 2 + 1, none⟩) h3).trans (H4.out k hlt).2
        have hli : (k : Int) < (l.length : Int) := by omega
        have Hf := hide (sumV_snoc (·.2) l k hlt)
        generalize sumV (·.2) (l.take k) = acc at Hf ⊢
        generalize l[k] = p at c1 Hf
        obtain ⟨nm, wt⟩ := p
        simp only at c1 Hf
        go_wp2
        go_roundw
        case rel => exact ⟨k + 1, by omega, by go_num, by rw [Hf.out], hb⟩
        case measure => simp [intOf]; omega
      · have Hf : Hid (totalV l = sumV (·.2) (l.take k)) := hide (by unfold totalV; rw [List.take_of_length_le (by omega)])
        generalize sumV (·.2) (l.take k) = acc at Hf ⊢
        go_wp2
        go_ret
        exact ⟨ret_int Hf.out.symm, hb⟩
end Go.Proofs.Ytdelegamcebflaa
