/- Appending to rows of those who vote, which are the call's own. What those who vote weigh, on both sides: WeightOf, TotalOf, LeaderOf. What those who vote weigh, by the landed code: WeightOf, TotalOf, LeaderOf. Quorums, on both sides, where the weights are small. Whether a number lies between two others: the model's helper. What is a name: the two functions NameOk (the program's and the model's) answer alike at every text. -/
import Derived.Test.YtflccenbfeidhaaJoin2
import Derived.Maps.AppendAt
import Derived.Laws.AppendOwnNone
import Derived.Test.YtflccenbfeidhaaMem
namespace Go.Proofs.Ytflccenbfeidhaa
open Go.RowKit
set_option linter.unusedVariables false

theorem add_flatV (b off i : Nat) : (⟨b, off, none⟩ : Addr).add i = ⟨b, off + i, none⟩ := by
  by_cases hz : i = 0
  · subst hz; simp [Addr.add]
  · simp [Addr.add, hz]
theorem own_nilV (w : World) (base : Nat) (h : base ≤ w.heap.size) : OwnV base (w.alloc (.cells #[] 73)) (.slice (some ⟨w.heap.size, 0, none⟩) 0 0) [] :=
  World.ownsRow_lit w #[] 0 h (by unfold maxLen; omega) (by simp)
theorem OwnV.alloc {base : Nat} {w : World} {v : Value} {l : List Vl} (h : OwnV base w v l) (o : Obj) : OwnV base (w.alloc o) v l := World.ownsRow.alloc h o
theorem rdV_cells {w : World} {b off : Nat} {k : List Vl} (h4 : ∀ i (h : i < k.length), w.cell? ⟨b, off + i * 2, none⟩ = some (.string k[i].1) ∧ w.cell? ⟨b, off + i * 2 + 1, none⟩ = some (.int .i64 k[i].2)) :
    ∀ j u, (k.map vlC).flatten[j]? = some u → w.cell? ((⟨b, off, none⟩ : Addr).add j) = some u := by
  intro j u hj
  have hjl : j < (k.map vlC).flatten.length := (List.getElem?_eq_some_iff.1 hj).1
  rw [flat_len 2 _ (vlM_sz k), List.length_map] at hjl
  have hi : j / 2 < k.length := by omega
  have e := flat_get 2 (k.map vlC) (j / 2) (j % 2) (by simpa using hi) (vlM_sz k) (by omega)
  rw [show j / 2 * 2 + j % 2 = j from by omega] at e
  rw [e] at hj
  rw [add_flatV]
  rcases Nat.mod_two_eq_zero_or_one j with h | h
  · rw [h] at hj
    rw [show off + j = off + j / 2 * 2 from by omega, (h4 (j / 2) hi).1]
    simpa [vlC] using hj
  · rw [h] at hj
    rw [show off + j = off + j / 2 * 2 + 1 from by omega, (h4 (j / 2) hi).2]
    simpa [vlC] using hj

theorem app_ownV {ops : Array Oper} {rest : List Oper} {o : Oper} {a : Act} {Q : Exit → Act → World → Prop} (w : World) (hgd : o.guard = none) (s x : Operand)
    (ho : o.op = .call { callee := .builtin .append, args := #[s, x], argTypes := #[37, 37] })
    (base : Nat) (v vx : Value) (l k : List Vl) (hs : a.eval s = v) (hx : a.eval x = vx) (hown : OwnV base w v l) (hrd : RdV w vx k)
    (hlen : l.length + k.length ≤ 100000000) (hbase : base ≤ w.heap.size)
    (h : ∀ v' w', OwnV base w' v' (l ++ k) → w.grownBy w' v.ownBlock → Below base w w' → wpList Try.prog ops Q rest (a.put o.dst v') w') : wpList Try.prog ops Q (o :: rest) a w := by
  obtain ⟨i0, hi, hz0, hz1, hz2⟩ := info_parts Try.infoVl
  have hbel : ∀ w', w.grownBy w' v.ownBlock → Below base w w' := fun w' hg => (Below.refl _ _).grown hg hbase (fun k hk => (hown.ge k hk))
  rcases hrd with ⟨ax, cap, rfl, rfl, hnil⟩ | ⟨b, off, cap, h0, rfl, h1, h2, h3, h4⟩
  · cases ax with
    | none =>
      have hc : cap = 0 := hnil rfl
      subst hc
      refine wpList_append_own_none hgd s x 37 ho base 73 i0 2 Try.underlying37 hi v l.length (l.map vlC).flatten hs hown hx ?_
      exact h v w (by simpa [OwnV] using hown) (World.grownBy.refl _ _) (Below.refl _ _)
    | some ad =>
      refine wpList_append_own w hgd s x 37 ho base 73 i0 (.agg #[.string { data := #[] }, .int .i64 0]) 2 24 Try.underlying37 hi hz0 hz1 hz2 rfl (by decide) v l.length (l.map vlC).flatten hs hown ad 0 cap [] hx rfl (by intro j u hj; simp at hj) (by intro u hu; simp at hu) (by unfold maxLen; simp at hlen; omega) (by simp at hlen; omega) hbase ?_
      intro v' w' ho' hg _
      exact h v' w' (by simpa [OwnV] using ho') hg (hbel w' hg)
  · refine wpList_append_own w hgd s x 37 ho base 73 i0 (.agg #[.string { data := #[] }, .int .i64 0]) 2 24 Try.underlying37 hi hz0 hz1 hz2 rfl (by decide) v l.length (l.map vlC).flatten hs hown ⟨b, off, none⟩ k.length cap (k.map vlC).flatten hx (by rw [flat_len 2 _ (vlM_sz k), List.length_map]) (rdV_cells h4) ?_ (by unfold maxLen; omega) (by omega) hbase ?_
    · intro u hu
      obtain ⟨c, hc, hu⟩ := List.mem_flatten.1 hu
      obtain ⟨p, _, rfl⟩ := List.mem_map.1 hc
      simp only [vlC, List.mem_cons, List.not_mem_nil, or_false] at hu
      rcases hu with rfl | rfl <;> rfl
    · intro v' w' ho' hg _
      exact h v' w' (by simpa [OwnV] using ho') hg (hbel w' hg)
theorem rd_one_v (w : World) (g : Nat) (x : ByteArray) (y : Int) (hg : g = w.heap.size) : RdV (w.alloc (.cells #[.string x, .int .i64 y] 73)) (.slice (some ⟨g, 0, none⟩) 1 1) [(x, y)] := by
  subst hg
  refine .inr ⟨w.heap.size, 0, 1, by simp, rfl, by simp, by unfold maxLen; omega, by simp, ?_⟩
  intro i hi
  simp only [List.length_cons, List.length_nil] at hi
  have : i = 0 := by omega
  subst this
  exact ⟨by rw [World.cell?_alloc_at _ _ _ _ rfl]; rfl, by rw [World.cell?_alloc_at _ _ _ _ rfl]; rfl⟩
theorem RdV.at {w : World} {a : Option Addr} {cap k : Nat} {l : List Vl} (h : RdV w (.slice a l.length cap) l) (hk : k < l.length) :
    ∃ b off, a = some ⟨b, off, none⟩ ∧ l.length ≤ cap ∧ cap ≤ maxLen ∧ b < w.heap.size ∧ w.cell? ⟨b, off + k * 2, none⟩ = some (.string l[k].1) ∧ w.cell? ⟨b, off + k * 2 + 1, none⟩ = some (.int .i64 l[k].2) := by
  rcases h with ⟨a', cap', e, rfl, -⟩ | ⟨b, off, cap', h0, e, h1, h2, h3, h4⟩
  · simp at hk
  · simp only [Value.slice.injEq] at e
    obtain ⟨rfl, -, rfl⟩ := e
    exact ⟨b, off, rfl, h1, h2, h3, (h4 k hk).1, (h4 k hk).2⟩
end Go.Proofs.Ytflccenbfeidhaa

namespace Go.Proofs.Ytflccenbfeidhaa
open Go.RowKit
set_option linter.unusedVariables false

theorem foldV_snoc {α β : Type} (f : β → α → β) (z : β) (l : List α) (k : Nat) (h : k < l.length) : (l.take (k + 1)).foldl f z = f ((l.take k).foldl f z) l[k] := by
  rw [List.take_succ_eq_append_getElem h, List.foldl_append]; rfl
/-- What all of them come to, each by f. -/
def sumV (f : Vl → Int) (l : List Vl) : Int := l.foldl (fun s p => wrap64 (s + f p)) 0
theorem sumV_snoc (f : Vl → Int) (l : List Vl) (k : Nat) (h : k < l.length) : sumV f (l.take (k + 1)) = wrap64 (sumV f (l.take k) + f l[k]) := foldV_snoc _ _ l k h
theorem wrap64_twice (x : Int) : wrap64 (wrap64 x + 0) = wrap64 x := by rw [Int.add_zero]; unfold wrap64; omega
theorem sumV_same (f : Vl → Int) : ∀ (l : List Vl) (s : Int), wrap64 (s + 0) = s → wrap64 (l.foldl (fun s p => wrap64 (s + f p)) s + 0) = l.foldl (fun s p => wrap64 (s + f p)) s
  | [], s, h => h
  | p :: l, s, h => by rw [List.foldl_cons]; exact sumV_same f l _ (wrap64_twice _)
theorem sumV_zero (f : Vl → Int) (l : List Vl) : wrap64 (sumV f l + 0) = sumV f l := sumV_same f l 0 (by unfold wrap64; omega)
/-- Whether a name is among these. -/
def hasN (ns : List ByteArray) (s : ByteArray) : Bool := ns.any (fun t => decide (t = s))
theorem hasN_yes {ns : List ByteArray} {s : ByteArray} (h : s ∈ ns) : hasN ns s = true := List.any_eq_true.2 ⟨s, h, by simp⟩
theorem hasN_no {ns : List ByteArray} {s : ByteArray} (h : s ∉ ns) : hasN ns s = false := by
  cases e : hasN ns s with
  | false => rfl
  | true =>
    obtain ⟨t, ht, e'⟩ := List.any_eq_true.1 e
    have : t = s := by simpa using e'
    exact absurd (this ▸ ht) h
/-- What one weighs among these names. -/
def wtN (ns : List ByteArray) (p : Vl) : Int := if hasN ns p.1 = true then p.2 else 0
def weightV (l : List Vl) (ns : List ByteArray) : Int := sumV (wtN ns) l
def totalV (l : List Vl) : Int := sumV (·.2) l
/-- Who leads in a round. -/
def leadV (l : List Vl) (r : Int) : ByteArray := if l.length = 0 ∨ r < 0 then ByteArray.empty else (l.getD (r.toNat % l.length) (ByteArray.empty, 0)).1
theorem mem_next {ns : List ByteArray} {s : ByteArray} {k : Nat} (h : k < ns.length) (hn : s ∉ ns.take k) (he : ns[k] ≠ s) : s ∉ ns.take (k + 1) := by
  rw [List.take_succ_eq_append_getElem h]
  intro hm
  rcases List.mem_append.1 hm with h' | h'
  · exact hn h'
  · exact he (by simpa using (List.mem_singleton.1 h').symm)

end Go.Proofs.Ytflccenbfeidhaa

namespace Go.Proofs.Ytflccenbfeidhaa
open Go.RowKit
set_option linter.unusedVariables false

end Go.Proofs.Ytflccenbfeidhaa

namespace Go.Proofs.Ytflccenbfeidhaa
open Go.RowKit
set_option linter.unusedVariables false

end Go.Proofs.Ytflccenbfeidhaa

namespace Go.Proofs.Ytflccenbfeidhaa
open Go.RowKit
set_option linter.unusedVariables false

def inB (x a b : Int) : Bool := decide (a ≤ x ∧ x ≤ b)

theorem l1In_any (x a b : Int) (w : World) :
    Calls Try.prog 20 #[.int .i64 x, .int .i64 a, .int .i64 b] w fun e w' => e = .returned (.bool (inB x a b)) ∧ w' = w := by
  by_cases h1 : a ≤ x
  · by_cases h2 : x ≤ b
    · have e : Hid (inB x a b = true) := hide (by simp [inB, h1, h2])
      go_enter Try.func20, Try.ntmps20
      go_wp2
      go_ret
      rw [e.out]; exact ⟨rfl, rfl⟩
    · have e : Hid (inB x a b = false) := hide (by simp [inB, h1, h2])
      go_enter Try.func20, Try.ntmps20
      go_wp2
      go_ret
      rw [e.out]; exact ⟨rfl, rfl⟩
  · have e : Hid (inB x a b = false) := hide (by simp [inB, h1])
    go_enter Try.func20, Try.ntmps20
    go_wp2
    go_ret
    rw [e.out]; exact ⟨rfl, rfl⟩
end Go.Proofs.Ytflccenbfeidhaa

namespace Go.Proofs.Ytflccenbfeidhaa
open Go.RowKit
set_option linter.unusedVariables false

def nbB (x : Int) : Bool := inB x 97 122 || inB x 48 57
def nmB (s : ByteArray) : Bool := s.data.toList.all (fun c => nbB (c.toNat : Int)) && inB s.size 1 8

theorem take_snoc (s : ByteArray) (k : Nat) (h : k < s.size) : s.data.toList.take (k + 1) = s.data.toList.take k ++ [s[k]] := by
  rw [List.take_succ_eq_append_getElem (by simpa using h)]; rfl

theorem all_snoc (s : ByteArray) (k : Nat) (h : k < s.size) (p : UInt8 → Bool) (h1 : (s.data.toList.take k).all p = true) (h2 : p s[k] = true) : (s.data.toList.take (k + 1)).all p = true := by
  rw [take_snoc s k h, List.all_append, h1]; simp [h2]

theorem all_not (s : ByteArray) (k : Nat) (h : k < s.size) (p : UInt8 → Bool) (h2 : p s[k] = false) : s.data.toList.all p = false := by
  rw [Bool.eq_false_iff]; intro ha
  rw [List.all_eq_true] at ha
  have := ha s[k] (by simp [ByteArray.getElem_eq_getElem_data])
  rw [h2] at this; cases this

theorem all_whole (s : ByteArray) (p : UInt8 → Bool) (h : (s.data.toList.take s.size).all p = true) : s.data.toList.all p = true := by
  rwa [List.take_of_length_le (by simp)] at h

theorem isNameByte_any (x : Int) (w : World) :
    Calls Try.prog 87 #[.int .u8 x] w fun e w' => e = .returned (.bool (nbB x)) ∧ w' = w := by
  rcases (show (97 ≤ x ∧ x ≤ 122) ∨ (122 < x) ∨ (57 < x ∧ x < 97) ∨ (48 ≤ x ∧ x ≤ 57) ∨ x < 48 from by omega) with h | h | h | h | h
  all_goals
    have e : Hid (nbB x = decide ((97 ≤ x ∧ x ≤ 122) ∨ (48 ≤ x ∧ x ≤ 57))) := hide (by simp only [nbB, inB, Bool.or_eq_decide]; simp)
    go_enter Try.func87, Try.ntmps87
    go_wp2
    go_ret
    exact ⟨ret_bool (by rw [e.out, Bool.eq_iff_iff]; simp only [Bool.or_eq_true, decide_eq_true_eq, Bool.false_eq_true, true_iff, false_iff]; omega), rfl⟩

set_option maxHeartbeats 400000 in
theorem specNameOk_any (s : ByteArray) (w : World) (hs : s.size ≤ maxLen) :
    Calls Try.prog 21 #[.string s] w fun e w' => e = .returned (.bool (nmB s)) ∧ w' = w := by
  unfold maxLen at hs
  go_enter Try.func21, Try.ntmps21
  go_wp2
  go_loop [3] (fun i => ∃ k : Nat, k ≤ s.size ∧ i = .int .i64 k ∧ (s.data.toList.take k).all (fun c => nbB (c.toNat : Int)) = true) (fun i => s.size - (intOf i).toNat)
  case atStart => exact ⟨0, Nat.zero_le _, rfl, rfl⟩
  case round =>
    obtain ⟨k, hk, rfl, hall⟩ := hrel
    by_cases hlt : k < s.size
    · have Hall := hide hall
      clear hall
      have hb : (s[k].toNat : Int) < 256 := by have := s[k].toNat_lt; omega
      cases h1 : inB (s[k].toNat : Int) 97 122
      · cases h2 : inB (s[k].toNat : Int) 48 57
        · have hf : Hid (nmB s = false) := hide (by unfold nmB; rw [all_not s k hlt _ (by simp only [nbB, h1, h2]; rfl)]; rfl)
          go_wp2_with (go_at_call 20; refine (l1In_any _ _ _ _).mono ?_; rintro e w' ⟨rfl, rfl⟩)
          go_ret
          rw [hf.out]; exact ⟨rfl, rfl⟩
        · have hn : Hid (nbB (s[k].toNat : Int) = true) := hide (by simp [nbB, h1, h2])
          go_wp2_with (go_at_call 20; refine (l1In_any _ _ _ _).mono ?_; rintro e w' ⟨rfl, rfl⟩)
          go_round
          case rel => exact ⟨k + 1, by omega, by go_num, all_snoc s k hlt _ Hall.out hn.out⟩
          case measure => simp [intOf]; omega
      · have hn : Hid (nbB (s[k].toNat : Int) = true) := hide (by simp [nbB, h1])
        go_wp2_with (go_at_call 20; refine (l1In_any _ _ _ _).mono ?_; rintro e w' ⟨rfl, rfl⟩)
        go_round
        case rel => exact ⟨k + 1, by omega, by go_num, all_snoc s k hlt _ Hall.out hn.out⟩
        case measure => simp [intOf]; omega
    · have hf : Hid (nmB s = inB s.size 1 8) := hide (by
        have : k = s.size := by omega
        subst this
        unfold nmB; rw [all_whole s _ hall]; rfl)
      clear hall
      go_wp2_with (go_at_call 20; refine (l1In_any _ _ _ _).mono ?_; rintro e w' ⟨rfl, rfl⟩)
      go_ret
      rw [hf.out]; exact ⟨rfl, rfl⟩

set_option maxHeartbeats 400000 in
theorem implNameOk_any (s : ByteArray) (w : World) (hs : s.size ≤ maxLen) :
    Calls Try.prog 66 #[.string s] w fun e w' => e = .returned (.bool (nmB s)) ∧ w' = w := by
  unfold maxLen at hs
  rcases (show s.size < 1 ∨ 8 < s.size ∨ (1 ≤ s.size ∧ s.size ≤ 8) from by omega) with h | h | h
  · have hf : Hid (nmB s = false) := hide (by unfold nmB inB; rw [decide_eq_false (by omega)]; simp)
    go_enter Try.func66, Try.ntmps66
    go_wp2
    go_ret
    rw [hf.out]; exact ⟨rfl, rfl⟩
  · have hf : Hid (nmB s = false) := hide (by unfold nmB inB; rw [decide_eq_false (by omega)]; simp)
    have h' : ¬ s.size < 1 := by omega
    go_enter Try.func66, Try.ntmps66
    go_wp2
    go_ret
    rw [hf.out]; exact ⟨rfl, rfl⟩
  · have hin : inB s.size 1 8 = true := by unfold inB; rw [decide_eq_true (by omega)]
    have Hin := hide hin
    clear hin
    go_enter Try.func66, Try.ntmps66
    go_wp2
    go_loop [14] (fun i => ∃ k : Nat, k ≤ s.size ∧ i = .int .i64 k ∧ (s.data.toList.take k).all (fun c => nbB (c.toNat : Int)) = true) (fun i => s.size - (intOf i).toNat)
    case atStart => exact ⟨0, Nat.zero_le _, rfl, rfl⟩
    case round =>
      obtain ⟨k, hk, rfl, hall⟩ := hrel
      by_cases hlt : k < s.size
      · have Hall := hide hall
        clear hall
        cases h1 : nbB (s[k].toNat : Int)
        · have hf : Hid (nmB s = false) := hide (by unfold nmB; rw [all_not s k hlt _ h1]; rfl)
          go_wp2_with (go_at_call 87; refine (isNameByte_any _ _).mono ?_; rintro e w' ⟨rfl, rfl⟩)
          go_ret
          rw [hf.out]; exact ⟨rfl, rfl⟩
        · have hn := hide h1
          go_wp2_with (go_at_call 87; refine (isNameByte_any _ _).mono ?_; rintro e w' ⟨rfl, rfl⟩)
          go_round
          case rel => exact ⟨k + 1, by omega, by go_num, all_snoc s k hlt _ Hall.out hn.out⟩
          case measure => simp [intOf]; omega
      · have hf : Hid (nmB s = true) := hide (by
          have : k = s.size := by omega
          subst this
          unfold nmB; rw [all_whole s _ hall, Hin.out]; rfl)
        clear hall
        go_wp2
        go_ret
        rw [hf.out]; exact ⟨rfl, rfl⟩
end Go.Proofs.Ytflccenbfeidhaa
