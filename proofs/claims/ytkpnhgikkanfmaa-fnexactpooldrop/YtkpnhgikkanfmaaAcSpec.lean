/- The model's AcctAt, l4Of and Wealth. -/
import Derived.Test.YtkpnhgikkanfmaaAcRow
namespace Go.Proofs.Ytkpnhgikkanfmaa
open Go.RowKit
set_option linter.unusedVariables false

def atF (s : ByteArray) : List Ac → Nat → Int
  | [], _ => -1
  | a :: l, n => if a.1 = s then (n : Int) else atF s l (n + 1)
/-- The place of a name; -1. -/
def atA (l : List Ac) (s : ByteArray) : Int := atF s l 0
theorem atF_found (s : ByteArray) : ∀ (l : List Ac) (n k : Nat) (h : k < l.length), l[k].1 = s → (∀ j (hj : j < k), (l[j]'(by omega)).1 ≠ s) → atF s l n = ((n + k : Nat) : Int)
  | [], n, k, h, _, _ => by simp at h
  | a :: l, n, k, h, he, hn => by
    cases k with
    | zero => rw [atF, if_pos (by simpa using he)]; simp
    | succ k =>
      have h0 : ¬ a.1 = s := hn 0 (by omega)
      rw [atF, if_neg h0, atF_found s l (n + 1) k (by simpa using h) (by simpa using he) (fun j hj => by have := hn (j + 1) (by omega); simpa using this)]
      omega
theorem atF_none (s : ByteArray) : ∀ (l : List Ac) (n : Nat), (∀ j (hj : j < l.length), l[j].1 ≠ s) → atF s l n = -1
  | [], n, _ => rfl
  | a :: l, n, hn => by
    have h0 : ¬ a.1 = s := hn 0 (by simp)
    rw [atF, if_neg h0]
    exact atF_none s l (n + 1) (fun j hj => by have := hn (j + 1) (by simpa using hj); simpa using this)

set_option maxRecDepth 20000 in
set_option maxHeartbeats 1000000 in
theorem specAcctAt_any (v : Value) (l : List Ac) (s : ByteArray) (w : World) (hr : RdA w v l) (hl : l.length ≤ 4000000) :
    Calls Try.prog 53 #[v, .string s] w fun e w' => e = .returned (.int .i64 (atA l s)) ∧ Below w.heap.size w w' := by
  rcases hr with ⟨a, cap, rfl, rfl, -⟩ | ⟨b, off, cap, h0, rfl, h1, h2, h3, h4⟩
  · go_enter Try.func53, Try.ntmps53
    go_wp2
    refine wp_loop_rounds 1 ?_
    rw [rounds_succ]
    go_wp2
    go_ret
    exact ⟨rfl, Below.refl _ _⟩
  · have H4 := hide h4
    clear h4
    go_enter Try.func53, Try.ntmps53
    go_wp2
    go_loopw [5] (fun i wr => ∃ k : Nat, k ≤ l.length ∧ i = .int .i64 k ∧ (∀ j (h : j < l.length), j < k → l[j].1 ≠ s) ∧ Below w.heap.size w wr) (fun i _ => l.length - (intOf i).toNat)
    case atStart => exact ⟨0, Nat.zero_le _, rfl, fun j _ hj => by omega, Below.refl _ _⟩
    case round =>
      obtain ⟨k, hk, rfl, hno, hb⟩ := hrel
      have Hno := hide hno
      clear hno
      by_cases hlt : k < l.length
      · obtain ⟨lv, hat, hrl⟩ := H4.out k hlt
        have hc := (hat.below hb h3).c0
        have hli : (k : Int) < (l.length : Int) := by omega
        clear hat hrl
        by_cases he : l[k].1 = s
        · have Hr : Hid (atA l s = (k : Int)) := hide (by unfold atA; rw [atF_found s l 0 k hlt he (fun j hj => Hno.out j (by omega) hj)]; omega)
          rw [he] at hc
          clear he
          go_wp2
          go_ret
          exact ⟨ret_int Hr.out.symm, hb⟩
        · have Hn2 : Hid (∀ j (h : j < l.length), j < k + 1 → l[j].1 ≠ s) := hide (fun j h hj => by
            by_cases e : j = k
            · subst e; exact he
            · exact Hno.out j h (by omega))
          have hq := bytes_ne he
          clear he Hno
          generalize l[k].1 = t at hc hq
          go_wp2
          go_roundw
          case rel => exact ⟨k + 1, by omega, by go_num, Hn2.out, hb⟩
          case measure => simp [intOf]; omega
      · have Hr : Hid (atA l s = -1) := hide (by unfold atA; exact atF_none s l 0 (fun j hj => Hno.out j hj (by omega)))
        go_wp2
        go_ret
        exact ⟨ret_int Hr.out.symm, hb⟩
/-- All that an account has. -/
def ofA (a : Ac) : Int := (a.2.2.2.2).foldl (fun s p => wrap64 (s + p.1)) (wrap64 (a.2.1 + a.2.2.2.1))
def wealthA (l : List Ac) : Int := l.foldl (fun s a => wrap64 (s + ofA a)) 0

theorem fold_snoc {α β : Type} (f : β → α → β) (z : β) (l : List α) (k : Nat) (h : k < l.length) : (l.take (k + 1)).foldl f z = f ((l.take k).foldl f z) l[k] := by
  rw [List.take_succ_eq_append_getElem h, List.foldl_append]; rfl


end Go.Proofs.Ytkpnhgikkanfmaa
