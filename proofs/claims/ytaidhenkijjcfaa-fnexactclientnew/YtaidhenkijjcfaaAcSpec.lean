/- The model's AcctAt, l4Of and Wealth. -/
import Derived.Test.YtaidhenkijjcfaaAcRow
namespace Go.Proofs.Ytaidhenkijjcfaa
open Go.RowKit
set_option linter.unusedVariables false

def atF (s : ByteArray) : List Ac → Nat → Int
  | [], _ => -1
  | a :: l, n => if a.1 = s then (n : Int) else atF s l (n + 1)
/-- The place of a name; -1. -/
def atA (l : List Ac) (s : ByteArray) : Int := atF s l 0
theorem atF_found (s : ByteArray) : ∀ (l : List Ac) (n k : Nat) (h : k < l.length), l[k].1 = s → (∀ j (hj : j < k), (l[j]'(by omega)).1 ≠ s) → atF s l n = ((n + k : Nat) : Int)
  | [], n, k, h, _, _ => by simp at h
  | a :: l, n, k, h, he, hn => by
    cases k with
    | zero => rw [atF, if_pos (by simpa using he)]; simp
    | succ k =>
      have h0 : ¬ a.1 = s := hn 0 (by omega)
      rw [atF, if_neg h0, atF_found s l (n + 1) k (by simpa using h) (by simpa using he) (fun j hj => by have := hn (j + 1) (by omega); simpa using this)]
      omega
theorem atF_none (s : ByteArray) : ∀ (l : List Ac) (n : Nat), (∀ j (hj : j < l.length), l[j].1 ≠ s) → atF s l n = -1
  | [], n, _ => rfl
  | a :: l, n, hn => by
    have h0 : ¬ a.1 = s := hn 0 (by simp)
    rw [atF, if_neg h0]
    exact atF_none s l (n + 1) (fun j hj => by have := hn (j + 1) (by simpa using hj); simpa using this)

/-- All that an account has. -/
def ofA (a : Ac) : Int := (a.2.2.2.2).foldl (fun s p => wrap64 (s + p.1)) (wrap64 (a.2.1 + a.2.2.2.1))
def wealthA (l : List Ac) : Int := l.foldl (fun s a => wrap64 (s + ofA a)) 0

theorem fold_snoc {α β : Type} (f : β → α → β) (z : β) (l : List α) (k : Nat) (h : k < l.length) : (l.take (k + 1)).foldl f z = f ((l.take k).foldl f z) l[k] := by
  rw [List.take_succ_eq_append_getElem h, List.foldl_append]; rfl

set_option maxRecDepth 20000 in
set_option maxHeartbeats 1000000 in
theorem specOf_any (a : Ac) (lv : Value) (w : World) (hr : RdL w lv a.2.2.2.2) (hl : a.2.2.2.2.length ≤ 4000000) :
    Calls Try.prog 42 #[acV a lv] w fun e w' => e = .returned (.int .i64 (ofA a)) ∧ Below w.heap.size w w' := by
  obtain ⟨nm, fr, no, st, ls⟩ := a
  have HB := hide ((Below.refl _ w).alloc (Nat.le_refl _) (.cells #[.string nm, .int .i64 fr, .int .i64 no, .int .i64 st, lv] 55))
  have hk := Blk.new w 55 [.string nm, .int .i64 fr, .int .i64 no, .int .i64 st, lv]
  have Hr := hide (hr.below HB.out (Nat.le_refl _))
  obtain ⟨av, cv, rfl⟩ := hr.shape
  clear hr
  simp only [acV] at *
  obtain ⟨w0, hw0⟩ : ∃ w0, w.alloc (.cells #[.string nm, .int .i64 fr, .int .i64 no, .int .i64 st, .slice av ls.length cv] 55) = w0 := ⟨_, rfl⟩
  have hk' : Blk w0 w.heap.size 55 [.string nm, .int .i64 fr, .int .i64 no, .int .i64 st, .slice av ls.length cv] := by rw [← hw0]; exact hk
  have HB' : Hid (Below w.heap.size w w0) := hide (by rw [← hw0]; exact HB.out)
  have Hr' : Hid (RdL w0 (.slice av ls.length cv) ls) := hide (by rw [← hw0]; exact Hr.out)
  have hlt0 := hk'.lt
  have k1 := hk'.cell 1
  have k3 := hk'.cell 3
  simp only [List.getElem?_cons_zero, List.getElem?_cons_succ] at k1 k3
  clear hk HB Hr
  go_enter Try.func42, Try.ntmps42
  go_wp2
  clear k1 k3
  go_loopw [3, 4] (fun nv iv wr => ∃ k : Nat, k ≤ ls.length ∧ iv = .int .i64 k ∧ nv = .int .i64 ((ls.take k).foldl (fun s p => wrap64 (s + p.1)) (wrap64 (fr + st))) ∧ Below w0.heap.size w0 wr) (fun _ iv _ => ls.length - (intOf iv).toNat)
  case atStart => exact ⟨0, Nat.zero_le _, rfl, rfl, Below.refl _ _⟩
  case round =>
    obtain ⟨k, hkl, rfl, rfl, hb⟩ := hrel
    have hc := (hk'.below hb hlt0).cell 4
    simp only [List.getElem?_cons_zero, List.getElem?_cons_succ] at hc
    by_cases hlt : k < ls.length
    · have hrr := Hr'.out
      rcases hrr with ⟨_, _, _, e, _⟩ | ⟨b, off, cap, h0, hv, h1, h2, h3, h4⟩
      · subst e; simp at hlt
      injection hv with ha _ hcap
      subst ha hcap
      have hc1 := (hb.cell (p := ⟨b, off + k * 2, none⟩) h3).trans (h4 k hlt).1
      have hli : (k : Int) < (ls.length : Int) := by omega
      have Hf := hide (fold_snoc (fun s (p : Int × Int) => wrap64 (s + p.1)) (wrap64 (fr + st)) ls k hlt)
      clear h4
      generalize ls[k] = p at hc1 Hf
      obtain ⟨x, y⟩ := p
      simp only at hc1 Hf
      generalize (ls.take k).foldl (fun s (p : Int × Int) => wrap64 (s + p.1)) (wrap64 (fr + st)) = acc at Hf
      go_wp2
      go_roundw
      case rel => exact ⟨k + 1, by omega, by go_num, by rw [Hf.out], hb⟩
      case measure => simp [intOf]; omega
    · have Hf : Hid (ofA (nm, fr, no, st, ls) = (ls.take k).foldl (fun s p => wrap64 (s + p.1)) (wrap64 (fr + st))) := hide (by unfold ofA; rw [List.take_of_length_le (by omega)])
      generalize (ls.take k).foldl (fun s (p : Int × Int) => wrap64 (s + p.1)) (wrap64 (fr + st)) = acc at Hf
      go_wp2
      go_ret
      exact ⟨ret_int Hf.out.symm, HB'.out.trans (hb.mono HB'.out.size)⟩

set_option maxRecDepth 20000 in
set_option maxHeartbeats 1000000 in
theorem specWealth_any (v : Value) (l : List Ac) (w : World) (hr : RdA w v l) (hl : l.length ≤ 4000000) (hall : ∀ a ∈ l, a.2.2.2.2.length ≤ 4000000) :
    Calls Try.prog 36 #[v] w fun e w' => e = .returned (.int .i64 (wealthA l)) ∧ Below w.heap.size w w' := by
  rcases hr with ⟨a, cap, rfl, rfl, -⟩ | ⟨b, off, cap, h0, rfl, h1, h2, h3, h4⟩
  · go_enter Try.func36, Try.ntmps36
    go_wp2
    refine wp_loop_rounds 1 ?_
    rw [rounds_succ]
    go_wp2
    go_ret
    exact ⟨rfl, Below.refl _ _⟩
  · have H4 := hide h4
    clear h4
    go_enter Try.func36, Try.ntmps36
    go_wp2
    go_loopw [3, 4] (fun nv iv wr => ∃ k : Nat, k ≤ l.length ∧ iv = .int .i64 k ∧ nv = .int .i64 ((l.take k).foldl (fun s a => wrap64 (s + ofA a)) 0) ∧ Below w.heap.size w wr) (fun _ iv _ => l.length - (intOf iv).toNat)
    case atStart => exact ⟨0, Nat.zero_le _, rfl, rfl, Below.refl _ _⟩
    case round =>
      obtain ⟨k, hkl, rfl, rfl, hb⟩ := hrel
      by_cases hlt : k < l.length
      · obtain ⟨lv, hat, hrl⟩ := H4.out k hlt
        obtain ⟨c0, c1, c2, c3, c4⟩ := hat.below hb h3
        have hli : (k : Int) < (l.length : Int) := by omega
        have Hf := hide (fold_snoc (fun s (a : Ac) => wrap64 (s + ofA a)) 0 l k hlt)
        have HO := hide (specOf_any l[k] lv wr (hrl.below hb (Nat.le_refl _)) (hall l[k] (List.getElem_mem _)))
        have hshape := hrl.shape
        clear hat hrl hall
        generalize (l.take k).foldl (fun s (a : Ac) => wrap64 (s + ofA a)) 0 = acc at Hf
        generalize l[k] = ak at c0 c1 c2 c3 Hf HO hshape
        generalize ofA ak = oa at Hf HO
        obtain ⟨nm, fr, no, st, ls⟩ := ak
        obtain ⟨av, cv, rfl⟩ := hshape
        simp only [acV] at c0 c1 c2 c3 HO
        go_wp2_with (go_at_call 42; refine HO.out.mono ?_; rintro e w2 ⟨rfl, hb2⟩)
        go_roundw
        case rel => exact ⟨k + 1, by omega, by go_num, by rw [Hf.out], hb.trans (hb2.mono hb.size)⟩
        case measure => simp [intOf]; omega
      · have Hf : Hid (wealthA l = (l.take k).foldl (fun s a => wrap64 (s + ofA a)) 0) := hide (by unfold wealthA; rw [List.take_of_length_le (by omega)])
        generalize (l.take k).foldl (fun s (a : Ac) => wrap64 (s + ofA a)) 0 = acc at Hf
        go_wp2
        go_ret
        exact ⟨ret_int Hf.out.symm, hb⟩
end Go.Proofs.Ytaidhenkijjcfaa
