/- What leaves, held against each other; its size. An account by value: made, held against another, its size. Accounts in memory: what a slice of them reads as, what a call owns of them, how they are made anew. The model's AcctAt, l4Of and Wealth. The model's AcctOk. -/
import Derived.Test.YtkjlmnhdmlolmaaGreatDoorJoin3
import Derived.Deep.RegionHeldLaw
import Derived.Test.YtkjlmnhdmlolmaaGreatDoorJoin1
import Derived.Test.YtkjlmnhdmlolmaaGreatDoorJoin2
namespace Go.Proofs.YtkjlmnhdmlolmaaGreatDoor
open Go.RowKit
set_option linter.unusedVariables false


end Go.Proofs.YtkjlmnhdmlolmaaGreatDoor

namespace Go.Proofs.YtkjlmnhdmlolmaaGreatDoor
open Go.RowKit
set_option linter.unusedVariables false

/-- An account: its name, what is free, how many orders, what is at stake, what leaves. -/
abbrev Ac := ByteArray × Int × Int × Int × List (Int × Int)
/-- Its value, its list of what leaves being lv. -/
def acV (a : Ac) (lv : Value) : Value := .agg #[.string a.1, .int .i64 a.2.1, .int .i64 a.2.2.1, .int .i64 a.2.2.2.1, lv]


end Go.Proofs.YtkjlmnhdmlolmaaGreatDoor

namespace Go.Proofs.YtkjlmnhdmlolmaaGreatDoor
open Go.RowKit
set_option linter.unusedVariables false

/-- The account a, its list being lv, lies in block b from place o on. -/
structure AcAt (w : World) (b o : Nat) (a : Ac) (lv : Value) : Prop where
  c0 : w.cell? ⟨b, o, none⟩ = some (.string a.1)
  c1 : w.cell? ⟨b, o + 1, none⟩ = some (.int .i64 a.2.1)
  c2 : w.cell? ⟨b, o + 2, none⟩ = some (.int .i64 a.2.2.1)
  c3 : w.cell? ⟨b, o + 3, none⟩ = some (.int .i64 a.2.2.2.1)
  c4 : w.cell? ⟨b, o + 4, none⟩ = some lv
theorem AcAt.below {w w' : World} {B b o : Nat} {a : Ac} {lv : Value} (h : AcAt w b o a lv) (hb : Below B w w') (hB : b < B) : AcAt w' b o a lv :=
  ⟨(hb.cell (p := ⟨b, o, none⟩) hB).trans h.c0, (hb.cell (p := ⟨b, o + 1, none⟩) hB).trans h.c1, (hb.cell (p := ⟨b, o + 2, none⟩) hB).trans h.c2, (hb.cell (p := ⟨b, o + 3, none⟩) hB).trans h.c3, (hb.cell (p := ⟨b, o + 4, none⟩) hB).trans h.c4⟩
/-- The slice v reads as the accounts l. -/
def RdA (w : World) (v : Value) (l : List Ac) : Prop :=
  (∃ a cap, v = .slice a 0 cap ∧ l = [] ∧ (a = none → cap = 0)) ∨
  ∃ b off cap, l ≠ [] ∧ v = .slice (some ⟨b, off, none⟩) l.length cap ∧ l.length ≤ cap ∧ cap ≤ maxLen ∧ b < w.heap.size ∧
    ∀ i (h : i < l.length), ∃ lv, AcAt w b (off + i * 5) l[i] lv ∧ RdL w lv l[i].2.2.2.2
theorem RdA.shape {w : World} {v : Value} {l : List Ac} (h : RdA w v l) : ∃ a cap, v = .slice a l.length cap := by
  rcases h with ⟨a, cap, rfl, rfl, -⟩ | ⟨b, off, cap, h0, rfl, _⟩
  · exact ⟨a, cap, rfl⟩
  · exact ⟨_, cap, rfl⟩
theorem RdA.below {B : Nat} {w w' : World} {v : Value} {l : List Ac} (h : RdA w v l) (hb : Below B w w') (hB : w.heap.size ≤ B) : RdA w' v l := by
  rcases h with h | ⟨b, off, cap, h0, hv, h1, h2, h3, h4⟩
  · exact .inl h
  · refine .inr ⟨b, off, cap, h0, hv, h1, h2, by have := hb.size; omega, fun i hi => ?_⟩
    obtain ⟨lv, k1, k2⟩ := h4 i hi
    exact ⟨lv, k1.below hb (by omega), k2.below hb hB⟩

def acC (q : Ac × Value) : List Value := [.string q.1.1, .int .i64 q.1.2.1, .int .i64 q.1.2.2.1, .int .i64 q.1.2.2.2.1, q.2]
def acZ : List Value := [.string { data := #[] }, .int .i64 0, .int .i64 0, .int .i64 0, .slice none 0 0]
theorem acM_sz (l : List (Ac × Value)) : ∀ x ∈ l.map acC, x.length = 5 := fun x hx => by obtain ⟨p, _, rfl⟩ := List.mem_map.1 hx; rfl
/-- The lists of what leaves of the pairs Z (an account, and its list) are the call's own, each of its own block, which is not the block 'g'. -/
structure Lvs (base : Nat) (w : World) (g : Nat) (Z : List (Ac × Value)) : Prop where
  own : ∀ i (h : i < Z.length), OwnL base w Z[i].2 Z[i].1.2.2.2.2
  far : ∀ i (h : i < Z.length) k, Z[i].2.ownBlock = some k → k ≠ g
  apart : ∀ i j (hi : i < Z.length) (hj : j < Z.length), i ≠ j → ∀ k, Z[i].2.ownBlock = some k → Z[j].2.ownBlock ≠ some k
/-- The slice v, of the call's own from block 'base' on, reads as the accounts l; each one's list is the call's own, too, and no two share a block. -/
def OwnA (base : Nat) (w : World) (v : Value) (l : List Ac) : Prop :=
  ∃ (g cap : Nat) (Z : List (Ac × Value)), Z.map (·.1) = l ∧ v = .slice (some ⟨g, 0, none⟩) l.length cap ∧ w.ownsRow base 72 5 v l.length (Z.map acC).flatten ∧ Lvs base w g Z

theorem OwnA.rd {base : Nat} {w : World} {v : Value} {l : List Ac} (h : OwnA base w v l) : RdA w v l := by
  obtain ⟨g, cap, Z, hZ, rfl, ho, hl⟩ := h
  have hlen : Z.length = l.length := by rw [← hZ]; simp
  by_cases hn : l = []
  · subst hn; exact .inl ⟨_, _, rfl, rfl, fun h => by cases h⟩
  · rcases ho.2 with ⟨hv, _⟩ | ⟨g', cap', cur, hv, hb, hg, hnc, hcm, hcs, ht⟩
    · cases hv
    · simp only [Value.slice.injEq, Option.some.injEq, Addr.mk.injEq, and_true, true_and] at hv
      obtain ⟨rfl, rfl⟩ := hv
      refine .inr ⟨g, 0, cap, hn, rfl, hnc, hcm, (Array.getElem?_eq_some_iff.1 hg).1, fun i hi => ?_⟩
      have hi' : i < Z.length := by omega
      have e : l[i] = Z[i].1 := by subst hZ; simp
      refine ⟨Z[i].2, ?_, by rw [e]; exact (hl.own i hi').rd⟩
      have cell : ∀ j, j < 5 → w.cell? ⟨g, 0 + i * 5 + j, none⟩ = (acC Z[i])[j]? := fun j hj => by
        rw [Nat.zero_add, ho.cellAt (i * 5 + j) (by omega), flat_get 5 (Z.map acC) i j (by simpa using hi') (acM_sz Z) hj]
        simp
      rw [e]
      exact ⟨by have := cell 0 (by omega); simpa [acC] using this, by have := cell 1 (by omega); simpa [acC] using this, by have := cell 2 (by omega); simpa [acC] using this, by have := cell 3 (by omega); simpa [acC] using this, by have := cell 4 (by omega); simpa [acC] using this⟩

theorem Lvs.below {B base : Nat} {w w' : World} {g : Nat} {Z : List (Ac × Value)} (h : Lvs base w g Z) (hb : Below B w w') (hB : w.heap.size ≤ B) : Lvs base w' g Z :=
  ⟨fun i hi => (h.own i hi).below hb hB, h.far, h.apart⟩
theorem Lvs.set {base : Nat} {w : World} {g : Nat} {Z : List (Ac × Value)} (h : Lvs base w g Z) (j : Nat) (u : Value) : Lvs base (w.setCell ⟨g, j, none⟩ u) g Z :=
  ⟨fun i hi => row_set (h.own i hi) g j u (h.far i hi), h.far, h.apart⟩
theorem Lvs.snoc {base : Nat} {w : World} {g : Nat} {Z : List (Ac × Value)} (h : Lvs base w g Z) (q : Ac × Value) (ho : OwnL base w q.2 q.1.2.2.2.2) (hf : ∀ k, q.2.ownBlock = some k → k ≠ g)
    (hn : ∀ i (hi : i < Z.length) k, Z[i].2.ownBlock = some k → q.2.ownBlock ≠ some k) : Lvs base w g (Z ++ [q]) := by
  have at1 : ∀ i (hi : i < (Z ++ [q]).length), (∃ h' : i < Z.length, (Z ++ [q])[i] = Z[i]) ∨ (i = Z.length ∧ (Z ++ [q])[i] = q) := fun i hi => by
    by_cases h' : i < Z.length
    · exact .inl ⟨h', List.getElem_append_left h'⟩
    · have e : i = Z.length := by simp at hi; omega
      subst e
      exact .inr ⟨rfl, by simp⟩
  refine ⟨fun i hi => ?_, fun i hi k hk => ?_, fun i j hi hj hij k hk => ?_⟩
  · rcases at1 i hi with ⟨h', e⟩ | ⟨_, e⟩
    · rw [e]; exact h.own i h'
    · rw [e]; exact ho
  · rcases at1 i hi with ⟨h', e⟩ | ⟨_, e⟩
    · rw [e] at hk; exact h.far i h' k hk
    · rw [e] at hk; exact hf k hk
  · rcases at1 i hi with ⟨h', e⟩ | ⟨ei, e⟩ <;> rcases at1 j hj with ⟨h2, e2⟩ | ⟨ej, e2⟩
    · rw [e] at hk; rw [e2]; exact h.apart i j h' h2 hij k hk
    · rw [e] at hk; rw [e2]; exact hn i h' k hk
    · rw [e] at hk; rw [e2]; exact fun e3 => hn j h2 k e3 hk
    · omega
theorem OwnA.below {B base : Nat} {w w' : World} {v : Value} {l : List Ac} (h : OwnA base w v l) (hb : Below B w w') (hB : w.heap.size ≤ B) : OwnA base w' v l := by
  obtain ⟨g, cap, Z, hZ, hv, ho, hl⟩ := h
  exact ⟨g, cap, Z, hZ, hv, row_below ho hb hB, hl.below hb hB⟩
theorem Tryz.infoAc : (Tryz.prog.info? 72).map (fun i => (i.zero, i.size, i.bytes)) = some (some (.agg #[.string { data := #[] }, .int .i64 0, .int .i64 0, .int .i64 0, .slice none 0 0]), 5, 64) := by kernel_rfl

end Go.Proofs.YtkjlmnhdmlolmaaGreatDoor

namespace Go.Proofs.YtkjlmnhdmlolmaaGreatDoor
open Go.RowKit
set_option linter.unusedVariables false

def atF (s : ByteArray) : List Ac → Nat → Int
  | [], _ => -1
  | a :: l, n => if a.1 = s then (n : Int) else atF s l (n + 1)
/-- The place of a name; -1. -/
def atA (l : List Ac) (s : ByteArray) : Int := atF s l 0
theorem atF_found (s : ByteArray) : ∀ (l : List Ac) (n k : Nat) (h : k < l.length), l[k].1 = s → (∀ j (hj : j < k), (l[j]'(by omega)).1 ≠ s) → atF s l n = ((n + k : Nat) : Int)
  | [], n, k, h, _, _ => by simp at h
  | a :: l, n, k, h, he, hn => by
    cases k with
    | zero => rw [atF, if_pos (by simpa using he)]; simp
    | succ k =>
      have h0 : ¬ a.1 = s := hn 0 (by omega)
      rw [atF, if_neg h0, atF_found s l (n + 1) k (by simpa using h) (by simpa using he) (fun j hj => by have := hn (j + 1) (by omega); simpa using this)]
      omega
theorem atF_none (s : ByteArray) : ∀ (l : List Ac) (n : Nat), (∀ j (hj : j < l.length), l[j].1 ≠ s) → atF s l n = -1
  | [], n, _ => rfl
  | a :: l, n, hn => by
    have h0 : ¬ a.1 = s := hn 0 (by simp)
    rw [atF, if_neg h0]
    exact atF_none s l (n + 1) (fun j hj => by have := hn (j + 1) (by simpa using hj); simpa using this)

set_option maxRecDepth 20000 in
set_option maxHeartbeats 1000000 in
theorem specAcctAt_any (v : Value) (l : List Ac) (s : ByteArray) (w : World) (hr : RdA w v l) (hl : l.length ≤ 4000000) :
    Calls Tryz.prog 157 #[v, .string s] w fun e w' => e = .returned (.int .i64 (atA l s)) ∧ Below w.heap.size w w' := by
  rcases hr with ⟨a, cap, rfl, rfl, -⟩ | ⟨b, off, cap, h0, rfl, h1, h2, h3, h4⟩
  · go_enter Tryz.func157, Tryz.ntmps157
    go_wp2
    refine wp_loop_rounds 1 ?_
    rw [rounds_succ]
    go_wp2
    go_ret
    exact ⟨rfl, Below.refl _ _⟩
  · have H4 := hide h4
    clear h4
    go_enter Tryz.func157, Tryz.ntmps157
    go_wp2
    go_loopw [5] (fun i wr => ∃ k : Nat, k ≤ l.length ∧ i = .int .i64 k ∧ (∀ j (h : j < l.length), j < k → l[j].1 ≠ s) ∧ Below w.heap.size w wr) (fun i _ => l.length - (intOf i).toNat)
    case atStart => exact ⟨0, Nat.zero_le _, rfl, fun j _ hj => by omega, Below.refl _ _⟩
    case round =>
      obtain ⟨k, hk, rfl, hno, hb⟩ := hrel
      have Hno := hide hno
      clear hno
      by_cases hlt : k < l.length
      · obtain ⟨lv, hat, hrl⟩ := H4.out k hlt
        have hc := (hat.below hb h3).c0
        have hli : (k : Int) < (l.length : Int) := by omega
        clear hat hrl
        by_cases he : l[k].1 = s
        · have Hr : Hid (atA l s = (k : Int)) := hide (by unfold atA; rw [atF_found s l 0 k hlt he (fun j hj => Hno.out j (by omega) hj)]; omega)
          rw [he] at hc
          clear he
          go_wp2
          go_ret
          exact ⟨ret_int Hr.out.symm, hb⟩
        · have Hn2 : Hid (∀ j (h : j < l.length), j < k + 1 → l[j].1 ≠ s) := hide (fun j h hj => by
            by_cases e : j = k
            · subst e; exact he
            · exact Hno.out j h (by omega))
          have hq := bytes_ne he
          clear he Hno
          generalize l[k].1 = t at hc hq
          go_wp2
          go_roundw
          case rel => exact ⟨k + 1, by omega, by go_num, Hn2.out, hb⟩
          case measure => simp [intOf]; omega
      · have Hr : Hid (atA l s = -1) := hide (by unfold atA; exact atF_none s l 0 (fun j hj => Hno.out j hj (by omega)))
        go_wp2
        go_ret
        exact ⟨ret_int Hr.out.symm, hb⟩
/-- All that an account has. -/
def ofA (a : Ac) : Int := (a.2.2.2.2).foldl (fun s p => wrap64 (s + p.1)) (wrap64 (a.2.1 + a.2.2.2.1))
def wealthA (l : List Ac) : Int := l.foldl (fun s a => wrap64 (s + ofA a)) 0

theorem fold_snoc {α β : Type} (f : β → α → β) (z : β) (l : List α) (k : Nat) (h : k < l.length) : (l.take (k + 1)).foldl f z = f ((l.take k).foldl f z) l[k] := by
  rw [List.take_succ_eq_append_getElem h, List.foldl_append]; rfl

set_option maxRecDepth 20000 in
set_option maxHeartbeats 1000000 in
theorem specOf_any (a : Ac) (lv : Value) (w : World) (hr : RdL w lv a.2.2.2.2) (hl : a.2.2.2.2.length ≤ 4000000) :
    Calls Tryz.prog 224 #[acV a lv] w fun e w' => e = .returned (.int .i64 (ofA a)) ∧ Below w.heap.size w w' := by
  obtain ⟨nm, fr, no, st, ls⟩ := a
  have HB := hide ((Below.refl _ w).alloc (Nat.le_refl _) (.cells #[.string nm, .int .i64 fr, .int .i64 no, .int .i64 st, lv] 72))
  have hk := Blk.new w 72 [.string nm, .int .i64 fr, .int .i64 no, .int .i64 st, lv]
  have Hr := hide (hr.below HB.out (Nat.le_refl _))
  obtain ⟨av, cv, rfl⟩ := hr.shape
  clear hr
  simp only [acV] at *
  obtain ⟨w0, hw0⟩ : ∃ w0, w.alloc (.cells #[.string nm, .int .i64 fr, .int .i64 no, .int .i64 st, .slice av ls.length cv] 72) = w0 := ⟨_, rfl⟩
  have hk' : Blk w0 w.heap.size 72 [.string nm, .int .i64 fr, .int .i64 no, .int .i64 st, .slice av ls.length cv] := by rw [← hw0]; exact hk
  have HB' : Hid (Below w.heap.size w w0) := hide (by rw [← hw0]; exact HB.out)
  have Hr' : Hid (RdL w0 (.slice av ls.length cv) ls) := hide (by rw [← hw0]; exact Hr.out)
  have hlt0 := hk'.lt
  have k1 := hk'.cell 1
  have k3 := hk'.cell 3
  simp only [List.getElem?_cons_zero, List.getElem?_cons_succ] at k1 k3
  clear hk HB Hr
  go_enter Tryz.func224, Tryz.ntmps224
  go_wp2
  clear k1 k3
  go_loopw [3, 4] (fun nv iv wr => ∃ k : Nat, k ≤ ls.length ∧ iv = .int .i64 k ∧ nv = .int .i64 ((ls.take k).foldl (fun s p => wrap64 (s + p.1)) (wrap64 (fr + st))) ∧ Below w0.heap.size w0 wr) (fun _ iv _ => ls.length - (intOf iv).toNat)
  case atStart => exact ⟨0, Nat.zero_le _, rfl, rfl, Below.refl _ _⟩
  case round =>
    obtain ⟨k, hkl, rfl, rfl, hb⟩ := hrel
    have hc := (hk'.below hb hlt0).cell 4
    simp only [List.getElem?_cons_zero, List.getElem?_cons_succ] at hc
    by_cases hlt : k < ls.length
    · have hrr := Hr'.out
      rcases hrr with ⟨_, _, _, e, _⟩ | ⟨b, off, cap, h0, hv, h1, h2, h3, h4⟩
      · subst e; simp at hlt
      injection hv with ha _ hcap
      subst ha hcap
      have hc1 := (hb.cell (p := ⟨b, off + k * 2, none⟩) h3).trans (h4 k hlt).1
      have hli : (k : Int) < (ls.length : Int) := by omega
      have Hf := hide (fold_snoc (fun s (p : Int × Int) => wrap64 (s + p.1)) (wrap64 (fr + st)) ls k hlt)
      clear h4
      generalize ls[k] = p at hc1 Hf
      obtain ⟨x, y⟩ := p
      simp only at hc1 Hf
      generalize (ls.take k).foldl (fun s (p : Int × Int) => wrap64 (s + p.1)) (wrap64 (fr + st)) = acc at Hf
      go_wp2
      go_roundw
      case rel => exact ⟨k + 1, by omega, by go_num, by rw [Hf.out], hb⟩
      case measure => simp [intOf]; omega
    · have Hf : Hid (ofA (nm, fr, no, st, ls) = (ls.take k).foldl (fun s p => wrap64 (s + p.1)) (wrap64 (fr + st))) := hide (by unfold ofA; rw [List.take_of_length_le (by omega)])
      generalize (ls.take k).foldl (fun s (p : Int × Int) => wrap64 (s + p.1)) (wrap64 (fr + st)) = acc at Hf
      go_wp2
      go_ret
      exact ⟨ret_int Hf.out.symm, HB'.out.trans (hb.mono HB'.out.size)⟩

set_option maxRecDepth 20000 in
set_option maxHeartbeats 1000000 in
theorem specWealth_any (v : Value) (l : List Ac) (w : World) (hr : RdA w v l) (hl : l.length ≤ 4000000) (hall : ∀ a ∈ l, a.2.2.2.2.length ≤ 4000000) :
    Calls Tryz.prog 215 #[v] w fun e w' => e = .returned (.int .i64 (wealthA l)) ∧ Below w.heap.size w w' := by
  rcases hr with ⟨a, cap, rfl, rfl, -⟩ | ⟨b, off, cap, h0, rfl, h1, h2, h3, h4⟩
  · go_enter Tryz.func215, Tryz.ntmps215
    go_wp2
    refine wp_loop_rounds 1 ?_
    rw [rounds_succ]
    go_wp2
    go_ret
    exact ⟨rfl, Below.refl _ _⟩
  · have H4 := hide h4
    clear h4
    go_enter Tryz.func215, Tryz.ntmps215
    go_wp2
    go_loopw [3, 4] (fun nv iv wr => ∃ k : Nat, k ≤ l.length ∧ iv = .int .i64 k ∧ nv = .int .i64 ((l.take k).foldl (fun s a => wrap64 (s + ofA a)) 0) ∧ Below w.heap.size w wr) (fun _ iv _ => l.length - (intOf iv).toNat)
    case atStart => exact ⟨0, Nat.zero_le _, rfl, rfl, Below.refl _ _⟩
    case round =>
      obtain ⟨k, hkl, rfl, rfl, hb⟩ := hrel
      by_cases hlt : k < l.length
      · obtain ⟨lv, hat, hrl⟩ := H4.out k hlt
        obtain ⟨c0, c1, c2, c3, c4⟩ := hat.below hb h3
        have hli : (k : Int) < (l.length : Int) := by omega
        have Hf := hide (fold_snoc (fun s (a : Ac) => wrap64 (s + ofA a)) 0 l k hlt)
        have HO := hide (specOf_any l[k] lv wr (hrl.below hb (Nat.le_refl _)) (hall l[k] (List.getElem_mem _)))
        have hshape := hrl.shape
        clear hat hrl hall
        generalize (l.take k).foldl (fun s (a : Ac) => wrap64 (s + ofA a)) 0 = acc at Hf
        generalize l[k] = ak at c0 c1 c2 c3 Hf HO hshape
        generalize ofA ak = oa at Hf HO
        obtain ⟨nm, fr, no, st, ls⟩ := ak
        obtain ⟨av, cv, rfl⟩ := hshape
        simp only [acV] at c0 c1 c2 c3 HO
        go_wp2_with (go_at_call 224; refine HO.out.mono ?_; rintro e w2 ⟨rfl, hb2⟩)
        go_roundw
        case rel => exact ⟨k + 1, by omega, by go_num, by rw [Hf.out], hb.trans (hb2.mono hb.size)⟩
        case measure => simp [intOf]; omega
      · have Hf : Hid (wealthA l = (l.take k).foldl (fun s a => wrap64 (s + ofA a)) 0) := hide (by unfold wealthA; rw [List.take_of_length_le (by omega)])
        generalize (l.take k).foldl (fun s (a : Ac) => wrap64 (s + ofA a)) 0 = acc at Hf
        go_wp2
        go_ret
        exact ⟨ret_int Hf.out.symm, hb⟩
end Go.Proofs.YtkjlmnhdmlolmaaGreatDoor

namespace Go.Proofs.YtkjlmnhdmlolmaaGreatDoor
open Go.RowKit
set_option linter.unusedVariables false

/-- What the i-th of what leaves must be. -/
def lvAt (l : List (Int × Int)) (i : Nat) : Bool := inB (l.getD i (0, 0)).1 1 1000000 && (inB (l.getD i (0, 0)).2 0 1000 && (decide (i = 0) || decide ((l.getD (i - 1) (0, 0)).2 < (l.getD i (0, 0)).2)))
def lvsB (l : List (Int × Int)) : Bool := (List.range l.length).all (lvAt l)
def acB (a : Ac) : Bool := nmB a.1 && (inB a.2.1 0 1000000 && (inB a.2.2.1 0 10000 && (inB a.2.2.2.1 0 1000000 && (decide (a.2.2.2.2.length ≤ 4) && lvsB a.2.2.2.2))))
theorem lvs_no (l : List (Int × Int)) (k : Nat) (h : k < l.length) (hk : lvAt l k = false) : lvsB l = false := by
  unfold lvsB
  rw [List.all_eq_false]
  exact ⟨k, List.mem_range.2 h, by simp [hk]⟩
theorem lvs_yes (l : List (Int × Int)) (h : ∀ j, j < l.length → lvAt l j = true) : lvsB l = true := by
  unfold lvsB
  rw [List.all_eq_true]
  exact fun j hj => h j (List.mem_range.1 hj)

set_option maxRecDepth 20000 in
set_option maxHeartbeats 2000000 in
theorem specAcctOk_any (a : Ac) (lv : Value) (w : World) (hr : RdL w lv a.2.2.2.2) (hn : a.1.size ≤ maxLen) (hl : a.2.2.2.2.length ≤ 4000000) :
    Calls Tryz.prog 214 #[acV a lv] w fun e w' => e = .returned (.bool (acB a)) ∧ Below w.heap.size w w' := by
  obtain ⟨nm, fr, no, st, ls⟩ := a
  have HB := hide ((Below.refl _ w).alloc (Nat.le_refl _) (.cells #[.string nm, .int .i64 fr, .int .i64 no, .int .i64 st, lv] 72))
  have hk := Blk.new w 72 [.string nm, .int .i64 fr, .int .i64 no, .int .i64 st, lv]
  have Hr := hide (hr.below HB.out (Nat.le_refl _))
  obtain ⟨av, cv, rfl⟩ := hr.shape
  clear hr
  simp only [acV] at *
  obtain ⟨w0, hw0⟩ : ∃ w0, w.alloc (.cells #[.string nm, .int .i64 fr, .int .i64 no, .int .i64 st, .slice av ls.length cv] 72) = w0 := ⟨_, rfl⟩
  have hk' : Blk w0 w.heap.size 72 [.string nm, .int .i64 fr, .int .i64 no, .int .i64 st, .slice av ls.length cv] := by rw [← hw0]; exact hk
  have HB' : Hid (Below w.heap.size w w0) := hide (by rw [← hw0]; exact HB.out)
  have Hr' : Hid (RdL w0 (.slice av ls.length cv) ls) := hide (by rw [← hw0]; exact Hr.out)
  have hlt0 := hk'.lt
  have k0 := hk'.cell 0
  have k1 := hk'.cell 1
  have k2 := hk'.cell 2
  have k3 := hk'.cell 3
  have k4 := hk'.cell 4
  simp only [List.getElem?_cons_zero, List.getElem?_cons_succ] at k0 k1 k2 k3 k4
  clear hk HB Hr
  have Hac : Hid (acB (nm, fr, no, st, ls) = (nmB nm && (inB fr 0 1000000 && (inB no 0 10000 && (inB st 0 1000000 && (decide (ls.length ≤ 4) && lvsB ls)))))) := hide rfl
  by_cases hhead : nmB nm = true ∧ inB fr 0 1000000 = true ∧ inB no 0 10000 = true ∧ inB st 0 1000000 = true ∧ ls.length ≤ 4
  · obtain ⟨e0, e1, e2, e3, e4⟩ := hhead
    rw [e0, e1, e2, e3, decide_eq_true e4] at Hac
    simp only [Bool.true_and] at Hac
    have e4i : (ls.length : Int) ≤ 4 := by omega
    go_enter Tryz.func214, Tryz.ntmps214
    go_wp2_with (first
      | (go_at_call 49; refine (specNameOk_any nm _ hn).mono ?_; rintro e w0 ⟨rfl, rfl⟩)
      | (go_at_call 48; refine (l1In_any _ _ _ _).mono ?_; rintro e w0 ⟨rfl, rfl⟩))
    clear k0 k1 k2 k3
    go_loopw [3] (fun i wr => ∃ k : Nat, k ≤ ls.length ∧ i = .int .i64 k ∧ (∀ j, j < k → lvAt ls j = true) ∧ Below w0.heap.size w0 wr) (fun i _ => ls.length - (intOf i).toNat)
    case atStart => exact ⟨0, Nat.zero_le _, rfl, fun j hj => by omega, Below.refl _ _⟩
    case round =>
      obtain ⟨k, hkl, rfl, hok, hb⟩ := hrel
      have Hok := hide hok
      have hc := (hk'.below hb hlt0).cell 4
      simp only [List.getElem?_cons_zero, List.getElem?_cons_succ] at hc
      clear hok k4
      have hB : Below w.heap.size w wr := HB'.out.trans (hb.mono HB'.out.size)
      by_cases hlt : k < ls.length
      · have hrr := Hr'.out
        rcases hrr with ⟨_, _, _, e, _⟩ | ⟨b, off, cap, h0, hv, h1, h2, h3, h4⟩
        · subst e; simp at hlt
        injection hv with ha _ hcap
        subst ha hcap
        have hc1 := (hb.cell (p := ⟨b, off + k * 2, none⟩) h3).trans (h4 k hlt).1
        have hc2 := (hb.cell (p := ⟨b, off + k * 2 + 1, none⟩) h3).trans (h4 k hlt).2
        have hli : (k : Int) < (ls.length : Int) := by omega
        have hwb : w.heap.size < wr.heap.size := Nat.lt_of_lt_of_le hlt0 hb.size
        have hbb : b < wr.heap.size := Nat.lt_of_lt_of_le h3 hb.size
        have Hno := hide (lvs_no ls k hlt)
        have Hnx : Hid (lvAt ls k = true → ∀ j, j < k + 1 → lvAt ls j = true) := hide (fun h j hj => by
          by_cases e : j = k
          · subst e; exact h
          · exact Hok.out j (by omega))
        have Hat : Hid (lvAt ls k = (inB ls[k].1 1 1000000 && (inB ls[k].2 0 1000 && (decide (k = 0) || decide ((ls.getD (k - 1) (0, 0)).2 < ls[k].2))))) := hide (by unfold lvAt; rw [List.getD_eq_getElem?_getD, List.getElem?_eq_getElem hlt]; rfl)
        have Hpr : Hid (0 < k → wr.cell? ⟨b, off + (k - 1) * 2 + 1, none⟩ = some (.int .i64 (ls.getD (k - 1) (0, 0)).2)) := hide (fun h => by
          have := (hb.cell (p := ⟨b, off + (k - 1) * 2 + 1, none⟩) h3).trans (h4 (k - 1) (by omega)).2
          rw [List.getD_eq_getElem?_getD, List.getElem?_eq_getElem (show k - 1 < ls.length by omega)]
          exact this)
        clear h4 Hok
        generalize ls[k] = p at hc1 hc2 Hat
        obtain ⟨x, y⟩ := p
        simp only at hc1 hc2 Hat
        by_cases q1 : inB x 1 1000000 = true
        · by_cases q2 : inB y 0 1000 = true
          · rw [q1, q2, Bool.true_and, Bool.true_and] at Hat
            cases k with
            | zero =>
              rw [show decide (0 = 0) = true from rfl, Bool.true_or] at Hat
              rw [Nat.zero_mul, Nat.add_zero] at hc1 hc2
              have Hnx := hide (Hnx.out Hat.out)
              clear Hat Hno Hpr
              go_wp2
              go_quiet ((go_at_call 48; exact Calls.quiet_of_same (l1In_any _ _ _ _)))
              go_wp2
              go_roundw
              case rel => exact ⟨0 + 1, by omega, by go_num, Hnx.out, below_drewN (hb.alloc hb.size _) _⟩
              case measure => simp [intOf]; omega
            | succ j =>
              rw [show decide (j + 1 = 0) = false from rfl, Bool.false_or] at Hat
              have hpr := Hpr.out (by omega)
              rw [show j + 1 - 1 = j from by omega] at hpr Hat
              generalize (ls.getD j (0, 0)).2 = z at hpr Hat
              by_cases q3 : z < y
              · rw [decide_eq_true q3] at Hat
                have Hnx := hide (Hnx.out Hat.out)
                clear Hat Hno Hpr
                go_wp2
                go_quiet ((go_at_call 48; exact Calls.quiet_of_same (l1In_any _ _ _ _)))
                go_wp2
                go_roundw
                case rel => exact ⟨j + 1 + 1, by omega, by go_num, Hnx.out, below_drewN (hb.alloc hb.size _) _⟩
                case measure => simp [intOf]; omega
              · rw [decide_eq_false q3] at Hat
                have Hno := hide (Hac.out.trans (Hno.out Hat.out))
                clear Hat Hnx Hpr
                go_wp2
                go_quiet ((go_at_call 48; exact Calls.quiet_of_same (l1In_any _ _ _ _)))
                go_wp2
                go_ret
                exact ⟨ret_bool Hno.out.symm, below_drewN (hB.alloc hB.size _) _⟩
          · have q2 : inB y 0 1000 = false := by simpa using q2
            rw [q1, q2, Bool.true_and, Bool.false_and] at Hat
            have Hno := hide (Hac.out.trans (Hno.out Hat.out))
            clear Hat Hnx Hpr
            go_wp2
            go_quiet ((go_at_call 48; exact Calls.quiet_of_same (l1In_any _ _ _ _)))
            go_wp2
            go_ret
            exact ⟨ret_bool Hno.out.symm, below_drewN (hB.alloc hB.size _) _⟩
        · have q1 : inB x 1 1000000 = false := by simpa using q1
          rw [q1, Bool.false_and] at Hat
          have Hno := hide (Hac.out.trans (Hno.out Hat.out))
          clear Hat Hnx Hpr
          go_wp2
          go_quiet ((go_at_call 48; exact Calls.quiet_of_same (l1In_any _ _ _ _)))
          go_wp2
          go_ret
          exact ⟨ret_bool Hno.out.symm, below_drewN (hB.alloc hB.size _) _⟩
      · have Hy := hide (Hac.out.trans (lvs_yes ls (fun j hj => Hok.out j (by omega))))
        go_wp2
        go_ret
        exact ⟨ret_bool Hy.out.symm, hB⟩
  · by_cases e0 : nmB nm = true
    · by_cases e1 : inB fr 0 1000000 = true
      · by_cases e2 : inB no 0 10000 = true
        · by_cases e3 : inB st 0 1000000 = true
          · have e4 : ¬ ls.length ≤ 4 := fun h => hhead ⟨e0, e1, e2, e3, h⟩
            rw [e0, e1, e2, e3, decide_eq_false e4] at Hac
            have e4i : (4 : Int) < (ls.length : Int) := by omega
            simp only [Bool.true_and, Bool.false_and] at Hac
            clear hhead
            clear e4
            go_enter Tryz.func214, Tryz.ntmps214
            go_wp2_with (first
      | (go_at_call 49; refine (specNameOk_any nm _ hn).mono ?_; rintro e w0 ⟨rfl, rfl⟩)
      | (go_at_call 48; refine (l1In_any _ _ _ _).mono ?_; rintro e w0 ⟨rfl, rfl⟩))
            go_ret
            exact ⟨ret_bool Hac.out.symm, HB'.out⟩
          · have e3 : inB st 0 1000000 = false := by simpa using e3
            rw [e0, e1, e2, e3] at Hac
            simp only [Bool.true_and, Bool.false_and] at Hac
            clear hhead
            go_enter Tryz.func214, Tryz.ntmps214
            go_wp2_with (first
      | (go_at_call 49; refine (specNameOk_any nm _ hn).mono ?_; rintro e w0 ⟨rfl, rfl⟩)
      | (go_at_call 48; refine (l1In_any _ _ _ _).mono ?_; rintro e w0 ⟨rfl, rfl⟩))
            go_ret
            exact ⟨ret_bool Hac.out.symm, HB'.out⟩
        · have e2 : inB no 0 10000 = false := by simpa using e2
          rw [e0, e1, e2] at Hac
          simp only [Bool.true_and, Bool.false_and] at Hac
          clear hhead
          go_enter Tryz.func214, Tryz.ntmps214
          go_wp2_with (first
      | (go_at_call 49; refine (specNameOk_any nm _ hn).mono ?_; rintro e w0 ⟨rfl, rfl⟩)
      | (go_at_call 48; refine (l1In_any _ _ _ _).mono ?_; rintro e w0 ⟨rfl, rfl⟩))
          go_ret
          exact ⟨ret_bool Hac.out.symm, HB'.out⟩
      · have e1 : inB fr 0 1000000 = false := by simpa using e1
        rw [e0, e1] at Hac
        simp only [Bool.true_and, Bool.false_and] at Hac
        clear hhead
        go_enter Tryz.func214, Tryz.ntmps214
        go_wp2_with (first
      | (go_at_call 49; refine (specNameOk_any nm _ hn).mono ?_; rintro e w0 ⟨rfl, rfl⟩)
      | (go_at_call 48; refine (l1In_any _ _ _ _).mono ?_; rintro e w0 ⟨rfl, rfl⟩))
        go_ret
        exact ⟨ret_bool Hac.out.symm, HB'.out⟩
    · have e0 : nmB nm = false := by simpa using e0
      rw [e0] at Hac
      simp only [Bool.false_and] at Hac
      clear hhead
      go_enter Tryz.func214, Tryz.ntmps214
      go_wp2_with (first
      | (go_at_call 49; refine (specNameOk_any nm _ hn).mono ?_; rintro e w0 ⟨rfl, rfl⟩)
      | (go_at_call 48; refine (l1In_any _ _ _ _).mono ?_; rintro e w0 ⟨rfl, rfl⟩))
      go_ret
      exact ⟨ret_bool Hac.out.symm, HB'.out⟩
end Go.Proofs.YtkjlmnhdmlolmaaGreatDoor
