/- Votes and leavings in memory: two numbers and a name each. What those who vote weigh, on both sides: WeightOf, TotalOf, LeaderOf. -/
import Derived.Test.YtbjeonnaannofaaZkTxBlk
import Derived.Test.YtbjeonnaannofaaZkStrs
import Derived.Maps.AppendAt
import Derived.Laws.AppendOwnNone
import Derived.Test.YtbjeonnaannofaaZkVsStep
namespace Go.Proofs.Ytbjeonnaannofaa
open Go.RowKit
set_option linter.unusedVariables false

/-- Two numbers and a name. -/
abbrev Tr := Int × Int × ByteArray
def trV (p : Tr) : Value := .agg #[.int .i64 p.1, .int .i64 p.2.1, .string p.2.2]
def trC (p : Tr) : List Value := [.int .i64 p.1, .int .i64 p.2.1, .string p.2.2]
structure TrAt (w : World) (b o : Nat) (p : Tr) : Prop where
  c0 : w.cell? ⟨b, o, none⟩ = some (.int .i64 p.1)
  c1 : w.cell? ⟨b, o + 1, none⟩ = some (.int .i64 p.2.1)
  c2 : w.cell? ⟨b, o + 2, none⟩ = some (.string p.2.2)
theorem TrAt.below {w w' : World} {B b o : Nat} {p : Tr} (h : TrAt w b o p) (hb : Below B w w') (hB : b < B) : TrAt w' b o p :=
  ⟨(hb.cell (p := ⟨b, o, none⟩) hB).trans h.c0, (hb.cell (p := ⟨b, o + 1, none⟩) hB).trans h.c1, (hb.cell (p := ⟨b, o + 2, none⟩) hB).trans h.c2⟩
def RdR (w : World) (v : Value) (l : List Tr) : Prop :=
  (∃ a cap, v = .slice a 0 cap ∧ l = [] ∧ (a = none → cap = 0)) ∨
  ∃ b off cap, l ≠ [] ∧ v = .slice (some ⟨b, off, none⟩) l.length cap ∧ l.length ≤ cap ∧ cap ≤ maxLen ∧ b < w.heap.size ∧ ∀ i (h : i < l.length), TrAt w b (off + i * 3) l[i]
theorem RdR.shape {w : World} {v : Value} {l : List Tr} (h : RdR w v l) : ∃ a cap, v = .slice a l.length cap := by
  rcases h with ⟨a, cap, rfl, rfl, -⟩ | ⟨b, off, cap, h0, rfl, _⟩
  · exact ⟨a, cap, rfl⟩
  · exact ⟨_, cap, rfl⟩
theorem RdR.below {B : Nat} {w w' : World} {v : Value} {l : List Tr} (h : RdR w v l) (hb : Below B w w') (hB : w.heap.size ≤ B) : RdR w' v l := by
  rcases h with h | ⟨b, off, cap, h0, hv, h1, h2, h3, h4⟩
  · exact .inl h
  · exact .inr ⟨b, off, cap, h0, hv, h1, h2, by have := hb.size; omega, fun i hi => (h4 i hi).below hb (by omega)⟩
theorem RdR.at {w : World} {a : Option Addr} {cap k : Nat} {l : List Tr} (h : RdR w (.slice a l.length cap) l) (hk : k < l.length) :
    ∃ b off, a = some ⟨b, off, none⟩ ∧ l.length ≤ cap ∧ cap ≤ maxLen ∧ b < w.heap.size ∧ TrAt w b (off + k * 3) l[k] := by
  rcases h with ⟨a', cap', e, rfl, -⟩ | ⟨b, off, cap', h0, e, h1, h2, h3, h4⟩
  · simp at hk
  · simp only [Value.slice.injEq] at e
    obtain ⟨rfl, -, rfl⟩ := e
    exact ⟨b, off, rfl, h1, h2, h3, h4 k hk⟩
theorem trM_sz (l : List Tr) : ∀ x ∈ l.map trC, x.length = 3 := fun x hx => by obtain ⟨p, _, rfl⟩ := List.mem_map.1 hx; rfl
/-- The slice v, of the call's own from block 'base' on, reads as the triples l (t: their type). -/
def OwnR (t : TypeId) (base : Nat) (w : World) (v : Value) (l : List Tr) : Prop := w.ownsRow base t 3 v l.length (l.map trC).flatten
theorem OwnR.rd {t : TypeId} {base : Nat} {w : World} {v : Value} {l : List Tr} (h : OwnR t base w v l) : RdR w v l := by
  rcases h.2 with ⟨rfl, hn⟩ | ⟨g, cap, cur, rfl, hb, hg, hnc, hcm, hcs, ht⟩
  · have : l = [] := List.length_eq_zero_iff.1 hn
    subst this
    exact .inl ⟨_, _, rfl, rfl, fun _ => rfl⟩
  · by_cases hn : l = []
    · subst hn; exact .inl ⟨_, _, rfl, rfl, fun h => by cases h⟩
    · refine .inr ⟨g, 0, cap, hn, rfl, hnc, hcm, (Array.getElem?_eq_some_iff.1 hg).1, fun i hi => ?_⟩
      have cell : ∀ j, j < 3 → w.cell? ⟨g, 0 + i * 3 + j, none⟩ = (trC l[i])[j]? := fun j hj => by
        rw [Nat.zero_add, World.ownsRow.cellAt h (i * 3 + j) (by omega), flat_get 3 (l.map trC) i j (by simpa using hi) (trM_sz l) hj]
        simp
      exact ⟨by have := cell 0 (by omega); simpa [trC] using this, by have := cell 1 (by omega); simpa [trC] using this, by have := cell 2 (by omega); simpa [trC] using this⟩
theorem OwnR.below {t : TypeId} {B base : Nat} {w w' : World} {v : Value} {l : List Tr} (h : OwnR t base w v l) (hb : Below B w w') (hB : w.heap.size ≤ B) : OwnR t base w' v l := row_below h hb hB
theorem OwnR.ge {t : TypeId} {base : Nat} {w : World} {v : Value} {l : List Tr} (h : OwnR t base w v l) : ∀ k, v.ownBlock = some k → base ≤ k := fun k hk => (World.ownsRow.lt h k hk).1
theorem OwnR.lt {t : TypeId} {base : Nat} {w : World} {v : Value} {l : List Tr} (h : OwnR t base w v l) : ∀ k, v.ownBlock = some k → k < w.heap.size := fun k hk => (World.ownsRow.lt h k hk).2
theorem OwnR.alloc {t : TypeId} {base : Nat} {w : World} {v : Value} {l : List Tr} (h : OwnR t base w v l) (o : Obj) : OwnR t base (w.alloc o) v l := World.ownsRow.alloc h o
theorem OwnR.drew {t : TypeId} {base : Nat} {w : World} {v : Value} {l : List Tr} (h : OwnR t base w v l) : OwnR t base w.drew v l := h.below (Below.refl _ w).drew (Nat.le_refl _)
theorem OwnR.notg {t : TypeId} {base : Nat} {w w' : World} {v : Value} {l : List Tr} {g : Nat} (h : OwnR t base w v l) (hg : w.grownBy w' (some g)) (hb : g < base) : OwnR t base w' v l :=
  World.ownsRow.kept h hg (.inr fun e => by have := h.ge g e; omega)
theorem OwnR.kept {t : TypeId} {base : Nat} {w w' : World} {v : Value} {l : List Tr} {row : Option Nat} (h : OwnR t base w v l) (hg : w.grownBy w' row) (hne : v.ownBlock = none ∨ v.ownBlock ≠ row) : OwnR t base w' v l := World.ownsRow.kept h hg hne
theorem own_nilR (t : TypeId) (w : World) (base : Nat) (h : base ≤ w.heap.size) : OwnR t base (w.alloc (.cells #[] t)) (.slice (some ⟨w.heap.size, 0, none⟩) 0 0) [] :=
  World.ownsRow_lit w #[] 0 h (by unfold maxLen; omega) (by simp)
theorem add_flatR (b off i : Nat) : (⟨b, off, none⟩ : Addr).add i = ⟨b, off + i, none⟩ := by
  by_cases hz : i = 0
  · subst hz; simp [Addr.add]
  · simp [Addr.add, hz]
theorem Blk.newR (W : World) (t : TypeId) (cs : List Value) (n : Nat) (h : n = W.heap.size) : Blk (W.alloc (.cells cs.toArray t)) n t cs := by subst h; exact Blk.new W t cs
end Go.Proofs.Ytbjeonnaannofaa

namespace Go.Proofs.Ytbjeonnaannofaa
open Go.RowKit
set_option linter.unusedVariables false

theorem foldV_snoc {α β : Type} (f : β → α → β) (z : β) (l : List α) (k : Nat) (h : k < l.length) : (l.take (k + 1)).foldl f z = f ((l.take k).foldl f z) l[k] := by
  rw [List.take_succ_eq_append_getElem h, List.foldl_append]; rfl
/-- What all of them come tO, each by f. -/
def sumV (f : Vl → Int) (l : List Vl) : Int := l.foldl (fun s p => wrap64 (s + f p)) 0
theorem sumV_snoc (f : Vl → Int) (l : List Vl) (k : Nat) (h : k < l.length) : sumV f (l.take (k + 1)) = wrap64 (sumV f (l.take k) + f l[k]) := foldV_snoc _ _ l k h
theorem wrap64_twice (x : Int) : wrap64 (wrap64 x + 0) = wrap64 x := by rw [Int.add_zero]; unfold wrap64; omega
theorem sumV_same (f : Vl → Int) : ∀ (l : List Vl) (s : Int), wrap64 (s + 0) = s → wrap64 (l.foldl (fun s p => wrap64 (s + f p)) s + 0) = l.foldl (fun s p => wrap64 (s + f p)) s
  | [], s, h => h
  | p :: l, s, h => by rw [List.foldl_cons]; exact sumV_same f l _ (wrap64_twice _)
theorem sumV_zero (f : Vl → Int) (l : List Vl) : wrap64 (sumV f l + 0) = sumV f l := sumV_same f l 0 (by unfold wrap64; omega)
/-- Whether a name is among these. -/
def hasN (ns : List ByteArray) (s : ByteArray) : Bool := ns.any (fun t => decide (t = s))
theorem hasN_yes {ns : List ByteArray} {s : ByteArray} (h : s ∈ ns) : hasN ns s = true := List.any_eq_true.2 ⟨s, h, by simp⟩
theorem hasN_no {ns : List ByteArray} {s : ByteArray} (h : s ∉ ns) : hasN ns s = false := by
  cases e : hasN ns s with
  | false => rfl
  | true =>
    obtain ⟨t, ht, e'⟩ := List.any_eq_true.1 e
    have : t = s := by simpa using e'
    exact absurd (this ▸ ht) h
/-- What one weighs among these names. -/
def wtN (ns : List ByteArray) (p : Vl) : Int := if hasN ns p.1 = true then p.2 else 0
def weightV (l : List Vl) (ns : List ByteArray) : Int := sumV (wtN ns) l
def totalV (l : List Vl) : Int := sumV (·.2) l
/-- Who leads in a round. -/
def leadV (l : List Vl) (r : Int) : ByteArray := if l.length = 0 ∨ r < 0 then ByteArray.empty else (l.getD (r.toNat % l.length) (ByteArray.empty, 0)).1
theorem mem_next {ns : List ByteArray} {s : ByteArray} {k : Nat} (h : k < ns.length) (hn : s ∉ ns.take k) (he : ns[k] ≠ s) : s ∉ ns.take (k + 1) := by
  rw [List.take_succ_eq_append_getElem h]
  intro hm
  rcases List.mem_append.1 hm with h' | h'
  · exact hn h'
  · exact he (by simpa using (List.mem_singleton.1 h').symm)

end Go.Proofs.Ytbjeonnaannofaa
