/- Orders that are good one behind the other, at most so many (plain). Votes and leavings in memory: two numbers and a name each. -/
import Derived.Test.YtbbkeebfginlfaaGreatDoorZfShaTail
import Derived.Test.YtbbkeebfginlfaaGreatDoorZfAcMem
import Derived.Test.YtbbkeebfginlfaaGreatDoorZfStrs
import Derived.Maps.AppendAt
import Derived.Laws.AppendOwnNone
namespace Go.Proofs.YtbbkeebfginlfaaGreatDoor
open Go.RowKit
set_option linter.unusedVariables false

/-- One order more: taken where it is good, and there is room. -/
def gdS (e : Int) (most : Nat) (s : List Ac × List Tx5) (t : Tx5) : List Ac × List Tx5 :=
  if s.2.length = most then s else if (apA e s.1 t).2 = 0 then ((apA e s.1 t).1, s.2 ++ [t]) else s
/-- The accounts behind the first good ones of these orders, at most so many; and these orders. -/
def gdA (e : Int) (l : List Ac) (ts : List Tx5) (most : Nat) : List Ac × List Tx5 := ts.foldl (gdS e most) (l, [])
theorem gdA_snoc (e : Int) (l : List Ac) (ts : List Tx5) (most k : Nat) (h : k < ts.length) : gdA e l (ts.take (k + 1)) most = gdS e most (gdA e l (ts.take k) most) ts[k] := by
  rw [List.take_succ_eq_append_getElem h]
  unfold gdA
  rw [List.foldl_append]
  rfl
theorem gdS_full {e : Int} {most : Nat} {s : List Ac × List Tx5} {t : Tx5} (h : s.2.length = most) : gdS e most s t = s := by unfold gdS; rw [if_pos h]
theorem gdS_good {e : Int} {most : Nat} {s : List Ac × List Tx5} {t : Tx5} (h : s.2.length ≠ most) (h2 : (apA e s.1 t).2 = 0) : gdS e most s t = ((apA e s.1 t).1, s.2 ++ [t]) := by unfold gdS; rw [if_neg h, if_pos h2]
theorem gdS_bad {e : Int} {most : Nat} {s : List Ac × List Tx5} {t : Tx5} (h : s.2.length ≠ most) (h2 : (apA e s.1 t).2 ≠ 0) : gdS e most s t = s := by unfold gdS; rw [if_neg h, if_neg h2]
/-- Where there is no room nothing more is taken. -/
theorem gd_stop {e : Int} {most : Nat} : ∀ (ts : List Tx5) (s : List Ac × List Tx5), s.2.length = most → ts.foldl (gdS e most) s = s
  | [], s, _ => rfl
  | t :: ts, s, h => by rw [List.foldl_cons, gdS_full h]; exact gd_stop (e := e) ts s h
theorem gdS_is (e : Int) (most : Nat) : ∀ (ts : List Tx5) (s : List Ac × List Tx5), (ts.foldl (gdS e most) s).1 = s.1 ∨ acsB (ts.foldl (gdS e most) s).1 = true
  | [], s => .inl rfl
  | t :: ts, s => by
    rw [List.foldl_cons]
    rcases gdS_is e most ts (gdS e most s t) with h | h
    · by_cases h1 : s.2.length = most
      · rw [gdS_full h1] at h ⊢; exact .inl h
      · by_cases h2 : (apA e s.1 t).2 = 0
        · rw [gdS_good h1 h2] at h ⊢
          rcases apA_is e s.1 t with h3 | h3
          · exact .inl (h.trans h3)
          · exact .inr (by rw [h]; exact h3)
        · rw [gdS_bad h1 h2] at h ⊢; exact .inl h
    · exact .inr h
theorem gdA_few {e : Int} {l : List Ac} (ts : List Tx5) (most : Nat) (hl : l.length ≤ 3999999) (hall : ∀ a ∈ l, a.1.size ≤ maxLen ∧ a.2.2.2.2.length ≤ 3999999) :
    (gdA e l ts most).1.length ≤ 3999999 ∧ ∀ a ∈ (gdA e l ts most).1, a.1.size ≤ maxLen ∧ a.2.2.2.2.length ≤ 3999999 := by
  rcases gdS_is e most ts (l, []) with h | h
  · have h' : (gdA e l ts most).1 = l := h
    rw [h']
    exact ⟨hl, hall⟩
  · have h' : acsB (gdA e l ts most).1 = true := h
    refine ⟨by have := (acs_parts h').1; omega, fun a ha => ?_⟩
    have hp := ac_parts (acs_all h' a ha)
    have hn := hp.1
    unfold nmB inB at hn
    simp only [Bool.and_eq_true, decide_eq_true_eq] at hn
    exact ⟨by unfold maxLen; omega, by omega⟩
/-- Where there is room for all of them: as ApplyAll goes on, and as many as are good. -/
theorem gd_all {e : Int} {most : Nat} : ∀ (ts : List Tx5) (s : List Ac × List Tx5), s.2.length + ts.length ≤ most →
    (ts.foldl (gdS e most) s).1 = (ts.foldl (alS e) (s.1, s.2.length)).1 ∧ (ts.foldl (gdS e most) s).2.length = (ts.foldl (alS e) (s.1, s.2.length)).2 ∧ ∃ G, (ts.foldl (gdS e most) s).2 = s.2 ++ G ∧ G.Sublist ts
  | [], s, _ => ⟨rfl, rfl, [], by simp, List.Sublist.refl _⟩
  | t :: ts, s, h => by
    rw [List.length_cons] at h
    rw [List.foldl_cons, List.foldl_cons]
    have hn : s.2.length ≠ most := by omega
    by_cases h2 : (apA e s.1 t).2 = 0
    · have e1 := gdS_good (e := e) (t := t) hn h2
      have e2 : alS e (s.1, s.2.length) t = ((apA e s.1 t).1, s.2.length + 1) := alS_good (s := (s.1, s.2.length)) h2
      rw [e1, e2]
      obtain ⟨q1, q2, G, q3, q4⟩ := gd_all (e := e) (most := most) ts ((apA e s.1 t).1, s.2 ++ [t]) (by simp; omega)
      simp only [List.length_append, List.length_cons, List.length_nil, Nat.zero_add] at q1 q2
      exact ⟨q1, q2, t :: G, by rw [q3]; simp, q4.cons_cons t⟩
    · have e1 := gdS_bad (e := e) (t := t) hn h2
      have e2 : alS e (s.1, s.2.length) t = (s.1, s.2.length) := alS_bad (s := (s.1, s.2.length)) h2
      rw [e1, e2]
      obtain ⟨q1, q2, G, q3, q4⟩ := gd_all (e := e) (most := most) ts s (by omega)
      exact ⟨q1, q2, G, q3, q4.cons t⟩
/-- All are good just if all are taken; and then the accounts behind them are ApplyAll's. -/
theorem gd_same (e : Int) (l : List Ac) (ts : List Tx5) : ((gdA e l ts ts.length).2 = ts ↔ (alA e l ts).2 = ts.length) ∧ (gdA e l ts ts.length).1 = (alA e l ts).1 := by
  obtain ⟨q1, q2, G, q3, q4⟩ := gd_all (e := e) (most := ts.length) ts (l, []) (by simp)
  have q2' : (gdA e l ts ts.length).2.length = (alA e l ts).2 := q2
  have q3' : (gdA e l ts ts.length).2 = G := q3
  refine ⟨⟨fun h => by rw [← q2', h], fun h => ?_⟩, q1⟩
  rw [q3']
  exact q4.eq_of_length (by rw [← q3', q2', h])
end Go.Proofs.YtbbkeebfginlfaaGreatDoor

namespace Go.Proofs.YtbbkeebfginlfaaGreatDoor
open Go.RowKit
set_option linter.unusedVariables false

/-- Two numbers and a name. -/
abbrev Tr := Int × Int × ByteArray
def trV (p : Tr) : Value := .agg #[.int .i64 p.1, .int .i64 p.2.1, .string p.2.2]
def trC (p : Tr) : List Value := [.int .i64 p.1, .int .i64 p.2.1, .string p.2.2]
structure TrAt (w : World) (b o : Nat) (p : Tr) : Prop where
  c0 : w.cell? ⟨b, o, none⟩ = some (.int .i64 p.1)
  c1 : w.cell? ⟨b, o + 1, none⟩ = some (.int .i64 p.2.1)
  c2 : w.cell? ⟨b, o + 2, none⟩ = some (.string p.2.2)
theorem TrAt.below {w w' : World} {B b o : Nat} {p : Tr} (h : TrAt w b o p) (hb : Below B w w') (hB : b < B) : TrAt w' b o p :=
  ⟨(hb.cell (p := ⟨b, o, none⟩) hB).trans h.c0, (hb.cell (p := ⟨b, o + 1, none⟩) hB).trans h.c1, (hb.cell (p := ⟨b, o + 2, none⟩) hB).trans h.c2⟩
def RdR (w : World) (v : Value) (l : List Tr) : Prop :=
  (∃ a cap, v = .slice a 0 cap ∧ l = [] ∧ (a = none → cap = 0)) ∨
  ∃ b off cap, l ≠ [] ∧ v = .slice (some ⟨b, off, none⟩) l.length cap ∧ l.length ≤ cap ∧ cap ≤ maxLen ∧ b < w.heap.size ∧ ∀ i (h : i < l.length), TrAt w b (off + i * 3) l[i]
theorem RdR.shape {w : World} {v : Value} {l : List Tr} (h : RdR w v l) : ∃ a cap, v = .slice a l.length cap := by
  rcases h with ⟨a, cap, rfl, rfl, -⟩ | ⟨b, off, cap, h0, rfl, _⟩
  · exact ⟨a, cap, rfl⟩
  · exact ⟨_, cap, rfl⟩
theorem RdR.below {B : Nat} {w w' : World} {v : Value} {l : List Tr} (h : RdR w v l) (hb : Below B w w') (hB : w.heap.size ≤ B) : RdR w' v l := by
  rcases h with h | ⟨b, off, cap, h0, hv, h1, h2, h3, h4⟩
  · exact .inl h
  · exact .inr ⟨b, off, cap, h0, hv, h1, h2, by have := hb.size; omega, fun i hi => (h4 i hi).below hb (by omega)⟩
theorem RdR.at {w : World} {a : Option Addr} {cap k : Nat} {l : List Tr} (h : RdR w (.slice a l.length cap) l) (hk : k < l.length) :
    ∃ b off, a = some ⟨b, off, none⟩ ∧ l.length ≤ cap ∧ cap ≤ maxLen ∧ b < w.heap.size ∧ TrAt w b (off + k * 3) l[k] := by
  rcases h with ⟨a', cap', e, rfl, -⟩ | ⟨b, off, cap', h0, e, h1, h2, h3, h4⟩
  · simp at hk
  · simp only [Value.slice.injEq] at e
    obtain ⟨rfl, -, rfl⟩ := e
    exact ⟨b, off, rfl, h1, h2, h3, h4 k hk⟩
theorem trM_sz (l : List Tr) : ∀ x ∈ l.map trC, x.length = 3 := fun x hx => by obtain ⟨p, _, rfl⟩ := List.mem_map.1 hx; rfl
/-- The slice v, of the call's own from block 'base' on, reads as the triples l (t: their type). -/
def OwnR (t : TypeId) (base : Nat) (w : World) (v : Value) (l : List Tr) : Prop := w.ownsRow base t 3 v l.length (l.map trC).flatten
theorem OwnR.rd {t : TypeId} {base : Nat} {w : World} {v : Value} {l : List Tr} (h : OwnR t base w v l) : RdR w v l := by
  rcases h.2 with ⟨rfl, hn⟩ | ⟨g, cap, cur, rfl, hb, hg, hnc, hcm, hcs, ht⟩
  · have : l = [] := List.length_eq_zero_iff.1 hn
    subst this
    exact .inl ⟨_, _, rfl, rfl, fun _ => rfl⟩
  · by_cases hn : l = []
    · subst hn; exact .inl ⟨_, _, rfl, rfl, fun h => by cases h⟩
    · refine .inr ⟨g, 0, cap, hn, rfl, hnc, hcm, (Array.getElem?_eq_some_iff.1 hg).1, fun i hi => ?_⟩
      have cell : ∀ j, j < 3 → w.cell? ⟨g, 0 + i * 3 + j, none⟩ = (trC l[i])[j]? := fun j hj => by
        rw [Nat.zero_add, World.ownsRow.cellAt h (i * 3 + j) (by omega), flat_get 3 (l.map trC) i j (by simpa using hi) (trM_sz l) hj]
        simp
      exact ⟨by have := cell 0 (by omega); simpa [trC] using this, by have := cell 1 (by omega); simpa [trC] using this, by have := cell 2 (by omega); simpa [trC] using this⟩
theorem OwnR.below {t : TypeId} {B base : Nat} {w w' : World} {v : Value} {l : List Tr} (h : OwnR t base w v l) (hb : Below B w w') (hB : w.heap.size ≤ B) : OwnR t base w' v l := row_below h hb hB
theorem OwnR.ge {t : TypeId} {base : Nat} {w : World} {v : Value} {l : List Tr} (h : OwnR t base w v l) : ∀ k, v.ownBlock = some k → base ≤ k := fun k hk => (World.ownsRow.lt h k hk).1
theorem OwnR.lt {t : TypeId} {base : Nat} {w : World} {v : Value} {l : List Tr} (h : OwnR t base w v l) : ∀ k, v.ownBlock = some k → k < w.heap.size := fun k hk => (World.ownsRow.lt h k hk).2
theorem OwnR.alloc {t : TypeId} {base : Nat} {w : World} {v : Value} {l : List Tr} (h : OwnR t base w v l) (o : Obj) : OwnR t base (w.alloc o) v l := World.ownsRow.alloc h o
theorem OwnR.drew {t : TypeId} {base : Nat} {w : World} {v : Value} {l : List Tr} (h : OwnR t base w v l) : OwnR t base w.drew v l := h.below (Below.refl _ w).drew (Nat.le_refl _)
theorem OwnR.notg {t : TypeId} {base : Nat} {w w' : World} {v : Value} {l : List Tr} {g : Nat} (h : OwnR t base w v l) (hg : w.grownBy w' (some g)) (hb : g < base) : OwnR t base w' v l :=
  World.ownsRow.kept h hg (.inr fun e => by have := h.ge g e; omega)
theorem OwnR.kept {t : TypeId} {base : Nat} {w w' : World} {v : Value} {l : List Tr} {row : Option Nat} (h : OwnR t base w v l) (hg : w.grownBy w' row) (hne : v.ownBlock = none ∨ v.ownBlock ≠ row) : OwnR t base w' v l := World.ownsRow.kept h hg hne
theorem own_nilR (t : TypeId) (w : World) (base : Nat) (h : base ≤ w.heap.size) : OwnR t base (w.alloc (.cells #[] t)) (.slice (some ⟨w.heap.size, 0, none⟩) 0 0) [] :=
  World.ownsRow_lit w #[] 0 h (by unfold maxLen; omega) (by simp)
theorem add_flatR (b off i : Nat) : (⟨b, off, none⟩ : Addr).add i = ⟨b, off + i, none⟩ := by
  by_cases hz : i = 0
  · subst hz; simp [Addr.add]
  · simp [Addr.add, hz]
theorem Blk.newR (W : World) (t : TypeId) (cs : List Value) (n : Nat) (h : n = W.heap.size) : Blk (W.alloc (.cells cs.toArray t)) n t cs := by subst h; exact Blk.new W t cs
end Go.Proofs.YtbbkeebfginlfaaGreatDoor
