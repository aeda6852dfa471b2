/- A text made bytes anew: it can be written, and appended to. Texts that lie one behind the other in a block. -/
import Derived.Test.YtdelegamcebflaaDoorJoin7
import Derived.Laws.BytesString
import Derived.Deep.MidRow
import Derived.Test.YtdelegamcebflaaDoorJoin2
namespace Go.Proofs.YtdelegamcebflaaDoor
open Go.RowKit
set_option linter.unusedVariables false

theorem str_rdH (w : World) (v : Value) (l : List UInt8) (h : RdB w v l) : (convert 22 9 v).run Tryd.prog w = .ok (.string ⟨l.toArray⟩) w := by
  rcases h with ⟨a, cap, rfl, rfl, hn⟩ | ⟨b, off, cap, h0, rfl, h1, h2, h3, h4⟩
  · cases a with
    | none =>
      rw [run_convert_bytes_string w 22 9 5 none 0 cap Tryd.underlying22 Tryd.underlying5 Tryd.underlying9]
      rfl
    | some ad => exact str_own w _ [] (.inl ⟨some ad, cap, rfl, rfl, fun h => by cases h⟩) ⟨_, _, _, rfl⟩
  · exact str_own w _ l (.inr ⟨b, off, cap, h0, rfl, h1, h2, h3, h4⟩) ⟨_, _, _, rfl⟩

/-- The slice v, of a block from 'base' on, reads as the bytes l; its places up to its capacity may be written. -/
structure OwnM (base : Nat) (w : World) (g cap : Nat) (l : List UInt8) : Prop where
  ge : base ≤ g
  lt : g < w.heap.size
  le : l.length ≤ cap
  mx : cap ≤ maxLen
  cells : ∀ i (h : i < l.length), w.cell? ⟨g, i, none⟩ = some (.int .u8 (l[i].toNat : Int))
  room : ∀ i, i < cap → (w.cell? ⟨g, i, none⟩).isSome = true ∧ w.frozen? ⟨g, i, none⟩ = false

theorem OwnM.rd {base : Nat} {w : World} {g cap : Nat} {l : List UInt8} (h : OwnM base w g cap l) : RdB w (.slice (some ⟨g, 0, none⟩) l.length cap) l := by
  by_cases hl : l = []
  · subst hl; exact .inl ⟨_, _, rfl, rfl, fun h => by cases h⟩
  · exact .inr ⟨g, 0, cap, hl, rfl, h.le, h.mx, h.lt, fun i hi => by rw [Nat.zero_add]; exact h.cells i hi⟩
theorem OwnM.below {B base : Nat} {w w' : World} {g cap : Nat} {l : List UInt8} (h : OwnM base w g cap l) (hb : Below B w w') (hB : g < B) : OwnM base w' g cap l :=
  ⟨h.ge, by have := hb.size; have := h.lt; omega, h.le, h.mx, fun i hi => (hb.cell (p := ⟨g, i, none⟩) hB).trans (h.cells i hi), fun i hi => by
    rw [hb.cell (p := ⟨g, i, none⟩) hB, hb.frozen (p := ⟨g, i, none⟩) hB]; exact h.room i hi⟩
theorem OwnM.kept {base : Nat} {w w' : World} {g cap q : Nat} {l : List UInt8} (h : OwnM base w g cap l) (hg : w.grownBy w' (some q)) (hq : g ≠ q) : OwnM base w' g cap l := by
  have hblk : w'.heap[g]? = w.heap[g]? := hg.block g h.lt (by intro e; cases e; exact hq rfl)
  have hc : ∀ i, w'.cell? ⟨g, i, none⟩ = w.cell? ⟨g, i, none⟩ := fun i => World.cell?_of_block (w := w) hblk
  have hf : ∀ i, w'.frozen? ⟨g, i, none⟩ = w.frozen? ⟨g, i, none⟩ := fun i => World.frozen?_of_block (w := w) hblk
  exact ⟨h.ge, by have := hg.size; have := h.lt; omega, h.le, h.mx, fun i hi => (hc i).trans (h.cells i hi), fun i hi => by rw [hc, hf]; exact h.room i hi⟩
theorem OwnM.put {base : Nat} {w : World} {g cap : Nat} {l : List UInt8} (h : OwnM base w g cap l) (k : Nat) (c : UInt8) (hk : k < l.length) : OwnM base (w.setCell ⟨g, k, none⟩ (.int .u8 (c.toNat : Int))) g cap (l.set k c) := by
  refine ⟨h.ge, ?_, by rw [List.length_set]; exact h.le, h.mx, ?_, ?_⟩
  · have := ((Below.refl 0 w).setCell (p := ⟨g, k, none⟩) (Nat.zero_le _) (.int .u8 (c.toNat : Int))).size
    have := h.lt
    omega
  · intro i hi
    rw [List.length_set] at hi
    by_cases e : k = i
    · subst e
      rw [World.cell?_setCell_same _ _ _ (h.cells k hi)]
      simp
    · rw [World.cell?_setCell_other _ _ _ _ (by intro q; injection q with _ q2; exact e q2), h.cells i hi]
      simp [e]
  · intro i hi
    rw [World.frozen?_setCell]
    refine ⟨?_, (h.room i hi).2⟩
    by_cases e : k = i
    · subst e
      rw [World.cell?_setCell_same _ _ _ (h.cells k hk)]
      rfl
    · rw [World.cell?_setCell_other _ _ _ _ (by intro q; injection q with _ q2; exact e q2)]
      exact (h.room i hi).1

theorem conv_own (w : World) (s : ByteArray) (hs : s.size ≤ 9000000) : ∃ cap w', (convert 9 22 (.string s)).run Tryd.prog w = .ok (.slice (some ⟨w.heap.size, 0, none⟩) s.size cap) w' ∧ OwnM w.heap.size w' w.heap.size cap s.data.toList ∧ Below w.heap.size w w' := by
  have hr := run_bytes_of_string (P := Tryd.prog) w 9 22 5 s Tryd.underlying9 Tryd.underlying22 Tryd.underlying5
  have hge := grownCap_ge w s.size 0 5
  have hmx := grownCap_le_maxLen w s.size 0 5 (by unfold maxLen; omega)
  generalize grownCap w s.size 0 5 = cap at hr hge hmx
  have hsz : (bytesRow s cap).size = cap := by
    simp only [bytesRow, Array.size_append, Array.size_map, Array.size_replicate]
    have : s.data.size = s.size := rfl
    omega
  refine ⟨cap, _, hr, ⟨Nat.le_refl _, by simp, by simpa using hge, hmx, ?_, ?_⟩, (Below.refl _ _).drew.alloc (Nat.le_refl _) _⟩
  · intro i hi
    rw [show (w.drew.alloc (.cells (bytesRow s cap) 5 ((bytesRow s cap).size, (bytesRow s cap).size + 1))).cell? ⟨w.heap.size, i, none⟩ = (bytesRow s cap)[i]? from cell_of_row _ w.heap.size i _ _ _ (heap_alloc_new w.drew _)]
    rw [bytesRow_at s cap i (by simpa using hi)]
    rfl
  · intro i hi
    constructor
    · rw [show (w.drew.alloc (.cells (bytesRow s cap) 5 ((bytesRow s cap).size, (bytesRow s cap).size + 1))).cell? ⟨w.heap.size, i, none⟩ = (bytesRow s cap)[i]? from cell_of_row _ w.heap.size i _ _ _ (heap_alloc_new w.drew _)]
      rw [Array.getElem?_eq_getElem (by rw [hsz]; exact hi)]
      rfl
    · have := World.frozen?_alloc_mark w.drew (bytesRow s cap) 5 (bytesRow s cap).size ((bytesRow s cap).size + 1) i
      rw [show w.drew.heap.size = w.heap.size from rfl] at this
      rw [this, hsz]
      simp
      omega

theorem run_app_mark (w : World) (ty : TypeId) (base g cap gx cx : Nat) (l : List UInt8) (c : UInt8) (h : OwnM base w g cap l) (hx : RdB w (.slice (some ⟨gx, 0, none⟩) 1 cx) [c]) (hlen : l.length ≤ 1000000) (hbase : base ≤ w.heap.size) :
    ∃ v' w', (Builtin.append_ #[22, 22] ty #[.slice (some ⟨g, 0, none⟩) l.length cap, .slice (some ⟨gx, 0, none⟩) 1 cx]).run Tryd.prog w = .ok v' w' ∧ RdB w' v' (l ++ [c]) ∧ Below base w w' := by
  obtain ⟨i0, hi, hz0, hz1, hz2⟩ := info_parts Tryd.infoU8
  have hnews : ∀ j u, ([c].map cb)[j]? = some u → w.cell? ((⟨gx, 0, none⟩ : Addr).add j) = some u := by
    rcases hx with ⟨_, _, hv, h0, _⟩ | ⟨b, off, cp, _, hv, _, _, _, h4⟩
    · simp at h0
    · simp only [Value.slice.injEq, Option.some.injEq, Addr.mk.injEq, and_true] at hv
      obtain ⟨⟨rfl, rfl⟩, _, rfl⟩ := hv
      intro j u hj
      have hj0 : j = 0 := by have := (List.getElem?_eq_some_iff.1 hj).1; simp at this; omega
      subst hj0
      have := h4 0 (by simp)
      simp at hj
      rw [show (⟨gx, 0, none⟩ : Addr).add 0 = ⟨gx, 0 + 0, none⟩ from by simp [Addr.add], this, ← hj]
      rfl
  by_cases hroom : l.length + 1 ≤ cap
  · have hf := run_firstCells_some (P := Tryd.prog) w i0.size 1 ⟨gx, 0, none⟩ 1 cx ([c].map cb) (by simp [hz1]) hnews
    have hst := run_storeCells_cells (P := Tryd.prog) g l.length ([c].map cb) 0 w (fun j hj => by simp at hj; subst hj; exact (h.room l.length (by omega)).1) (fun j hj => by simp at hj; subst hj; exact (h.room l.length (by omega)).2) (by intro v hv; simp at hv; subst hv; rfl)
    simp only [Nat.add_zero, List.map_cons, List.map_nil] at hst
    rw [hz1] at hf
    refine ⟨.slice (some ⟨g, 0, none⟩) (l.length + 1) cap, w.setCells g l.length ([c].map cb), ?_, ?_, ?_⟩
    · simp [Builtin.append_, run_underlying Tryd.underlying22, sizeOf, typeInfo, hi, Builtin.lenOf, hroom, hf, Addr.add_lit, hst, hz1]
    · have hb : (w.setCells g l.length ([c].map cb)) = w.setCell ⟨g, l.length, none⟩ (.int .u8 (c.toNat : Int)) := rfl
      rw [hb]
      refine .inr ⟨g, 0, cap, by simp, by simp, by simpa using hroom, h.mx, ?_, ?_⟩
      · have := ((Below.refl 0 w).setCell (p := ⟨g, l.length, none⟩) (Nat.zero_le _) (.int .u8 (c.toNat : Int))).size
        have := h.lt
        omega
      · intro i hi'
        rw [Nat.zero_add]
        rw [List.length_append, List.length_singleton] at hi'
        by_cases e : l.length = i
        · subst e
          obtain ⟨u, hu⟩ := Option.isSome_iff_exists.1 (h.room l.length (by omega)).1
          rw [World.cell?_setCell_same _ _ _ hu]
          simp
        · rw [World.cell?_setCell_other _ _ _ _ (by intro q; injection q with _ q2; exact e q2), h.cells i (by omega)]
          simp [List.getElem_append_left (show i < l.length by omega)]
    · exact (Below.refl _ _).setCell (p := ⟨g, l.length, none⟩) h.ge _
  · have holds : ∀ j u, (l.map cb)[j]? = some u → w.cell? ((⟨g, 0, none⟩ : Addr).add j) = some u := by
      intro j u hj
      have hj' : j < l.length := by have := (List.getElem?_eq_some_iff.1 hj).1; simpa using this
      rw [show (⟨g, 0, none⟩ : Addr).add j = ⟨g, 0 + j, none⟩ from Addr.add_lit _ _ _, Nat.zero_add, h.cells j hj']
      simp [hj', cb] at hj
      rw [← hj]
    have hr := run_append_grow (P := Tryd.prog) w 22 ty 5 i0 (.int .u8 0) Tryd.underlying22 hi hz0 ⟨g, 0, none⟩ l.length cap (l.map cb) (by simp [hz1]) holds ⟨gx, 0, none⟩ 1 cx ([c].map cb) (by simp [hz1]) hnews (by omega) (by omega) (growslice_fits (by omega) (by rw [hz2]; omega))
    have hge := grownCap_ge w (l.length + 1) cap 5
    have hmx := grownCap_le_maxLen w (l.length + 1) cap 5 (by unfold maxLen; omega)
    refine ⟨_, _, hr, ?_, (Below.refl _ _).drew.alloc hbase _⟩
    refine .inr ⟨w.heap.size, 0, _, by simp, by simp, by simpa using hge, hmx, by simp, ?_⟩
    intro i hi'
    rw [Nat.zero_add]
    rw [World.cell?_alloc_at _ _ _ _ (show w.heap.size = w.drew.heap.size from rfl)]
    rw [List.length_append, List.length_singleton] at hi'
    rw [Array.getElem?_append_left (by simp; omega)]
    rw [show (l.map cb).toArray ++ ([c].map cb).toArray = ((l ++ [c]).map cb).toArray from by simp]
    rw [List.getElem?_toArray, List.getElem?_map, List.getElem?_eq_getElem (by simp; omega)]
    rfl

theorem app_mark {ops : Array Oper} {rest : List Oper} {o : Oper} {a : Act} {Q : Exit → Act → World → Prop} (w : World) (hgd : o.guard = none) (s x : Operand)
    (ho : o.op = .call { callee := .builtin .append, args := #[s, x], argTypes := #[22, 22] })
    (base g n cap gx cx : Nat) (l : List UInt8) (c : UInt8) (hs : a.eval s = .slice (some ⟨g, 0, none⟩) n cap) (hn : l.length = n) (hx : a.eval x = .slice (some ⟨gx, 0, none⟩) 1 cx) (h : OwnM base w g cap l) (hrd : RdB w (.slice (some ⟨gx, 0, none⟩) 1 cx) [c])
    (hlen : l.length ≤ 1000000) (hbase : base ≤ w.heap.size)
    (k : ∀ v' w', RdB w' v' (l ++ [c]) → Below base w w' → wpList Tryd.prog ops Q rest (a.put o.dst v') w') : wpList Tryd.prog ops Q (o :: rest) a w := by
  subst hn
  obtain ⟨v', w', hr, h1, h2⟩ := run_app_mark w o.type base g cap gx cx l c h hrd hlen hbase
  refine wpList_plain hgd fun K hK => ?_
  unfold Oper.wp execOp
  simp only [ho, resolve, invoke, builtin, Sem.run_bind, Sem.run_pure, Result.andThen_ok, List.map_toArray, List.map_cons, List.map_nil, hs, hx, hr]
  exact hK _ _ (k v' w' h1 h2)
end Go.Proofs.YtdelegamcebflaaDoor

namespace Go.Proofs.YtdelegamcebflaaDoor
open Go.RowKit
set_option linter.unusedVariables false

/-- The texts l lie in block b from off on. -/
def StrAt (w : World) (b off : Nat) (l : List ByteArray) : Prop := b < w.heap.size ∧ ∀ i (h : i < l.length), w.cell? ⟨b, off + i, none⟩ = some (.string l[i])
theorem StrAt.below {B : Nat} {w w' : World} {b off : Nat} {l : List ByteArray} (h : StrAt w b off l) (hb : Below B w w') (hB : b < B) : StrAt w' b off l :=
  ⟨by have := hb.size; have := h.1; omega, fun i hi => (hb.cell (p := ⟨b, off + i, none⟩) hB).trans (h.2 i hi)⟩
theorem StrAt.drew {w : World} {b off : Nat} {l : List ByteArray} (h : StrAt w b off l) : StrAt w.drew b off l := h.below (Below.refl _ _).drew h.1
theorem StrAt.take {w : World} {b off : Nat} {l : List ByteArray} (h : StrAt w b off l) (k : Nat) : StrAt w b off (l.take k) :=
  ⟨h.1, fun i hi => by rw [h.2 i (by simp at hi; omega)]; simp⟩
theorem StrAt.drop {w : World} {b off : Nat} {l : List ByteArray} (h : StrAt w b off l) (k : Nat) : StrAt w b (off + k) (l.drop k) :=
  ⟨h.1, fun i hi => by rw [Nat.add_assoc, h.2 (k + i) (by simp at hi; omega)]; simp⟩
theorem StrAt.rd {w : World} {b off cap : Nat} {l : List ByteArray} (h : StrAt w b off l) (h1 : l.length ≤ cap) (h2 : cap ≤ maxLen) : RdS w (.slice (some ⟨b, off, none⟩) l.length cap) l := by
  by_cases hl : l = []
  · subst hl; exact .inl ⟨_, _, rfl, rfl, fun h => by cases h⟩
  · exact .inr ⟨b, off, cap, hl, rfl, h1, h2, h.1, h.2⟩
end Go.Proofs.YtdelegamcebflaaDoor
