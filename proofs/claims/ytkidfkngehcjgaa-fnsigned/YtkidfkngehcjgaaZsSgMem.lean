/- Signatures in memory: four numbers and a name each. -/
import Derived.Test.YtkidfkngehcjgaaZsVsMem
import Derived.Test.YtkidfkngehcjgaaZsStrs
import Derived.Maps.AppendAt
import Derived.Laws.AppendOwnNone
namespace Go.Proofs.Ytkidfkngehcjgaa
open Go.RowKit
set_option linter.unusedVariables false

/-- Four numbers and a name. -/
abbrev Sg := Int × Int × Int × Int × ByteArray
def sgV (p : Sg) : Value := .agg #[.int .i64 p.1, .int .i64 p.2.1, .int .i64 p.2.2.1, .int .i64 p.2.2.2.1, .string p.2.2.2.2]
def sgC (p : Sg) : List Value := [.int .i64 p.1, .int .i64 p.2.1, .int .i64 p.2.2.1, .int .i64 p.2.2.2.1, .string p.2.2.2.2]
structure SgAt (w : World) (b o : Nat) (p : Sg) : Prop where
  c0 : w.cell? ⟨b, o, none⟩ = some (.int .i64 p.1)
  c1 : w.cell? ⟨b, o + 1, none⟩ = some (.int .i64 p.2.1)
  c2 : w.cell? ⟨b, o + 2, none⟩ = some (.int .i64 p.2.2.1)
  c3 : w.cell? ⟨b, o + 3, none⟩ = some (.int .i64 p.2.2.2.1)
  c4 : w.cell? ⟨b, o + 4, none⟩ = some (.string p.2.2.2.2)
theorem SgAt.below {w w' : World} {B b o : Nat} {p : Sg} (h : SgAt w b o p) (hb : Below B w w') (hB : b < B) : SgAt w' b o p :=
  ⟨(hb.cell (p := ⟨b, o, none⟩) hB).trans h.c0, (hb.cell (p := ⟨b, o + 1, none⟩) hB).trans h.c1, (hb.cell (p := ⟨b, o + 2, none⟩) hB).trans h.c2, (hb.cell (p := ⟨b, o + 3, none⟩) hB).trans h.c3, (hb.cell (p := ⟨b, o + 4, none⟩) hB).trans h.c4⟩
def RdSg (w : World) (v : Value) (l : List Sg) : Prop :=
  (∃ a cap, v = .slice a 0 cap ∧ l = [] ∧ (a = none → cap = 0)) ∨
  ∃ b off cap, l ≠ [] ∧ v = .slice (some ⟨b, off, none⟩) l.length cap ∧ l.length ≤ cap ∧ cap ≤ maxLen ∧ b < w.heap.size ∧ ∀ i (h : i < l.length), SgAt w b (off + i * 5) l[i]
theorem RdSg.shape {w : World} {v : Value} {l : List Sg} (h : RdSg w v l) : ∃ a cap, v = .slice a l.length cap := by
  rcases h with ⟨a, cap, rfl, rfl, -⟩ | ⟨b, off, cap, h0, rfl, _⟩
  · exact ⟨a, cap, rfl⟩
  · exact ⟨_, cap, rfl⟩
theorem RdSg.below {B : Nat} {w w' : World} {v : Value} {l : List Sg} (h : RdSg w v l) (hb : Below B w w') (hB : w.heap.size ≤ B) : RdSg w' v l := by
  rcases h with h | ⟨b, off, cap, h0, hv, h1, h2, h3, h4⟩
  · exact .inl h
  · exact .inr ⟨b, off, cap, h0, hv, h1, h2, by have := hb.size; omega, fun i hi => (h4 i hi).below hb (by omega)⟩
theorem RdSg.at {w : World} {a : Option Addr} {cap k : Nat} {l : List Sg} (h : RdSg w (.slice a l.length cap) l) (hk : k < l.length) :
    ∃ b off, a = some ⟨b, off, none⟩ ∧ l.length ≤ cap ∧ cap ≤ maxLen ∧ b < w.heap.size ∧ SgAt w b (off + k * 5) l[k] := by
  rcases h with ⟨a', cap', e, rfl, -⟩ | ⟨b, off, cap', h0, e, h1, h2, h3, h4⟩
  · simp at hk
  · simp only [Value.slice.injEq] at e
    obtain ⟨rfl, -, rfl⟩ := e
    exact ⟨b, off, rfl, h1, h2, h3, h4 k hk⟩
theorem sgM_sz (l : List Sg) : ∀ x ∈ l.map sgC, x.length = 5 := fun x hx => by obtain ⟨p, _, rfl⟩ := List.mem_map.1 hx; rfl
/-- The slice v, of the call's own from block 'base' on, reads as the signatures l (t: their type). -/
def OwnSg (t : TypeId) (base : Nat) (w : World) (v : Value) (l : List Sg) : Prop := w.ownsRow base t 5 v l.length (l.map sgC).flatten
theorem OwnSg.rd {t : TypeId} {base : Nat} {w : World} {v : Value} {l : List Sg} (h : OwnSg t base w v l) : RdSg w v l := by
  rcases h.2 with ⟨rfl, hn⟩ | ⟨g, cap, cur, rfl, hb, hg, hnc, hcm, hcs, ht⟩
  · have : l = [] := List.length_eq_zero_iff.1 hn
    subst this
    exact .inl ⟨_, _, rfl, rfl, fun _ => rfl⟩
  · by_cases hn : l = []
    · subst hn; exact .inl ⟨_, _, rfl, rfl, fun h => by cases h⟩
    · refine .inr ⟨g, 0, cap, hn, rfl, hnc, hcm, (Array.getElem?_eq_some_iff.1 hg).1, fun i hi => ?_⟩
      have cell : ∀ j, j < 5 → w.cell? ⟨g, 0 + i * 5 + j, none⟩ = (sgC l[i])[j]? := fun j hj => by
        rw [Nat.zero_add, World.ownsRow.cellAt h (i * 5 + j) (by omega), flat_get 5 (l.map sgC) i j (by simpa using hi) (sgM_sz l) hj]
        simp
      exact ⟨by have := cell 0 (by omega); simpa [sgC] using this, by have := cell 1 (by omega); simpa [sgC] using this, by have := cell 2 (by omega); simpa [sgC] using this, by have := cell 3 (by omega); simpa [sgC] using this, by have := cell 4 (by omega); simpa [sgC] using this⟩
theorem OwnSg.below {t : TypeId} {B base : Nat} {w w' : World} {v : Value} {l : List Sg} (h : OwnSg t base w v l) (hb : Below B w w') (hB : w.heap.size ≤ B) : OwnSg t base w' v l := row_below h hb hB
theorem OwnSg.ge {t : TypeId} {base : Nat} {w : World} {v : Value} {l : List Sg} (h : OwnSg t base w v l) : ∀ k, v.ownBlock = some k → base ≤ k := fun k hk => (World.ownsRow.lt h k hk).1
theorem OwnSg.lt {t : TypeId} {base : Nat} {w : World} {v : Value} {l : List Sg} (h : OwnSg t base w v l) : ∀ k, v.ownBlock = some k → k < w.heap.size := fun k hk => (World.ownsRow.lt h k hk).2
theorem OwnSg.alloc {t : TypeId} {base : Nat} {w : World} {v : Value} {l : List Sg} (h : OwnSg t base w v l) (o : Obj) : OwnSg t base (w.alloc o) v l := World.ownsRow.alloc h o
theorem OwnSg.drew {t : TypeId} {base : Nat} {w : World} {v : Value} {l : List Sg} (h : OwnSg t base w v l) : OwnSg t base w.drew v l := h.below (Below.refl _ w).drew (Nat.le_refl _)
theorem OwnSg.notg {t : TypeId} {base : Nat} {w w' : World} {v : Value} {l : List Sg} {g : Nat} (h : OwnSg t base w v l) (hg : w.grownBy w' (some g)) (hb : g < base) : OwnSg t base w' v l :=
  World.ownsRow.kept h hg (.inr fun e => by have := h.ge g e; omega)
theorem OwnSg.kept {t : TypeId} {base : Nat} {w w' : World} {v : Value} {l : List Sg} {row : Option Nat} (h : OwnSg t base w v l) (hg : w.grownBy w' row) (hne : v.ownBlock = none ∨ v.ownBlock ≠ row) : OwnSg t base w' v l := World.ownsRow.kept h hg hne
theorem own_nilSg (t : TypeId) (w : World) (base : Nat) (h : base ≤ w.heap.size) : OwnSg t base (w.alloc (.cells #[] t)) (.slice (some ⟨w.heap.size, 0, none⟩) 0 0) [] :=
  World.ownsRow_lit w #[] 0 h (by unfold maxLen; omega) (by simp)
theorem Try.infoSig : (Try.prog.info? 44).map (fun i => (i.zero, i.size, i.bytes)) = some (some (.agg #[.int .i64 0, .int .i64 0, .int .i64 0, .int .i64 0, .string { data := #[] }]), 5, 48) := by kernel_rfl
theorem step_appSig {ops : Array Oper} {o : Oper} {a : Act} {w : World} {K : Act → World → Prop} {Q : Exit → Act → World → Prop} {E : Prop} (hgd : o.guard = none) (s x : Operand)
    (ho : o.op = .call { callee := .builtin .append, args := #[s, x], argTypes := #[24, 24] })
    (base : Nat) (v : Value) (B : Nat) (l : List Sg) (p : Sg) (hs : a.eval s = v) (hx : a.eval x = .slice (some ⟨B, 0, none⟩) 1 1) (hown : OwnSg 44 base w v l) (hblk : Blk w B 44 (sgC p))
    (hlen : l.length ≤ 100000000) (hbase : base ≤ w.heap.size)
    (h : ∀ v' w', OwnSg 44 base w' v' (l ++ [p]) → w.grownBy w' v.ownBlock → (v'.ownBlock = v.ownBlock ∨ v'.ownBlock = some w.heap.size) → K (a.put o.dst v') w') : if Region.wanted o (yielded ops a.tmps) = true then Oper.wp Try.prog o a w K Q else E := by
  have hw : Region.wanted o (yielded ops a.tmps) = true := by simp [Region.wanted, hgd]
  rw [if_pos hw]
  obtain ⟨i0, hi, hz0, hz1, hz2⟩ := info_parts Try.infoSig
  obtain ⟨v', w', hr, h2, h3, h4, h5⟩ := run_append_own_at (P := Try.prog) w base 24 o.type 44 i0 (.agg #[.int .i64 0, .int .i64 0, .int .i64 0, .int .i64 0, .string { data := #[] }]) 5 48 Try.underlying24 hi hz0 hz1 hz2 rfl (by decide) v l.length (l.map sgC).flatten hown ⟨B, 0, none⟩ 1 1 (sgC p) rfl (fun j u hj => by rw [add_flatR, Nat.zero_add, hblk.cell j]; exact hj) (fun u hu => by
    simp only [sgC, List.mem_cons, List.not_mem_nil, or_false] at hu
    rcases hu with rfl | rfl | rfl | rfl | rfl <;> rfl) (by unfold maxLen; omega) (by omega) hbase
  unfold Oper.wp execOp
  simp only [ho, resolve, invoke, builtin, Sem.run_bind, Sem.run_pure, Result.andThen_ok, List.map_toArray, List.map_cons, List.map_nil, hs, hx, hr]
  exact h v' w' (by unfold OwnSg; rw [List.length_append, List.map_append, List.flatten_append]; simpa using h2) h3 h5
theorem app_ownSig {ops : Array Oper} {rest : List Oper} {o : Oper} {a : Act} {Q : Exit → Act → World → Prop} (w : World) (hgd : o.guard = none) (s x : Operand)
    (ho : o.op = .call { callee := .builtin .append, args := #[s, x], argTypes := #[24, 24] })
    (base : Nat) (v : Value) (B : Nat) (l : List Sg) (p : Sg) (hs : a.eval s = v) (hx : a.eval x = .slice (some ⟨B, 0, none⟩) 1 1) (hown : OwnSg 44 base w v l) (hblk : Blk w B 44 (sgC p))
    (hlen : l.length ≤ 100000000) (hbase : base ≤ w.heap.size)
    (h : ∀ v' w', OwnSg 44 base w' v' (l ++ [p]) → w.grownBy w' v.ownBlock → (v'.ownBlock = v.ownBlock ∨ v'.ownBlock = some w.heap.size) → wpList Try.prog ops Q rest (a.put o.dst v') w') : wpList Try.prog ops Q (o :: rest) a w := by
  obtain ⟨i0, hi, hz0, hz1, hz2⟩ := info_parts Try.infoSig
  refine wpList_append_own_at w hgd s x 24 ho base 44 i0 (.agg #[.int .i64 0, .int .i64 0, .int .i64 0, .int .i64 0, .string { data := #[] }]) 5 48 Try.underlying24 hi hz0 hz1 hz2 rfl (by decide) v l.length (l.map sgC).flatten hs hown ⟨B, 0, none⟩ 1 1 (sgC p) hx rfl ?_ ?_ (by unfold maxLen; omega) (by omega) hbase ?_
  · intro j u hj
    rw [add_flatR, Nat.zero_add, hblk.cell j]
    exact hj
  · intro u hu
    simp only [sgC, List.mem_cons, List.not_mem_nil, or_false] at hu
    rcases hu with rfl | rfl | rfl | rfl | rfl <;> rfl
  · intro v' w' ho' hg _ hl
    exact h v' w' (by unfold OwnSg; rw [List.length_append, List.map_append, List.flatten_append]; simpa using ho') hg hl
theorem sgC_const (l : List Sg) : ∀ u ∈ (l.map sgC).flatten, True := fun _ _ => trivial
end Go.Proofs.Ytkidfkngehcjgaa
