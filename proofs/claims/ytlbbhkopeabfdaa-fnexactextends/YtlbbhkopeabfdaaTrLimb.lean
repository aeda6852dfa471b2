/- The limbs of a tree in memory. -/
import Derived.Test.YtlbbhkopeabfdaaTrSrch
namespace Go.Proofs.Ytlbbhkopeabfdaa
open Go.RowKit
set_option linter.unusedVariables false

theorem add_flatP (b off i : Nat) : (⟨b, off, none⟩ : Addr).add i = ⟨b, off + i, none⟩ := by
  by_cases hz : i = 0
  · subst hz; simp [Addr.add]
  · simp [Addr.add, hz]
theorem Try.infoPt : (Try.prog.info? 73).map (fun i => (i.zero, i.size, i.bytes)) = some (some (.pointer none), 1, 8) := by kernel_rfl
/-- The slice v has a limb for each of the first n of l, in the blocks Bs: its number, the block, and the limb that it comes behind. -/
structure Limbs (base : Nat) (w : World) (v : Value) (l : List Bk) (n : Nat) (Bs : List Nat) : Prop where
  len : Bs.length = n
  le : n ≤ l.length
  row : w.ownsRow base 73 1 v n (Bs.map ptr)
  at_ : ∀ i (h : i < Bs.length) (h2 : i < l.length), ∃ bv p, Blk w Bs[i] 110 (limC l[i] bv p) ∧ base ≤ Bs[i] ∧
    ((rootB l[i].qr l[i].qb l[i].qw = true ∧ p = .pointer none) ∨ ∃ j, ∃ hj : j < i, (l[j]'(by omega)).id = l[i].qb ∧ p = ptr (Bs[j]'(by omega)))
theorem Limbs.nil (base : Nat) (w : World) (l : List Bk) : Limbs base w (.slice none 0 0) l 0 [] := ⟨rfl, Nat.zero_le _, World.ownsRow_nil _ _ _ _, fun i h => by simp at h⟩
theorem Limbs.below {base B : Nat} {w w' : World} {v : Value} {l : List Bk} {n : Nat} {Bs : List Nat} (h : Limbs base w v l n Bs) (hb : Below B w w') (hB : w.heap.size ≤ B) : Limbs base w' v l n Bs :=
  ⟨h.len, h.le, row_below h.row hb hB, fun i hi h2 => by
    obtain ⟨bv, p, k, r⟩ := h.at_ i hi h2
    exact ⟨bv, p, k.below hb (by have := k.lt; omega), r⟩⟩
theorem Limbs.mono {base base' : Nat} {w : World} {v : Value} {l : List Bk} {n : Nat} {Bs : List Nat} (h : Limbs base w v l n Bs) (hB : base' ≤ base) : Limbs base' w v l n Bs :=
  ⟨h.len, h.le, ⟨h.row.1, by
    rcases h.row.2 with h' | ⟨g, cap, cur, hv, hbb, r⟩
    · exact .inl h'
    · exact .inr ⟨g, cap, cur, hv, by omega, r⟩⟩, fun i hi h2 => by
    obtain ⟨bv, p, k, q, r⟩ := h.at_ i hi h2
    exact ⟨bv, p, k, by omega, r⟩⟩
theorem Limbs.other {base : Nat} {w w' : World} {v : Value} {l : List Bk} {n : Nat} {Bs : List Nat} {g : Nat} (h : Limbs base w v l n Bs) (hg : w.grownBy w' (some g)) (hlt : g < base) : Limbs base w' v l n Bs :=
  ⟨h.len, h.le, World.ownsRow.kept h.row hg (.inr (fun e => by have := (World.ownsRow.lt h.row g e).1; omega)), fun i hi h2 => by
    obtain ⟨bv, p, k, q, r⟩ := h.at_ i hi h2
    exact ⟨bv, p, (hg.block Bs[i] k.lt (fun e => by simp only [Option.some.injEq] at e; omega)).trans k, q, r⟩⟩
theorem Limbs.apart {base : Nat} {w : World} {v : Value} {l : List Bk} {n : Nat} {Bs : List Nat} (h : Limbs base w v l n Bs) (i : Nat) (hi : i < Bs.length) : v.ownBlock ≠ some Bs[i] := by
  obtain ⟨bv, p, k, -⟩ := h.at_ i hi (by have := h.le; have := h.len; omega)
  rcases h.row.2 with ⟨hv, _⟩ | ⟨g, cap, cur, hv, hbb, hg, r⟩
  · rw [hv]; simp [Value.ownBlock]
  · rw [hv]
    simp only [Value.ownBlock, ne_eq, Option.some.injEq]
    intro e
    rw [e, show w.heap[Bs[i]]? = _ from k] at hg
    simp only [Option.some.injEq, Obj.cells.injEq] at hg
    exact absurd hg.2.1 (by decide)
theorem Limbs.snoc {base : Nat} {w w' : World} {v v' : Value} {l : List Bk} {n : Nat} {Bs : List Nat} (h : Limbs base w v l n Bs) (hn : n < l.length) (B : Nat) (hg : w.grownBy w' v.ownBlock) (hrow : w'.ownsRow base 73 1 v' (n + 1) (Bs.map ptr ++ [ptr B]))
    (bv : Bv) (p : Value) (hB : Blk w' B 110 (limC l[n] bv p)) (hb : base ≤ B)
    (hp : (rootB l[n].qr l[n].qb l[n].qw = true ∧ p = .pointer none) ∨ ∃ j, ∃ hj : j < Bs.length, (l[j]'(by have := h.len; omega)).id = l[n].qb ∧ p = ptr Bs[j]) : Limbs base w' v' l (n + 1) (Bs ++ [B]) := by
  have hl := h.len
  refine ⟨by simp [hl], by omega, by simpa using hrow, fun i hi h2 => ?_⟩
  by_cases hin : i < n
  · obtain ⟨bv2, p2, k, q, r⟩ := h.at_ i (by omega) h2
    rw [List.getElem_append_left (by omega)]
    refine ⟨bv2, p2, (hg.block _ k.lt (h.apart i (by omega)).symm).trans k, q, ?_⟩
    rcases r with r | ⟨j, hj, e, f⟩
    · exact .inl r
    · refine .inr ⟨j, hj, e, ?_⟩
      rw [List.getElem_append_left (by omega)]
      exact f
  · have e : i = n := by simp at hi; omega
    subst e
    rw [List.getElem_append_right (by omega)]
    refine ⟨bv, p, by simpa [hl] using hB, by simpa [hl] using hb, ?_⟩
    rcases hp with hp | ⟨j, hj, e, f⟩
    · exact .inl hp
    · refine .inr ⟨j, by omega, e, ?_⟩
      rw [List.getElem_append_left hj]
      exact f
theorem Limbs.rdP {base : Nat} {w : World} {v : Value} {l : List Bk} {n : Nat} {Bs : List Nat} (h : Limbs base w v l n Bs) : RdP w v Bs ((l.take n).map (·.id)) := by
  have hl := h.len
  have hle := h.le
  refine ⟨by simp; omega, ?_, fun i hi h2 => ?_⟩
  · rcases h.row.2 with ⟨hv, hn⟩ | ⟨g, cap, cur, hv, hbb, hg, r⟩
    · refine ⟨none, 0, by rw [hv, hl, hn], fun i hi => ?_⟩
      omega
    · refine ⟨_, cap, by rw [hv, hl], fun i hi => ⟨g, 0, rfl, ?_⟩⟩
      have h' := h.row
      rw [hv] at h'
      rw [Nat.zero_add, h'.cellAt i (by omega)]
      simp [hi]
  · obtain ⟨bv, p, k, -⟩ := h.at_ i hi (by omega)
    rw [k.cell 0]
    simp [limC]
theorem own_shape {base : Nat} {w : World} {e : TypeId} {sz : Nat} {v : Value} {n : Nat} {xs : List Value} (h : w.ownsRow base e sz v n xs) : ∃ a c, v = .slice a n c := by
  rcases h.2 with ⟨hv, hn⟩ | ⟨g, cap, cur, hv, r⟩
  · exact ⟨none, 0, by rw [hv, hn]⟩
  · exact ⟨_, cap, hv⟩
theorem app_ownP {ops : Array Oper} {rest : List Oper} {o : Oper} {a : Act} {Q : Exit → Act → World → Prop} (w : World) (hgd : o.guard = none) (s x : Operand)
    (ho : o.op = .call { callee := .builtin .append, args := #[s, x], argTypes := #[68, 68] })
    (base : Nat) (v : Value) (C : Nat) (n : Nat) (Bs : List Nat) (B : Nat) (hs : a.eval s = v) (hx : a.eval x = .slice (some ⟨C, 0, none⟩) 1 1) (hown : w.ownsRow base 73 1 v n (Bs.map ptr)) (hblk : Blk w C 73 [ptr B])
    (hlen : n ≤ 1000000) (hbase : base ≤ w.heap.size)
    (h : ∀ v' w', w'.ownsRow base 73 1 v' (n + 1) (Bs.map ptr ++ [ptr B]) → w.grownBy w' v.ownBlock → wpList Try.prog ops Q rest (a.put o.dst v') w') : wpList Try.prog ops Q (o :: rest) a w := by
  obtain ⟨i0, hi, hz0, hz1, hz2⟩ := info_parts Try.infoPt
  refine wpList_append_own w hgd s x 68 ho base 73 i0 (.pointer none) 1 8 Try.underlying68 hi hz0 hz1 hz2 rfl (by decide) v n (Bs.map ptr) hs hown ⟨C, 0, none⟩ 1 1 [ptr B] hx rfl (fun j u hj => by rw [add_flatP, Nat.zero_add, hblk.cell j]; exact hj) (fun u hu => by
    simp only [List.mem_cons, List.not_mem_nil, or_false] at hu
    subst hu; rfl) (by unfold maxLen; omega) (by omega) hbase ?_
  intro v' w' ho' hg _
  exact h v' w' ho' hg
end Go.Proofs.Ytlbbhkopeabfdaa
