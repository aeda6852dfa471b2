/- Appending to rows of accounts and of what leaves, which are the call's own. -/
import Derived.Test.YtaidhenkijjcfaaAcRow
import Derived.Maps.AppendAt
import Derived.Laws.AppendOwnNone
namespace Go.Proofs.Ytaidhenkijjcfaa
open Go.RowKit
set_option linter.unusedVariables false

theorem add_flat (b off i : Nat) : (⟨b, off, none⟩ : Addr).add i = ⟨b, off + i, none⟩ := by
  by_cases hz : i = 0
  · subst hz; simp [Addr.add]
  · simp [Addr.add, hz]
theorem own_nilL (w : World) (base : Nat) (h : base ≤ w.heap.size) : OwnL base (w.alloc (.cells #[] 70)) (.slice (some ⟨w.heap.size, 0, none⟩) 0 0) [] :=
  World.ownsRow_lit w #[] 0 h (by unfold maxLen; omega) (by simp)
theorem own_noneL (w : World) (base : Nat) : OwnL base w (.slice none 0 0) [] := World.ownsRow_nil w base _ _
theorem OwnL.alloc {base : Nat} {w : World} {v : Value} {l : List (Int × Int)} (h : OwnL base w v l) (o : Obj) : OwnL base (w.alloc o) v l := World.ownsRow.alloc h o
theorem rdL_cells {w : World} {b off : Nat} {k : List (Int × Int)} (h4 : ∀ i (h : i < k.length), w.cell? ⟨b, off + i * 2, none⟩ = some (.int .i64 k[i].1) ∧ w.cell? ⟨b, off + i * 2 + 1, none⟩ = some (.int .i64 k[i].2)) :
    ∀ j u, (k.map lvC).flatten[j]? = some u → w.cell? ((⟨b, off, none⟩ : Addr).add j) = some u := by
  intro j u hj
  have hjl : j < (k.map lvC).flatten.length := (List.getElem?_eq_some_iff.1 hj).1
  rw [flat_len 2 _ (lvM_sz k), List.length_map] at hjl
  have hi : j / 2 < k.length := by omega
  have e := flat_get 2 (k.map lvC) (j / 2) (j % 2) (by simpa using hi) (lvM_sz k) (by omega)
  rw [show j / 2 * 2 + j % 2 = j from by omega] at e
  rw [e] at hj
  rw [add_flat]
  rcases Nat.mod_two_eq_zero_or_one j with h | h
  · rw [h] at hj
    rw [show off + j = off + j / 2 * 2 from by omega, (h4 (j / 2) hi).1]
    simpa [lvC] using hj
  · rw [h] at hj
    rw [show off + j = off + j / 2 * 2 + 1 from by omega, (h4 (j / 2) hi).2]
    simpa [lvC] using hj

theorem app_ownL {ops : Array Oper} {rest : List Oper} {o : Oper} {a : Act} {Q : Exit → Act → World → Prop} (w : World) (hgd : o.guard = none) (s x : Operand)
    (ho : o.op = .call { callee := .builtin .append, args := #[s, x], argTypes := #[53, 53] })
    (base : Nat) (v vx : Value) (l k : List (Int × Int)) (hs : a.eval s = v) (hx : a.eval x = vx) (hown : OwnL base w v l) (hrd : RdL w vx k)
    (hlen : l.length + k.length ≤ 100000000) (hbase : base ≤ w.heap.size)
    (h : ∀ v' w', OwnL base w' v' (l ++ k) → Below base w w' → wpList Try.prog ops Q rest (a.put o.dst v') w') : wpList Try.prog ops Q (o :: rest) a w := by
  obtain ⟨i0, hi, hz0, hz1, hz2⟩ := info_parts Try.infoLv
  have hbel : ∀ w', w.grownBy w' v.ownBlock → Below base w w' := fun w' hg => (Below.refl _ _).grown hg hbase (fun k hk => (hown.ge k hk))
  rcases hrd with ⟨ax, cap, rfl, rfl, hnil⟩ | ⟨b, off, cap, h0, rfl, h1, h2, h3, h4⟩
  · cases ax with
    | none =>
      have hc : cap = 0 := hnil rfl
      subst hc
      refine wpList_append_own_none hgd s x 53 ho base 70 i0 2 Try.underlying53 hi v l.length (l.map lvC).flatten hs hown hx ?_
      exact h v w (by simpa [OwnL] using hown) (Below.refl _ _)
    | some ad =>
      refine wpList_append_own w hgd s x 53 ho base 70 i0 (.agg #[.int .i64 0, .int .i64 0]) 2 16 Try.underlying53 hi hz0 hz1 hz2 rfl (by decide) v l.length (l.map lvC).flatten hs hown ad 0 cap [] hx rfl (by intro j u hj; simp at hj) (by intro u hu; simp at hu) (by unfold maxLen; simp at hlen; omega) (by simp at hlen; omega) hbase ?_
      intro v' w' ho' hg _
      exact h v' w' (by simpa [OwnL] using ho') (hbel w' hg)
  · refine wpList_append_own w hgd s x 53 ho base 70 i0 (.agg #[.int .i64 0, .int .i64 0]) 2 16 Try.underlying53 hi hz0 hz1 hz2 rfl (by decide) v l.length (l.map lvC).flatten hs hown ⟨b, off, none⟩ k.length cap (k.map lvC).flatten hx (by rw [flat_len 2 _ (lvM_sz k), List.length_map]) (rdL_cells h4) ?_ (by unfold maxLen; omega) (by omega) hbase ?_
    · intro u hu
      obtain ⟨c, hc, hu⟩ := List.mem_flatten.1 hu
      obtain ⟨p, _, rfl⟩ := List.mem_map.1 hc
      simp only [lvC, List.mem_cons, List.not_mem_nil, or_false] at hu
      rcases hu with rfl | rfl <;> rfl
    · intro v' w' ho' hg _
      exact h v' w' (by simpa [OwnL] using ho') (hbel w' hg)

theorem oneCell_slice {v : Value} {w : World} {l : List (Int × Int)} (h : RdL w v l) : v.oneCell' = true := by
  obtain ⟨a, c, rfl⟩ := h.shape
  rfl
/-- The row of accounts Z is the call's own. -/
def RowA (base : Nat) (w : World) (v : Value) (Z : List (Ac × Value)) : Prop := w.ownsRow base 55 5 v Z.length (Z.map acC).flatten
theorem app_ownA {ops : Array Oper} {rest : List Oper} {o : Oper} {a : Act} {Q : Exit → Act → World → Prop} (w : World) (hgd : o.guard = none) (s x : Operand)
    (ho : o.op = .call { callee := .builtin .append, args := #[s, x], argTypes := #[30, 30] })
    (base : Nat) (v : Value) (B : Nat) (Z : List (Ac × Value)) (q : Ac × Value) (hs : a.eval s = v) (hx : a.eval x = .slice (some ⟨B, 0, none⟩) 1 1) (hown : RowA base w v Z) (hblk : Blk w B 55 (acC q)) (h1 : q.2.oneCell' = true)
    (hlen : Z.length ≤ 100000000) (hbase : base ≤ w.heap.size)
    (h : ∀ v' w', RowA base w' v' (Z ++ [q]) → w.grownBy w' v.ownBlock → v' ≠ .slice none 0 0 → (v'.ownBlock = v.ownBlock ∨ v'.ownBlock = some w.heap.size) → wpList Try.prog ops Q rest (a.put o.dst v') w') : wpList Try.prog ops Q (o :: rest) a w := by
  obtain ⟨i0, hi, hz0, hz1, hz2⟩ := info_parts Try.infoAc
  refine wpList_append_own_at w hgd s x 30 ho base 55 i0 (.agg #[.string { data := #[] }, .int .i64 0, .int .i64 0, .int .i64 0, .slice none 0 0]) 5 64 Try.underlying30 hi hz0 hz1 hz2 rfl (by decide) v Z.length (Z.map acC).flatten hs hown ⟨B, 0, none⟩ 1 1 (acC q) hx rfl ?_ ?_ (by unfold maxLen; omega) (by omega) hbase ?_
  · intro j u hj
    rw [add_flat, Nat.zero_add, hblk.cell j]
    exact hj
  · intro u hu
    simp only [acC, List.mem_cons, List.not_mem_nil, or_false] at hu
    rcases hu with rfl | rfl | rfl | rfl | rfl
    · rfl
    · rfl
    · rfl
    · rfl
    · exact h1
  · intro v' w' ho' hg hn hl
    refine h v' w' ?_ hg ?_ hl
    · unfold RowA
      rw [List.length_append, List.map_append, List.flatten_append]
      simpa using ho'
    · intro e
      have := (hn.1 e).2
      omega
theorem RowA.below {B base : Nat} {w w' : World} {v : Value} {Z : List (Ac × Value)} (h : RowA base w v Z) (hb : Below B w w') (hB : w.heap.size ≤ B) : RowA base w' v Z := row_below h hb hB
theorem RowA.ge {base : Nat} {w : World} {v : Value} {Z : List (Ac × Value)} (h : RowA base w v Z) : ∀ k, v.ownBlock = some k → base ≤ k := fun k hk => (World.ownsRow.lt h k hk).1
theorem RowA.lt {base : Nat} {w : World} {v : Value} {Z : List (Ac × Value)} (h : RowA base w v Z) : ∀ k, v.ownBlock = some k → k < w.heap.size := fun k hk => (World.ownsRow.lt h k hk).2
theorem RowA.shape {base : Nat} {w : World} {v : Value} {Z : List (Ac × Value)} (h : RowA base w v Z) (hn : v ≠ .slice none 0 0) : ∃ g cap, v = .slice (some ⟨g, 0, none⟩) Z.length cap := by
  rcases h.2 with ⟨hv, _⟩ | ⟨g, cap, cur, hv, _⟩
  · exact absurd hv hn
  · exact ⟨g, cap, hv⟩
theorem row_nilA (w : World) (base : Nat) (h : base ≤ w.heap.size) : RowA base (w.alloc (.cells #[] 55)) (.slice (some ⟨w.heap.size, 0, none⟩) 0 0) [] :=
  World.ownsRow_lit w #[] 0 h (by unfold maxLen; omega) (by simp)
theorem Lvs.nil (base : Nat) (w : World) (g : Nat) : Lvs base w g [] := ⟨fun i h => by simp at h, fun i h => by simp at h, fun i j h => by simp at h⟩
theorem Lvs.mono {base base' : Nat} {w : World} {g : Nat} {Z : List (Ac × Value)} (h : Lvs base w g Z) (hB : base' ≤ base) : Lvs base' w g Z := ⟨fun i hi => (h.own i hi).mono hB, h.far, h.apart⟩
/-- Behind growth that turned at most the block 'g', which none of the lists has. -/
theorem Lvs.grown {base : Nat} {w w' : World} {g : Nat} {Z : List (Ac × Value)} (h : Lvs base w g Z) (hg : w.grownBy w' (some g)) : Lvs base w' g Z :=
  ⟨fun i hi => (h.own i hi).kept hg (.inr fun e => h.far i hi g e rfl), h.far, h.apart⟩
/-- .. and from now on far from a block that was not there. -/
theorem Lvs.move {base : Nat} {w w' : World} {g g' : Nat} {Z : List (Ac × Value)} (h : Lvs base w g Z) (hg : w.grownBy w' (some g)) (hl : g' = g ∨ w.heap.size ≤ g') : Lvs base w' g' Z :=
  ⟨fun i hi => (h.own i hi).kept hg (.inr fun e => h.far i hi g e rfl), fun i hi k hk => by
    rcases hl with rfl | hl
    · exact h.far i hi k hk
    · have := (h.own i hi).lt k hk; omega, h.apart⟩
theorem OwnA.of_row {base : Nat} {w : World} {g cap : Nat} {Z : List (Ac × Value)} (ho : RowA base w (.slice (some ⟨g, 0, none⟩) Z.length cap) Z) (hl : Lvs base w g Z) : OwnA base w (.slice (some ⟨g, 0, none⟩) Z.length cap) (Z.map (·.1)) :=
  ⟨g, cap, Z, rfl, by simp, by simpa [RowA] using ho, hl⟩
theorem Blk.new' (W : World) (t : TypeId) (cs : List Value) (n : Nat) (h : n = W.heap.size) : Blk (W.alloc (.cells cs.toArray t)) n t cs := by subst h; exact Blk.new W t cs
/-- One account more behind the row: what is known of it behind the append. -/
theorem rowA_step {base : Nat} {w2 w3 w4 : World} {g : Nat} {Z : List (Ac × Value)} {q : Ac × Value} {v' : Value} (hL : Lvs base w2 g Z) (hq : OwnL base w2 q.2 q.1.2.2.2.2) (hf : ∀ k, q.2.ownBlock = some k → k ≠ g)
    (hn : ∀ i (hi : i < Z.length) k, Z[i].2.ownBlock = some k → q.2.ownBlock ≠ some k) (h23 : Below w2.heap.size w2 w3) (hg : w3.grownBy w4 (some g)) (hrow : RowA base w4 v' (Z ++ [q])) (hnn : v' ≠ .slice none 0 0) (hl : v'.ownBlock = some g ∨ v'.ownBlock = some w3.heap.size) :
    ∃ g' cap', v' = .slice (some ⟨g', 0, none⟩) (Z ++ [q]).length cap' ∧ Lvs base w4 g' (Z ++ [q]) := by
  obtain ⟨g', cap', rfl⟩ := hrow.shape hnn
  refine ⟨g', cap', rfl, ((hL.snoc q hq hf hn).below h23 (Nat.le_refl _)).move hg ?_⟩
  rcases hl with h | h
  · exact .inl (by simpa [Value.ownBlock] using h)
  · exact .inr (by have : g' = w3.heap.size := by simpa [Value.ownBlock] using h
                   omega)
end Go.Proofs.Ytaidhenkijjcfaa
