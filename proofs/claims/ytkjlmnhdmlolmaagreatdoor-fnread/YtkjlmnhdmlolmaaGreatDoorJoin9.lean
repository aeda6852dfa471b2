/- Appending to rows of accounts and of what leaves, which are the call's own. Accounts copied: the landed code's copiedAcct and copiedAccts, the model's l4Copy. -/
import Derived.Test.YtkjlmnhdmlolmaaGreatDoorJoin4
import Derived.Maps.AppendAt
import Derived.Laws.AppendOwnNone
namespace Go.Proofs.YtkjlmnhdmlolmaaGreatDoor
open Go.RowKit
set_option linter.unusedVariables false

theorem add_flat (b off i : Nat) : (⟨b, off, none⟩ : Addr).add i = ⟨b, off + i, none⟩ := by
  by_cases hz : i = 0
  · subst hz; simp [Addr.add]
  · simp [Addr.add, hz]
theorem own_nilL (w : World) (base : Nat) (h : base ≤ w.heap.size) : OwnL base (w.alloc (.cells #[] 74)) (.slice (some ⟨w.heap.size, 0, none⟩) 0 0) [] :=
  World.ownsRow_lit w #[] 0 h (by unfold maxLen; omega) (by simp)
theorem own_noneL (w : World) (base : Nat) : OwnL base w (.slice none 0 0) [] := World.ownsRow_nil w base _ _
theorem OwnL.alloc {base : Nat} {w : World} {v : Value} {l : List (Int × Int)} (h : OwnL base w v l) (o : Obj) : OwnL base (w.alloc o) v l := World.ownsRow.alloc h o
theorem rdL_cells {w : World} {b off : Nat} {k : List (Int × Int)} (h4 : ∀ i (h : i < k.length), w.cell? ⟨b, off + i * 2, none⟩ = some (.int .i64 k[i].1) ∧ w.cell? ⟨b, off + i * 2 + 1, none⟩ = some (.int .i64 k[i].2)) :
    ∀ j u, (k.map lvC).flatten[j]? = some u → w.cell? ((⟨b, off, none⟩ : Addr).add j) = some u := by
  intro j u hj
  have hjl : j < (k.map lvC).flatten.length := (List.getElem?_eq_some_iff.1 hj).1
  rw [flat_len 2 _ (lvM_sz k), List.length_map] at hjl
  have hi : j / 2 < k.length := by omega
  have e := flat_get 2 (k.map lvC) (j / 2) (j % 2) (by simpa using hi) (lvM_sz k) (by omega)
  rw [show j / 2 * 2 + j % 2 = j from by omega] at e
  rw [e] at hj
  rw [add_flat]
  rcases Nat.mod_two_eq_zero_or_one j with h | h
  · rw [h] at hj
    rw [show off + j = off + j / 2 * 2 from by omega, (h4 (j / 2) hi).1]
    simpa [lvC] using hj
  · rw [h] at hj
    rw [show off + j = off + j / 2 * 2 + 1 from by omega, (h4 (j / 2) hi).2]
    simpa [lvC] using hj

theorem app_ownL {ops : Array Oper} {rest : List Oper} {o : Oper} {a : Act} {Q : Exit → Act → World → Prop} (w : World) (hgd : o.guard = none) (s x : Operand)
    (ho : o.op = .call { callee := .builtin .append, args := #[s, x], argTypes := #[70, 70] })
    (base : Nat) (v vx : Value) (l k : List (Int × Int)) (hs : a.eval s = v) (hx : a.eval x = vx) (hown : OwnL base w v l) (hrd : RdL w vx k)
    (hlen : l.length + k.length ≤ 100000000) (hbase : base ≤ w.heap.size)
    (h : ∀ v' w', OwnL base w' v' (l ++ k) → Below base w w' → wpList Tryz.prog ops Q rest (a.put o.dst v') w') : wpList Tryz.prog ops Q (o :: rest) a w := by
  obtain ⟨i0, hi, hz0, hz1, hz2⟩ := info_parts Tryz.infoLv
  have hbel : ∀ w', w.grownBy w' v.ownBlock → Below base w w' := fun w' hg => (Below.refl _ _).grown hg hbase (fun k hk => (hown.ge k hk))
  rcases hrd with ⟨ax, cap, rfl, rfl, hnil⟩ | ⟨b, off, cap, h0, rfl, h1, h2, h3, h4⟩
  · cases ax with
    | none =>
      have hc : cap = 0 := hnil rfl
      subst hc
      refine wpList_append_own_none hgd s x 70 ho base 74 i0 2 Tryz.underlying70 hi v l.length (l.map lvC).flatten hs hown hx ?_
      exact h v w (by simpa [OwnL] using hown) (Below.refl _ _)
    | some ad =>
      refine wpList_append_own w hgd s x 70 ho base 74 i0 (.agg #[.int .i64 0, .int .i64 0]) 2 16 Tryz.underlying70 hi hz0 hz1 hz2 rfl (by decide) v l.length (l.map lvC).flatten hs hown ad 0 cap [] hx rfl (by intro j u hj; simp at hj) (by intro u hu; simp at hu) (by unfold maxLen; simp at hlen; omega) (by simp at hlen; omega) hbase ?_
      intro v' w' ho' hg _
      exact h v' w' (by simpa [OwnL] using ho') (hbel w' hg)
  · refine wpList_append_own w hgd s x 70 ho base 74 i0 (.agg #[.int .i64 0, .int .i64 0]) 2 16 Tryz.underlying70 hi hz0 hz1 hz2 rfl (by decide) v l.length (l.map lvC).flatten hs hown ⟨b, off, none⟩ k.length cap (k.map lvC).flatten hx (by rw [flat_len 2 _ (lvM_sz k), List.length_map]) (rdL_cells h4) ?_ (by unfold maxLen; omega) (by omega) hbase ?_
    · intro u hu
      obtain ⟨c, hc, hu⟩ := List.mem_flatten.1 hu
      obtain ⟨p, _, rfl⟩ := List.mem_map.1 hc
      simp only [lvC, List.mem_cons, List.not_mem_nil, or_false] at hu
      rcases hu with rfl | rfl <;> rfl
    · intro v' w' ho' hg _
      exact h v' w' (by simpa [OwnL] using ho') (hbel w' hg)

theorem oneCell_slice {v : Value} {w : World} {l : List (Int × Int)} (h : RdL w v l) : v.oneCell' = true := by
  obtain ⟨a, c, rfl⟩ := h.shape
  rfl
/-- The row of accounts Z is the call's own. -/
def RowA (base : Nat) (w : World) (v : Value) (Z : List (Ac × Value)) : Prop := w.ownsRow base 72 5 v Z.length (Z.map acC).flatten
theorem app_ownA {ops : Array Oper} {rest : List Oper} {o : Oper} {a : Act} {Q : Exit → Act → World → Prop} (w : World) (hgd : o.guard = none) (s x : Operand)
    (ho : o.op = .call { callee := .builtin .append, args := #[s, x], argTypes := #[24, 24] })
    (base : Nat) (v : Value) (B : Nat) (Z : List (Ac × Value)) (q : Ac × Value) (hs : a.eval s = v) (hx : a.eval x = .slice (some ⟨B, 0, none⟩) 1 1) (hown : RowA base w v Z) (hblk : Blk w B 72 (acC q)) (h1 : q.2.oneCell' = true)
    (hlen : Z.length ≤ 100000000) (hbase : base ≤ w.heap.size)
    (h : ∀ v' w', RowA base w' v' (Z ++ [q]) → w.grownBy w' v.ownBlock → v' ≠ .slice none 0 0 → (v'.ownBlock = v.ownBlock ∨ v'.ownBlock = some w.heap.size) → wpList Tryz.prog ops Q rest (a.put o.dst v') w') : wpList Tryz.prog ops Q (o :: rest) a w := by
  obtain ⟨i0, hi, hz0, hz1, hz2⟩ := info_parts Tryz.infoAc
  refine wpList_append_own_at w hgd s x 24 ho base 72 i0 (.agg #[.string { data := #[] }, .int .i64 0, .int .i64 0, .int .i64 0, .slice none 0 0]) 5 64 Tryz.underlying24 hi hz0 hz1 hz2 rfl (by decide) v Z.length (Z.map acC).flatten hs hown ⟨B, 0, none⟩ 1 1 (acC q) hx rfl ?_ ?_ (by unfold maxLen; omega) (by omega) hbase ?_
  · intro j u hj
    rw [add_flat, Nat.zero_add, hblk.cell j]
    exact hj
  · intro u hu
    simp only [acC, List.mem_cons, List.not_mem_nil, or_false] at hu
    rcases hu with rfl | rfl | rfl | rfl | rfl
    · rfl
    · rfl
    · rfl
    · rfl
    · exact h1
  · intro v' w' ho' hg hn hl
    refine h v' w' ?_ hg ?_ hl
    · unfold RowA
      rw [List.length_append, List.map_append, List.flatten_append]
      simpa using ho'
    · intro e
      have := (hn.1 e).2
      omega
theorem RowA.below {B base : Nat} {w w' : World} {v : Value} {Z : List (Ac × Value)} (h : RowA base w v Z) (hb : Below B w w') (hB : w.heap.size ≤ B) : RowA base w' v Z := row_below h hb hB
theorem RowA.ge {base : Nat} {w : World} {v : Value} {Z : List (Ac × Value)} (h : RowA base w v Z) : ∀ k, v.ownBlock = some k → base ≤ k := fun k hk => (World.ownsRow.lt h k hk).1
theorem RowA.lt {base : Nat} {w : World} {v : Value} {Z : List (Ac × Value)} (h : RowA base w v Z) : ∀ k, v.ownBlock = some k → k < w.heap.size := fun k hk => (World.ownsRow.lt h k hk).2
theorem RowA.shape {base : Nat} {w : World} {v : Value} {Z : List (Ac × Value)} (h : RowA base w v Z) (hn : v ≠ .slice none 0 0) : ∃ g cap, v = .slice (some ⟨g, 0, none⟩) Z.length cap := by
  rcases h.2 with ⟨hv, _⟩ | ⟨g, cap, cur, hv, _⟩
  · exact absurd hv hn
  · exact ⟨g, cap, hv⟩
theorem row_nilA (w : World) (base : Nat) (h : base ≤ w.heap.size) : RowA base (w.alloc (.cells #[] 72)) (.slice (some ⟨w.heap.size, 0, none⟩) 0 0) [] :=
  World.ownsRow_lit w #[] 0 h (by unfold maxLen; omega) (by simp)
theorem Lvs.nil (base : Nat) (w : World) (g : Nat) : Lvs base w g [] := ⟨fun i h => by simp at h, fun i h => by simp at h, fun i j h => by simp at h⟩
theorem Lvs.mono {base base' : Nat} {w : World} {g : Nat} {Z : List (Ac × Value)} (h : Lvs base w g Z) (hB : base' ≤ base) : Lvs base' w g Z := ⟨fun i hi => (h.own i hi).mono hB, h.far, h.apart⟩
/-- Behind growth that turned at most the block 'g', which none of the lists has. -/
theorem Lvs.grown {base : Nat} {w w' : World} {g : Nat} {Z : List (Ac × Value)} (h : Lvs base w g Z) (hg : w.grownBy w' (some g)) : Lvs base w' g Z :=
  ⟨fun i hi => (h.own i hi).kept hg (.inr fun e => h.far i hi g e rfl), h.far, h.apart⟩
/-- .. and from now on far from a block that was not there. -/
theorem Lvs.move {base : Nat} {w w' : World} {g g' : Nat} {Z : List (Ac × Value)} (h : Lvs base w g Z) (hg : w.grownBy w' (some g)) (hl : g' = g ∨ w.heap.size ≤ g') : Lvs base w' g' Z :=
  ⟨fun i hi => (h.own i hi).kept hg (.inr fun e => h.far i hi g e rfl), fun i hi k hk => by
    rcases hl with rfl | hl
    · exact h.far i hi k hk
    · have := (h.own i hi).lt k hk; omega, h.apart⟩
theorem OwnA.of_row {base : Nat} {w : World} {g cap : Nat} {Z : List (Ac × Value)} (ho : RowA base w (.slice (some ⟨g, 0, none⟩) Z.length cap) Z) (hl : Lvs base w g Z) : OwnA base w (.slice (some ⟨g, 0, none⟩) Z.length cap) (Z.map (·.1)) :=
  ⟨g, cap, Z, rfl, by simp, by simpa [RowA] using ho, hl⟩
theorem Blk.new' (W : World) (t : TypeId) (cs : List Value) (n : Nat) (h : n = W.heap.size) : Blk (W.alloc (.cells cs.toArray t)) n t cs := by subst h; exact Blk.new W t cs
/-- One account more behind the row: what is known of it behind the append. -/
theorem rowA_step {base : Nat} {w2 w3 w4 : World} {g : Nat} {Z : List (Ac × Value)} {q : Ac × Value} {v' : Value} (hL : Lvs base w2 g Z) (hq : OwnL base w2 q.2 q.1.2.2.2.2) (hf : ∀ k, q.2.ownBlock = some k → k ≠ g)
    (hn : ∀ i (hi : i < Z.length) k, Z[i].2.ownBlock = some k → q.2.ownBlock ≠ some k) (h23 : Below w2.heap.size w2 w3) (hg : w3.grownBy w4 (some g)) (hrow : RowA base w4 v' (Z ++ [q])) (hnn : v' ≠ .slice none 0 0) (hl : v'.ownBlock = some g ∨ v'.ownBlock = some w3.heap.size) :
    ∃ g' cap', v' = .slice (some ⟨g', 0, none⟩) (Z ++ [q]).length cap' ∧ Lvs base w4 g' (Z ++ [q]) := by
  obtain ⟨g', cap', rfl⟩ := hrow.shape hnn
  refine ⟨g', cap', rfl, ((hL.snoc q hq hf hn).below h23 (Nat.le_refl _)).move hg ?_⟩
  rcases hl with h | h
  · exact .inl (by simpa [Value.ownBlock] using h)
  · exact .inr (by have : g' = w3.heap.size := by simpa [Value.ownBlock] using h
                   omega)
end Go.Proofs.YtkjlmnhdmlolmaaGreatDoor

namespace Go.Proofs.YtkjlmnhdmlolmaaGreatDoor
open Go.RowKit
set_option linter.unusedVariables false

set_option maxRecDepth 20000 in
set_option maxHeartbeats 1000000 in
theorem implCopied_any (a : Ac) (lv : Value) (w : World) (hr : RdL w lv a.2.2.2.2) (hl : a.2.2.2.2.length ≤ 4000000) :
    Calls Tryz.prog 159 #[acV a lv] w fun e w' => ∃ lv', e = .returned (acV a lv') ∧ OwnL w.heap.size w' lv' a.2.2.2.2 ∧ Below w.heap.size w w' := by
  obtain ⟨nm, fr, no, st, ls⟩ := a
  obtain ⟨av, cv, rfl⟩ := hr.shape
  simp only [acV] at *
  obtain ⟨w1, hw1⟩ : ∃ w1, w.alloc (.cells #[.string nm, .int .i64 fr, .int .i64 no, .int .i64 st, .slice av ls.length cv] 72) = w1 := ⟨_, rfl⟩
  have hs1 : w1.heap.size = w.heap.size + 1 := by rw [← hw1]; simp
  have hb1 : Below w.heap.size w w1 := by rw [← hw1]; exact (Below.refl _ w).alloc (Nat.le_refl _) _
  have k1 : Blk w1 w.heap.size 72 [.string nm, .int .i64 fr, .int .i64 no, .int .i64 st, .slice av ls.length cv] := by rw [← hw1]; exact Blk.new w _ _
  obtain ⟨w2, hw2⟩ : ∃ w2, w1.alloc (.cells #[.string { data := #[] }, .int .i64 0, .int .i64 0, .int .i64 0, .slice none 0 0] 72) = w2 := ⟨_, rfl⟩
  have hs2 : w2.heap.size = w.heap.size + 2 := by rw [← hw2]; simp; omega
  have hb2 : Below w1.heap.size w1 w2 := by rw [← hw2]; exact (Below.refl _ w1).alloc (Nat.le_refl _) _
  have k2 : Blk w2 (w.heap.size + 1) 72 acZ := by rw [← hw2, ← hs1]; exact Blk.new w1 _ _
  have k1' := k1.below hb2 (by omega)
  obtain ⟨w3, hw3⟩ : ∃ w3, w2.alloc (.cells #[] 74) = w3 := ⟨_, rfl⟩
  have hs3 : w3.heap.size = w.heap.size + 3 := by rw [← hw3]; simp; omega
  have hb3 : Below w2.heap.size w2 w3 := by rw [← hw3]; exact (Below.refl _ w2).alloc (Nat.le_refl _) _
  have HB3 : Hid (Below w.heap.size w w3) := hide ((hb1.trans (hb2.mono (by omega))).trans (hb3.mono (by omega)))
  have Hr3 : Hid (RdL w3 (.slice av ls.length cv) ls) := hide (hr.below HB3.out (Nat.le_refl _))
  have Ho3 : Hid (OwnL (w.heap.size + 2) w3 (.slice (some ⟨w.heap.size + 2, 0, none⟩) 0 0) []) := hide (by rw [← hw3, ← hs2]; exact own_nilL w2 _ (Nat.le_refl _))
  have K1 := hide (k1'.below hb3 (by omega))
  have K2 := hide (k2.below hb3 (by omega))
  have c4 := K1.out.cell 4
  simp only [List.getElem?_cons_zero, List.getElem?_cons_succ] at c4
  clear hr k1 k1' k2 hb1 hb2 hb3
  go_enter Tryz.func159, Tryz.ntmps159
  go_wp2_with (at_builtin; refine app_ownL _ rfl _ _ rfl (w.heap.size + 2) _ _ [] ls rfl rfl Ho3.out Hr3.out (by simp; omega) (by omega) ?_; intro lv' w4 ho4 hb4; rw [List.nil_append] at ho4; obtain ⟨av', cv', rfl⟩ := ho4.rd.shape; have j1 := K1.out.below hb4 (by omega); have j2 := K2.out.below hb4 (by omega); have d0 := j1.cell 0; have d1 := j1.cell 1; have d2 := j1.cell 2; have d3 := j1.cell 3; have d4 := j1.cell 4; have f4 := j1.frozen 4; have e0 := j2.cell 0; have e1 := j2.cell 1; have e2 := j2.cell 2; have e3 := j2.cell 3; have e4 := j2.cell 4; have g0 := j2.frozen 0; have g1 := j2.frozen 1; have g2 := j2.frozen 2; have g3 := j2.frozen 3; have g4 := j2.frozen 4; simp only [acZ, List.getElem?_cons_zero, List.getElem?_cons_succ] at d0 d1 d2 d3 d4 e0 e1 e2 e3 e4; have hl4 := hb4.size)
  refine bodyPost_ret (v := .agg #[.string nm, .int .i64 fr, .int .i64 no, .int .i64 st, .slice av' ls.length cv']) (by simp [results, Tryz.f159, go_sem, e0, e1, e2, e3, e4]) rfl ?_
  have n1 : ∀ k, (Value.slice av' ls.length cv').ownBlock = some k → k ≠ w.heap.size := fun k hk => by have := ho4.ge k hk; omega
  have n2 : ∀ k, (Value.slice av' ls.length cv').ownBlock = some k → k ≠ w.heap.size + 1 := fun k hk => by have := ho4.ge k hk; omega
  have HB4 := HB3.out.trans (hb4.mono (by omega))
  refine ⟨_, rfl, row_set (row_set (row_set (row_set (row_set (row_set (ho4.mono (by omega)) _ _ _ n1) _ _ _ n2) _ _ _ n2) _ _ _ n2) _ _ _ n2) _ _ _ n2, ?_⟩
  exact (((((HB4.setCell (p := ⟨w.heap.size, 4, none⟩) (by show w.heap.size ≤ w.heap.size; omega) _).setCell (p := ⟨w.heap.size + 1, 0, none⟩) (by show w.heap.size ≤ w.heap.size + 1; omega) _).setCell (p := ⟨w.heap.size + 1, 1, none⟩) (by show w.heap.size ≤ w.heap.size + 1; omega) _).setCell (p := ⟨w.heap.size + 1, 2, none⟩) (by show w.heap.size ≤ w.heap.size + 1; omega) _).setCell (p := ⟨w.heap.size + 1, 3, none⟩) (by show w.heap.size ≤ w.heap.size + 1; omega) _).setCell (p := ⟨w.heap.size + 1, 4, none⟩) (by show w.heap.size ≤ w.heap.size + 1; omega) _
set_option maxRecDepth 20000 in
set_option maxHeartbeats 1000000 in
theorem implCopiedS_any (v : Value) (l : List Ac) (w : World) (hr : RdA w v l) (hl : l.length ≤ 4000000) (hall : ∀ a ∈ l, a.2.2.2.2.length ≤ 4000000) :
    Calls Tryz.prog 92 #[v] w fun e w' => ∃ v', e = .returned v' ∧ OwnA w.heap.size w' v' l ∧ Below w.heap.size w w' := by
  obtain ⟨i0, hi, hz0, hz1, hz2⟩ := info_parts Tryz.infoAc
  rcases hr with ⟨a, cap, rfl, rfl, -⟩ | ⟨b, off, cap, h0, rfl, h1, h2, h3, h4⟩
  · go_enter Tryz.func92, Tryz.ntmps92
    go_wp2_with (refine wpList_make_own _ rfl _ _ 24 rfl w.heap.size 72 i0 (.agg #[.string { data := #[] }, .int .i64 0, .int .i64 0, .int .i64 0, .slice none 0 0]) 5 Tryz.underlying24 hi hz0 hz1 .i64 .i64 _ 0 rfl rfl rfl (by omega) (by unfold maxLen; omega) (Nat.le_refl _) ?_; intro w1 hown hgrow)
    have hb1 : Below w.heap.size w w1 := (Below.refl _ _).grown hgrow (Nat.le_refl _) (by intro k hk; cases hk)
    refine wp_loop_rounds 1 ?_
    rw [rounds_succ]
    go_wp2
    go_ret
    exact ⟨_, rfl, OwnA.of_row (Z := []) hown (Lvs.nil _ _ _), hb1⟩
  · have H4 := hide h4
    have Hall := hide hall
    clear h4 hall
    go_enter Tryz.func92, Tryz.ntmps92
    go_wp2_with (refine wpList_make_own _ rfl _ _ 24 rfl w.heap.size 72 i0 (.agg #[.string { data := #[] }, .int .i64 0, .int .i64 0, .int .i64 0, .slice none 0 0]) 5 Tryz.underlying24 hi hz0 hz1 .i64 .i64 _ l.length rfl rfl rfl (by rw [hz2]; omega) (by unfold maxLen; omega) (Nat.le_refl _) ?_; intro w1 hown hgrow)
    have hb1 : Below w.heap.size w w1 := (Below.refl _ _).grown hgrow (Nat.le_refl _) (by intro k hk; cases hk)
    go_loopw [3, 11] (fun ov iv wr => ∃ (k g c : Nat) (Z : List (Ac × Value)), k ≤ l.length ∧ iv = .int .i64 k ∧ ov = .slice (some ⟨g, 0, none⟩) k c ∧ Z.map (·.1) = l.take k ∧ RowA w.heap.size wr ov Z ∧ Lvs w.heap.size wr g Z ∧ Below w.heap.size w wr) (fun _ iv _ => l.length - (intOf iv).toNat)
    case atStart => exact ⟨0, _, _, [], Nat.zero_le _, rfl, rfl, rfl, hown, Lvs.nil _ _ _, hb1⟩
    case round =>
      obtain ⟨k, g, c, Z, hk, rfl, rfl, hZ, ho, hlv, hb⟩ := hrel
      clear hown hgrow hb1
      have hZl : Z.length = k := by have := congrArg List.length hZ; simp at this; omega
      by_cases hlt : k < l.length
      · obtain ⟨lv, hat, hrl⟩ := H4.out k hlt
        obtain ⟨c0, c1, c2, c3, c4⟩ := hat.below hb h3
        have hli : (k : Int) < (l.length : Int) := by omega
        have hbb : b < wr.heap.size := Nat.lt_of_lt_of_le h3 hb.size
        have hgl : g < wr.heap.size := ho.lt g rfl
        have hshape := hrl.shape
        have Hrl := hide (hrl.below hb (Nat.le_refl _))
        have hls := Hall.out l[k] (List.getElem_mem _)
        have HZ2 : Hid (∀ lv' : Value, (Z ++ [(l[k], lv')]).map (·.1) = l.take (k + 1)) := hide (fun lv' => by rw [List.map_append, hZ, List.take_succ_eq_append_getElem hlt]; rfl)
        have Ho := hide ho
        have Hlv := hide hlv
        clear hat hrl ho hlv hZ
        generalize l[k] = ak at c0 c1 c2 c3 hshape Hrl hls HZ2
        obtain ⟨nm, fr, no, st, ls⟩ := ak
        obtain ⟨av, cv, rfl⟩ := hshape
        simp only at c0 c1 c2 c3 Hrl hls
        obtain ⟨w1, hw1⟩ : ∃ w1, wr.alloc (.cells #[.string nm, .int .i64 fr, .int .i64 no, .int .i64 st, .slice av ls.length cv] 72) = w1 := ⟨_, rfl⟩
        have hA : Below wr.heap.size wr w1 := by rw [← hw1]; exact (Below.refl _ wr).alloc (Nat.le_refl _) _
        have hk1 : Blk w1 wr.heap.size 72 [.string nm, .int .i64 fr, .int .i64 no, .int .i64 st, .slice av ls.length cv] := by rw [← hw1]; exact Blk.new wr _ _
        have HC := hide (implCopied_any (nm, fr, no, st, ls) (.slice av ls.length cv) w1 (Hrl.out.below hA (Nat.le_refl _)) hls)
        simp only [acV] at HC
        have hlt1 := hk1.lt
        have e0 := hk1.cell 0
        have e1 := hk1.cell 1
        have e2 := hk1.cell 2
        have e3 := hk1.cell 3
        have e4 := hk1.cell 4
        simp only [List.getElem?_cons_zero, List.getElem?_cons_succ] at e0 e1 e2 e3 e4
        go_wp2_with (first
          | (go_at_call 159; refine HC.out.mono ?_; rintro e w2 ⟨lv', rfl, ho2, hb2⟩; obtain ⟨av', cv', rfl⟩ := ho2.rd.shape; have hB2 := hA.trans (hb2.mono hA.size))
          | (at_builtin; refine app_ownA _ rfl _ _ rfl w.heap.size _ _ Z ((nm, fr, no, st, ls), .slice av' ls.length cv') rfl rfl (World.ownsRow.alloc (Ho.out.below hB2 (Nat.le_refl _)) _) (Blk.new' _ _ (acC ((nm, fr, no, st, ls), .slice av' ls.length cv')) _ rfl) rfl (by omega) (by have := hb.size; have := hB2.size; simp; omega) ?_; intro v' w4 hrow hgr hnn hloc))
        have hB : Below w.heap.size w (w2.alloc (.cells #[.string nm, .int .i64 fr, .int .i64 no, .int .i64 st, .slice av' ls.length cv'] 72)) := (hb.trans (hB2.mono hb.size)).alloc (by have := hb.size; have := hB2.size; omega) _
        obtain ⟨g', c', rfl, hlv'⟩ := rowA_step (Hlv.out.below hB2 (Nat.le_refl _)) (ho2.mono (by have := hb.size; have := hA.size; omega)) (fun j hj => by have := ho2.ge j hj; have := hA.size; omega)
          (fun i hi j hj e => by have := (Hlv.out.own i hi).lt j hj; have := ho2.ge j e; have := hA.size; omega) ((Below.refl _ w2).alloc (Nat.le_refl _) _) hgr hrow hnn hloc
        go_roundw
        case rel =>
          refine ⟨k + 1, g', c', _, by omega, by go_num, by simp [hZl], HZ2.out _, hrow, hlv', hB.grown hgr (by have := hb.size; have := hB2.size; simp; omega) (fun j hj => by cases hj; exact Ho.out.ge g rfl)⟩
        case measure => simp [intOf]; omega
      · have e : k = l.length := by omega
        subst e
        rw [List.take_length] at hZ
        go_wp2
        go_ret
        have := OwnA.of_row (cap := c) (g := g) (Z := Z) (by rw [hZl]; exact ho) hlv
        rw [hZ, hZl] at this
        exact ⟨_, rfl, this, hb⟩
set_option maxRecDepth 20000 in
set_option maxHeartbeats 1000000 in
theorem specCopy_any (v : Value) (l : List Ac) (w : World) (hr : RdA w v l) (hl : l.length ≤ 4000000) (hall : ∀ a ∈ l, a.2.2.2.2.length ≤ 4000000) :
    Calls Tryz.prog 193 #[v] w fun e w' => ∃ v', e = .returned v' ∧ OwnA w.heap.size w' v' l ∧ Below w.heap.size w w' := by
  rcases hr with ⟨a, cap, rfl, rfl, -⟩ | ⟨b, off, cap, h0, rfl, h1, h2, h3, h4⟩
  · go_enter Tryz.func193, Tryz.ntmps193
    have hown := row_nilA w w.heap.size (Nat.le_refl _)
    have hb1 : Below w.heap.size w (w.alloc (.cells #[] 72)) := (Below.refl _ _).alloc (Nat.le_refl _) _
    go_wp2
    refine wp_loop_rounds 1 ?_
    rw [rounds_succ]
    go_wp2
    go_ret
    exact ⟨_, rfl, OwnA.of_row (Z := []) hown (Lvs.nil _ _ _), hb1⟩
  · have H4 := hide h4
    have Hall := hide hall
    clear h4 hall
    go_enter Tryz.func193, Tryz.ntmps193
    have hown := hide (row_nilA w w.heap.size (Nat.le_refl _))
    have hb1 : Hid (Below w.heap.size w (w.alloc (.cells #[] 72))) := hide ((Below.refl _ _).alloc (Nat.le_refl _) _)
    go_wp2
    go_loopw [3, 4] (fun ov iv wr => ∃ (k g c : Nat) (Z : List (Ac × Value)), k ≤ l.length ∧ iv = .int .i64 k ∧ ov = .slice (some ⟨g, 0, none⟩) k c ∧ Z.map (·.1) = l.take k ∧ RowA w.heap.size wr ov Z ∧ Lvs w.heap.size wr g Z ∧ Below w.heap.size w wr) (fun _ iv _ => l.length - (intOf iv).toNat)
    case atStart => exact ⟨0, _, _, [], Nat.zero_le _, rfl, rfl, rfl, hown.out, Lvs.nil _ _ _, hb1.out⟩
    case round =>
      obtain ⟨k, g, c, Z, hk, rfl, rfl, hZ, ho, hlv, hb⟩ := hrel
      clear hown hb1
      have hZl : Z.length = k := by have := congrArg List.length hZ; simp at this; omega
      by_cases hlt : k < l.length
      · obtain ⟨lv, hat, hrl⟩ := H4.out k hlt
        obtain ⟨c0, c1, c2, c3, c4⟩ := hat.below hb h3
        have hli : (k : Int) < (l.length : Int) := by omega
        have hbb : b < wr.heap.size := Nat.lt_of_lt_of_le h3 hb.size
        have hgl : g < wr.heap.size := ho.lt g rfl
        have hshape := hrl.shape
        have Hrl := hide (hrl.below hb (Nat.le_refl _))
        have hls := Hall.out l[k] (List.getElem_mem _)
        have HZ2 : Hid (∀ lv' : Value, (Z ++ [(l[k], lv')]).map (·.1) = l.take (k + 1)) := hide (fun lv' => by rw [List.map_append, hZ, List.take_succ_eq_append_getElem hlt]; rfl)
        have Ho := hide ho
        have Hlv := hide hlv
        clear hat hrl ho hlv hZ
        generalize l[k] = ak at c0 c1 c2 c3 hshape Hrl hls HZ2
        obtain ⟨nm, fr, no, st, ls⟩ := ak
        obtain ⟨av, cv, rfl⟩ := hshape
        simp only at c0 c1 c2 c3 Hrl hls
        obtain ⟨w1, hw1⟩ : ∃ w1, wr.alloc (.cells #[.string nm, .int .i64 fr, .int .i64 no, .int .i64 st, .slice av ls.length cv] 72) = w1 := ⟨_, rfl⟩
        have hA : Below wr.heap.size wr w1 := by rw [← hw1]; exact (Below.refl _ wr).alloc (Nat.le_refl _) _
        have hk1 : Blk w1 wr.heap.size 72 [.string nm, .int .i64 fr, .int .i64 no, .int .i64 st, .slice av ls.length cv] := by rw [← hw1]; exact Blk.new wr _ _
        have hs1 : w1.heap.size = wr.heap.size + 1 := by rw [← hw1]; simp
        obtain ⟨w2, hw2⟩ : ∃ w2, w1.alloc (.cells #[] 74) = w2 := ⟨_, rfl⟩
        have hA2 : Below w1.heap.size w1 w2 := by rw [← hw2]; exact (Below.refl _ w1).alloc (Nat.le_refl _) _
        have hs2 : w2.heap.size = wr.heap.size + 2 := by rw [← hw2]; simp; omega
        have Ho3 : Hid (OwnL (wr.heap.size + 1) w2 (.slice (some ⟨wr.heap.size + 1, 0, none⟩) 0 0) []) := hide (by rw [← hw2, ← hs1]; exact own_nilL w1 _ (Nat.le_refl _))
        have Hr3 : Hid (RdL w2 (.slice av ls.length cv) ls) := hide ((Hrl.out.below hA (Nat.le_refl _)).below hA2 (Nat.le_refl _))
        have HK := hide (hk1.below hA2 (by omega))
        have HA2 : Hid (Below wr.heap.size wr w2) := hide (hA.trans (hA2.mono hA.size))
        have e4 := HK.out.cell 4
        simp only [List.getElem?_cons_zero, List.getElem?_cons_succ] at e4
        clear hk1 hA hA2
        go_wp2_with (first
          | (at_builtin; refine app_ownL _ rfl _ _ rfl (wr.heap.size + 1) _ _ [] ls rfl rfl Ho3.out Hr3.out (by simp; omega) (by omega) ?_; intro lv' w3 ho4 hb4; rw [List.nil_append] at ho4; obtain ⟨av', cv', rfl⟩ := ho4.rd.shape; have j1 := HK.out.below hb4 (by omega); have d0 := j1.cell 0; have d1 := j1.cell 1; have d2 := j1.cell 2; have d3 := j1.cell 3; have d4 := j1.cell 4; have f4 := j1.frozen 4; simp only [List.getElem?_cons_zero, List.getElem?_cons_succ] at d0 d1 d2 d3 d4; have hl4 := hb4.size; have hB2 := (HA2.out.trans (hb4.mono (by omega))).setCell (p := ⟨wr.heap.size, 4, none⟩) (Nat.le_refl _) (.slice av' ls.length cv'); have ho2 := row_set ho4 wr.heap.size 4 (.slice av' ls.length cv') (fun k hk => by have := ho4.ge k hk; omega))
          | (at_builtin; refine app_ownA _ rfl _ _ rfl w.heap.size _ _ Z ((nm, fr, no, st, ls), .slice av' ls.length cv') rfl rfl (World.ownsRow.alloc (Ho.out.below hB2 (Nat.le_refl _)) _) (Blk.new' _ _ (acC ((nm, fr, no, st, ls), .slice av' ls.length cv')) _ (by simp)) rfl (by omega) (by have := hb.size; have := hB2.size; simp at this ⊢; omega) ?_; intro v' w4 hrow hgr hnn hloc))
        have hB : Below w.heap.size w ((w3.setCell ⟨wr.heap.size, 4, none⟩ (.slice av' ls.length cv')).alloc (.cells #[.string nm, .int .i64 fr, .int .i64 no, .int .i64 st, .slice av' ls.length cv'] 72)) := (hb.trans (hB2.mono hb.size)).alloc (by have := hb.size; have := hB2.size; omega) _
        have ho2 : OwnL (wr.heap.size + 1) (w3.setCell ⟨wr.heap.size, 4, none⟩ (.slice av' ls.length cv')) (.slice av' ls.length cv') ls := ho2
        obtain ⟨g', c', rfl, hlv'⟩ := rowA_step (q := ((nm, fr, no, st, ls), .slice av' ls.length cv')) (Hlv.out.below hB2 (Nat.le_refl _)) (OwnL.mono ho2 (by have := hb.size; omega)) (fun j hj => by have := OwnL.ge ho2 j hj; omega)
          (fun i hi j hj e => by have := (Hlv.out.own i hi).lt j hj; have := OwnL.ge ho2 j e; omega) ((Below.refl _ _).alloc (Nat.le_refl _) _) hgr hrow hnn hloc
        go_roundw
        case rel =>
          refine ⟨k + 1, g', c', _, by omega, by go_num, by simp [hZl], HZ2.out _, hrow, hlv', hB.grown hgr (by have := hb.size; have := hB2.size; simp; omega) (fun j hj => by cases hj; exact Ho.out.ge g rfl)⟩
        case measure => simp [intOf]; omega
      · have e : k = l.length := by omega
        subst e
        rw [List.take_length] at hZ
        go_wp2
        go_ret
        have := OwnA.of_row (cap := c) (g := g) (Z := Z) (by rw [hZl]; exact ho) hlv
        rw [hZ, hZl] at this
        exact ⟨_, rfl, this, hb⟩
end Go.Proofs.YtkjlmnhdmlolmaaGreatDoor
