/- Orders put behind others, and copied. -/
import Derived.Test.YtbjeonnaannofaaTxRow
import Derived.Maps.AppendAt
import Derived.Laws.AppendOwnNone
namespace Go.Proofs.Ytbjeonnaannofaa
open Go.RowKit
set_option linter.unusedVariables false

theorem add_flatT (b off i : Nat) : (⟨b, off, none⟩ : Addr).add i = ⟨b, off + i, none⟩ := by
  simp [Addr.add]
theorem own_nilT (w : World) (base : Nat) (h : base ≤ w.heap.size) : OwnT base (w.alloc (.cells #[] 94)) (.slice (some ⟨w.heap.size, 0, none⟩) 0 0) [] :=
  World.ownsRow_lit w #[] 0 h (by unfold maxLen; omega) (by simp)
theorem rdT_cells {w : World} {b off : Nat} {k : List Tx5} (h4 : ∀ i (h : i < k.length), TxAt w b (off + i * 5) k[i]) :
    ∀ j u, (k.map txC).flatten[j]? = some u → w.cell? ((⟨b, off, none⟩ : Addr).add j) = some u := by
  intro j u hj
  have hjl : j < (k.map txC).flatten.length := (List.getElem?_eq_some_iff.1 hj).1
  rw [flat_len 5 _ (txM_sz k), List.length_map] at hjl
  have h1 : j / 5 < k.length := by omega
  have h2 : j % 5 < 5 := Nat.mod_lt _ (by omega)
  have e := flat_get 5 (k.map txC) (j / 5) (j % 5) (by simpa using h1) (txM_sz k) h2
  rw [show j / 5 * 5 + j % 5 = j from by omega, hj, List.getElem_map] at e
  obtain ⟨c0, c1, c2, c3, c4⟩ := h4 (j / 5) h1
  rw [add_flatT, show off + j = off + j / 5 * 5 + j % 5 from by omega]
  generalize j % 5 = m at e h2
  match m, h2 with
  | 0, _ => rw [Nat.add_zero, c0]; simpa [txC] using e.symm
  | 1, _ => rw [c1]; simpa [txC] using e.symm
  | 2, _ => rw [c2]; simpa [txC] using e.symm
  | 3, _ => rw [c3]; simpa [txC] using e.symm
  | 4, _ => rw [c4]; simpa [txC] using e.symm
theorem app_ownTs {ops : Array Oper} {rest : List Oper} {o : Oper} {a : Act} {Q : Exit → Act → World → Prop} (w : World) (hgd : o.guard = none) (s x : Operand)
    (ho : o.op = .call { callee := .builtin .append, args := #[s, x], argTypes := #[34, 34] })
    (base : Nat) (v vx : Value) (l k : List Tx5) (hs : a.eval s = v) (hx : a.eval x = vx) (hown : OwnT base w v l) (hrd : RdT w vx k)
    (hlen : l.length + k.length ≤ 100000000) (hbase : base ≤ w.heap.size)
    (h : ∀ v' w', OwnT base w' v' (l ++ k) → Below base w w' → wpList Try.prog ops Q rest (a.put o.dst v') w') : wpList Try.prog ops Q (o :: rest) a w := by
  obtain ⟨i0, hi, hz0, hz1, hz2⟩ := info_parts Try.infoTx
  have hbel : ∀ w', w.grownBy w' v.ownBlock → Below base w w' := fun w' hg => (Below.refl _ _).grown hg hbase (fun k hk => (World.ownsRow.lt hown k hk).1)
  rcases hrd with ⟨ax, cap, rfl, rfl, hnil⟩ | ⟨b, off, cap, h0, rfl, h1, h2, h3, h4⟩
  · cases ax with
    | none =>
      have hc : cap = 0 := hnil rfl
      subst hc
      refine wpList_append_own_none hgd s x 34 ho base 94 i0 5 Try.underlying34 hi v l.length (l.map txC).flatten hs hown hx ?_
      exact h v w (by simpa [OwnT] using hown) (Below.refl _ _)
    | some ad =>
      refine wpList_append_own w hgd s x 34 ho base 94 i0 (.agg #[.int .i64 0, .string { data := #[] }, .string { data := #[] }, .int .i64 0, .int .i64 0]) 5 56 Try.underlying34 hi hz0 hz1 hz2 rfl (by decide) v l.length (l.map txC).flatten hs hown ad 0 cap [] hx rfl (by intro j u hj; simp at hj) (by intro u hu; simp at hu) (by unfold maxLen; simp at hlen; omega) (by simp at hlen; omega) hbase ?_
      intro v' w' ho' hg _
      exact h v' w' (by simpa [OwnT] using ho') (hbel w' hg)
  · refine wpList_append_own w hgd s x 34 ho base 94 i0 (.agg #[.int .i64 0, .string { data := #[] }, .string { data := #[] }, .int .i64 0, .int .i64 0]) 5 56 Try.underlying34 hi hz0 hz1 hz2 rfl (by decide) v l.length (l.map txC).flatten hs hown ⟨b, off, none⟩ k.length cap (k.map txC).flatten hx (by rw [flat_len 5 _ (txM_sz k), List.length_map]) (rdT_cells h4) ?_ (by unfold maxLen; omega) (by omega) hbase ?_
    · intro u hu
      obtain ⟨c, hc, hu⟩ := List.mem_flatten.1 hu
      obtain ⟨p, _, rfl⟩ := List.mem_map.1 hc
      simp only [txC, List.mem_cons, List.not_mem_nil, or_false] at hu
      rcases hu with rfl | rfl | rfl | rfl | rfl <;> rfl
    · intro v' w' ho' hg _
      exact h v' w' (by simpa [OwnT] using ho') (hbel w' hg)
/-- One order, in a block of its own, is put behind others. -/
theorem app_ownT1 {ops : Array Oper} {rest : List Oper} {o : Oper} {a : Act} {Q : Exit → Act → World → Prop} (w : World) (hgd : o.guard = none) (s x : Operand)
    (ho : o.op = .call { callee := .builtin .append, args := #[s, x], argTypes := #[34, 34] })
    (base : Nat) (v : Value) (B : Nat) (l : List Tx5) (t : Tx5) (hs : a.eval s = v) (hx : a.eval x = .slice (some ⟨B, 0, none⟩) 1 1) (hown : OwnT base w v l) (hblk : Blk w B 94 (txC t))
    (hlen : l.length ≤ 100000000) (hbase : base ≤ w.heap.size)
    (h : ∀ v' w', OwnT base w' v' (l ++ [t]) → w.grownBy w' v.ownBlock → (v'.ownBlock = v.ownBlock ∨ v'.ownBlock = some w.heap.size) → wpList Try.prog ops Q rest (a.put o.dst v') w') : wpList Try.prog ops Q (o :: rest) a w := by
  obtain ⟨i0, hi, hz0, hz1, hz2⟩ := info_parts Try.infoTx
  refine wpList_append_own_at w hgd s x 34 ho base 94 i0 _ 5 56 Try.underlying34 hi hz0 hz1 hz2 rfl (by decide) v l.length (l.map txC).flatten hs hown ⟨B, 0, none⟩ 1 1 (txC t) hx rfl ?_ ?_ (by unfold maxLen; omega) (by omega) hbase ?_
  · intro j u hj
    rw [add_flatT, Nat.zero_add, hblk.cell j]
    exact hj
  · intro u hu
    simp only [txC, List.mem_cons, List.not_mem_nil, or_false] at hu
    rcases hu with rfl | rfl | rfl | rfl | rfl <;> rfl
  · intro v' w' ho' hg _ hl
    exact h v' w' (by unfold OwnT; rw [List.length_append, List.map_append, List.flatten_append]; simpa using ho') hg hl
/-- The same as one step of a region that draws. -/
theorem step_appT1 {ops : Array Oper} {o : Oper} {a : Act} {w : World} {K : Act → World → Prop} {Q : Exit → Act → World → Prop} {E : Prop} (hgd : o.guard = none) (s x : Operand)
    (ho : o.op = .call { callee := .builtin .append, args := #[s, x], argTypes := #[34, 34] })
    (base : Nat) (v : Value) (B : Nat) (l : List Tx5) (t : Tx5) (hs : a.eval s = v) (hx : a.eval x = .slice (some ⟨B, 0, none⟩) 1 1) (hown : OwnT base w v l) (hblk : Blk w B 94 (txC t))
    (hlen : l.length ≤ 100000000) (hbase : base ≤ w.heap.size)
    (h : ∀ v' w', OwnT base w' v' (l ++ [t]) → w.grownBy w' v.ownBlock → (v'.ownBlock = v.ownBlock ∨ v'.ownBlock = some w.heap.size) → K (a.put o.dst v') w') : if Region.wanted o (yielded ops a.tmps) = true then Oper.wp Try.prog o a w K Q else E := by
  have hw : Region.wanted o (yielded ops a.tmps) = true := by simp [Region.wanted, hgd]
  rw [if_pos hw]
  obtain ⟨i0, hi, hz0, hz1, hz2⟩ := info_parts Try.infoTx
  obtain ⟨v', w', hr, h2, h3, h4, h5⟩ := run_append_own_at (P := Try.prog) w base 34 o.type 94 i0 _ 5 56 Try.underlying34 hi hz0 hz1 hz2 rfl (by decide) v l.length (l.map txC).flatten hown ⟨B, 0, none⟩ 1 1 (txC t) rfl (fun j u hj => by rw [add_flatT, Nat.zero_add, hblk.cell j]; exact hj) (fun u hu => by
    simp only [txC, List.mem_cons, List.not_mem_nil, or_false] at hu
    rcases hu with rfl | rfl | rfl | rfl | rfl <;> rfl) (by unfold maxLen; omega) (by omega) hbase
  unfold Oper.wp execOp
  simp only [ho, resolve, invoke, builtin, Sem.run_bind, Sem.run_pure, Result.andThen_ok, List.map_toArray, List.map_cons, List.map_nil, hs, hx, hr]
  exact h v' w' (by unfold OwnT; rw [List.length_append, List.map_append, List.flatten_append]; simpa using h2) h3 h5
set_option maxRecDepth 20000 in
theorem copiedTxs_any (v : Value) (l : List Tx5) (w : World) (hr : RdT w v l) (hl : l.length ≤ 4000000) :
    Calls Try.prog 97 #[v] w fun e w' => ∃ v', e = .returned v' ∧ OwnT w.heap.size w' v' l ∧ Below w.heap.size w w' := by
  obtain ⟨a, c, rfl⟩ := hr.shape
  have h1 : Below w.heap.size w (w.alloc (.cells #[] 94)) := (Below.refl _ w).alloc (Nat.le_refl _) _
  have Hr := hide (hr.below h1 (Nat.le_refl _))
  clear hr
  go_enter Try.func97, Try.ntmps97
  go_wp2_with (at_builtin; refine app_ownTs _ rfl _ _ rfl w.heap.size _ _ [] l rfl rfl (own_nilT w w.heap.size (Nat.le_refl _)) Hr.out (by simp; omega) (by simp) ?_; intro v' w' ho hb)
  go_ret
  exact ⟨v', rfl, ho, h1.trans hb⟩
end Go.Proofs.Ytbjeonnaannofaa
