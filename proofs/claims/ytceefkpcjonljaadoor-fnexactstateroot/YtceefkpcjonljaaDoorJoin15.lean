/- Slices of int that hold no number below 0: what a block reads as, what a call owns, append. Append onto numbers of the call's own: what was there can still be read where it was. -/
import Derived.Test.YtceefkpcjonljaaDoorJoin9
import Derived.Deep.RegionLaw
namespace Go.Proofs.YtceefkpcjonljaaDoor
open Go.RowKit
set_option linter.unusedVariables false

def iv (n : Nat) : Value := .int .i64 (n : Int)

/-- The block g can be read as the numbers l from its head on. -/
def An (w : World) (g : Nat) (l : List Nat) : Prop := g < w.heap.size ∧ ∀ i (h : i < l.length), w.cell? ⟨g, i, none⟩ = some (.int .i64 (l[i] : Int))
def OwnN (base : Nat) (w : World) (v : Value) (l : List Nat) : Prop := w.ownsRow base 3 1 v l.length (l.map iv)

theorem Tryd.infoInt : (Tryd.prog.info? 3).map (fun i => (i.zero, i.size, i.bytes)) = some (some (.int .i64 0), 1, 8) := by kernel_rfl

theorem An.below {B : Nat} {w w' : World} {g : Nat} {l : List Nat} (h : An w g l) (hb : Below B w w') (hg : g < B) : An w' g l :=
  ⟨by have := hb.size; have := h.1; omega, fun i hi => (hb.cell (p := ⟨g, i, none⟩) hg).trans (h.2 i hi)⟩
theorem An.alloc {w : World} {g : Nat} {l : List Nat} (h : An w g l) (o : Obj) : An (w.alloc o) g l := h.below ((Below.refl _ _).alloc (Nat.le_refl _) o) h.1
theorem An.drew {w : World} {g : Nat} {l : List Nat} (h : An w g l) : An w.drew g l := h.below (Below.refl _ _).drew h.1
theorem An.new (w : World) (g : Nat) (l : List Nat) (t : TypeId) (a : Array Value) (ha : a = (l.map iv).toArray) (hg : g = w.heap.size) : An (w.alloc (.cells a t)) g l := by
  subst ha; subst hg
  refine ⟨by simp, fun i hi => ?_⟩
  rw [World.cell?_alloc_at _ _ _ _ rfl]
  simp [hi, iv]

theorem OwnN.below {B base : Nat} {w w' : World} {v : Value} {l : List Nat} (h : OwnN base w v l) (hb : Below B w w') (hB : w.heap.size ≤ B) : OwnN base w' v l := by
  refine ⟨h.1, ?_⟩
  rcases h.2 with h' | ⟨g, cap, cur, hv, hbb, hg, r⟩
  · exact .inl h'
  · refine .inr ⟨g, cap, cur, hv, hbb, ?_, r⟩
    have hlt : g < w.heap.size := (Array.getElem?_eq_some_iff.1 hg).1
    rw [hb.block g (by omega)]; exact hg
theorem OwnN.mono {base base' : Nat} {w : World} {v : Value} {l : List Nat} (h : OwnN base w v l) (hB : base' ≤ base) : OwnN base' w v l := by
  refine ⟨h.1, ?_⟩
  rcases h.2 with h' | ⟨g, cap, cur, hv, hbb, r⟩
  · exact .inl h'
  · exact .inr ⟨g, cap, cur, hv, by omega, r⟩
theorem OwnN.alloc {base : Nat} {w : World} {v : Value} {l : List Nat} (h : OwnN base w v l) (o : Obj) : OwnN base (w.alloc o) v l := World.ownsRow.alloc h o
theorem OwnN.drew {base : Nat} {w : World} {v : Value} {l : List Nat} (h : OwnN base w v l) : OwnN base w.drew v l := h
theorem own_nilN (w : World) (base : Nat) (h : base ≤ w.heap.size) : OwnN base (w.alloc (.cells #[] 3)) (.slice (some ⟨w.heap.size, 0, none⟩) 0 0) [] :=
  World.ownsRow_lit w #[] 0 h (by unfold maxLen; omega) (by simp)
theorem OwnN.open {base : Nat} {w : World} {v : Value} {l : List Nat} (h : OwnN base w v l) (hl : l ≠ []) : ∃ g cap, v = .slice (some ⟨g, 0, none⟩) l.length cap ∧ l.length ≤ cap ∧ cap ≤ maxLen ∧ base ≤ g ∧ An w g l ∧ ∀ i, w.frozen? ⟨g, i, none⟩ = false := by
  rcases h.2 with ⟨hv, hn⟩ | ⟨g, cap, cur, hv, hb, hg, hnc, hcm, hcs, ht⟩
  · exact absurd (List.length_eq_zero_iff.1 hn) hl
  · have h' : w.ownsRow base 3 1 (.slice (some ⟨g, 0, none⟩) l.length cap) l.length (l.map iv) := hv ▸ h
    refine ⟨g, cap, hv, hnc, hcm, hb, ⟨(Array.getElem?_eq_some_iff.1 hg).1, fun i hi => ?_⟩, fun i => h'.frozenAt i⟩
    rw [h'.cellAt i (by omega)]
    simp [hi, iv]
theorem OwnN.someOf {base : Nat} {w : World} {v : Value} {l : List Nat} (h : OwnN base w v l) : (v = .slice none 0 0 ∧ l = []) ∨ ∃ g cap, v = .slice (some ⟨g, 0, none⟩) l.length cap ∧ base ≤ g ∧ An w g l := by
  rcases h.2 with ⟨hv, hn⟩ | ⟨g, cap, cur, hv, hb, hg, hnc, hcm, hcs, ht⟩
  · exact .inl ⟨hv, List.length_eq_zero_iff.1 hn⟩
  · have h' : w.ownsRow base 3 1 (.slice (some ⟨g, 0, none⟩) l.length cap) l.length (l.map iv) := hv ▸ h
    refine .inr ⟨g, cap, hv, hb, ⟨(Array.getElem?_eq_some_iff.1 hg).1, fun i hi => ?_⟩⟩
    rw [h'.cellAt i (by omega)]
    simp [hi, iv]

theorem an_src {w : World} {g : Nat} {k : List Nat} (hrd : An w g k) (j : Nat) (u : Value) (hj : (k.map iv)[j]? = some u) : w.cell? ((⟨g, 0, none⟩ : Addr).add j) = some u := by
  have hj' : j < k.length := by have := (List.getElem?_eq_some_iff.1 hj).1; simpa using this
  have ea : (⟨g, 0, none⟩ : Addr).add j = ⟨g, j, none⟩ := by
    by_cases hz : j = 0
    · subst hz; simp [Addr.add]
    · simp [Addr.add, hz]
  rw [ea, hrd.2 j hj']
  simp [hj', iv] at hj
  rw [← hj]

theorem step_app_ownN {ops : Array Oper} {o : Oper} {a : Act} {w : World} {K : Act → World → Prop} {Q : Exit → Act → World → Prop} {E : Prop} (hgd : o.guard = none) (s x : Operand)
    (ho : o.op = .call { callee := .builtin .append, args := #[s, x], argTypes := #[67, 67] })
    (base g n cap : Nat) (v : Value) (l k : List Nat) (hs : a.eval s = v) (hx : a.eval x = .slice (some ⟨g, 0, none⟩) n cap) (hn : k.length = n) (hown : OwnN base w v l) (hrd : An w g k)
    (hlen : l.length + k.length ≤ 100000000) (hbase : base ≤ w.heap.size)
    (h : ∀ v' w', OwnN base w' v' (l ++ k) → Below base w w' → K (a.put o.dst v') w') : if Region.wanted o (yielded ops a.tmps) = true then Oper.wp Tryd.prog o a w K Q else E := by
  have hw : Region.wanted o (yielded ops a.tmps) = true := by simp [Region.wanted, hgd]
  rw [if_pos hw]
  subst hn
  obtain ⟨i0, hi, hz0, hz1, hz2⟩ := info_parts Tryd.infoInt
  have hbel : ∀ w', w.grownBy w' v.ownBlock → Below base w w' := fun w' hg => (Below.refl _ _).grown hg hbase (fun k hk => (World.ownsRow.lt hown k hk).1)
  refine wp_append_own w s x 67 ho base 3 i0 (.int .i64 0) 1 8 Tryd.underlying67 hi hz0 hz1 hz2 rfl (by decide) v l.length (l.map iv) hs hown ⟨g, 0, none⟩ k.length cap (k.map iv) hx (by simp) (fun j u hj => an_src hrd j u hj) ?_ (by unfold maxLen; omega) (by omega) hbase ?_
  · intro u hu
    obtain ⟨c, _, rfl⟩ := List.mem_map.1 hu
    rfl
  · intro v' w' ho' hg _
    exact h v' w' (by simpa [OwnN] using ho') (hbel w' hg)

theorem app_ownN {ops : Array Oper} {rest : List Oper} {o : Oper} {a : Act} {Q : Exit → Act → World → Prop} (w : World) (hgd : o.guard = none) (s x : Operand)
    (ho : o.op = .call { callee := .builtin .append, args := #[s, x], argTypes := #[67, 67] })
    (base g n cap : Nat) (v : Value) (l k : List Nat) (hs : a.eval s = v) (hx : a.eval x = .slice (some ⟨g, 0, none⟩) n cap) (hn : k.length = n) (hown : OwnN base w v l) (hrd : An w g k)
    (hlen : l.length + k.length ≤ 100000000) (hbase : base ≤ w.heap.size)
    (h : ∀ v' w', OwnN base w' v' (l ++ k) → Below base w w' → wpList Tryd.prog ops Q rest (a.put o.dst v') w') : wpList Tryd.prog ops Q (o :: rest) a w := by
  subst hn
  obtain ⟨i0, hi, hz0, hz1, hz2⟩ := info_parts Tryd.infoInt
  have hbel : ∀ w', w.grownBy w' v.ownBlock → Below base w w' := fun w' hg => (Below.refl _ _).grown hg hbase (fun k hk => (World.ownsRow.lt hown k hk).1)
  refine wpList_append_own w hgd s x 67 ho base 3 i0 (.int .i64 0) 1 8 Tryd.underlying67 hi hz0 hz1 hz2 rfl (by decide) v l.length (l.map iv) hs hown ⟨g, 0, none⟩ k.length cap (k.map iv) hx (by simp) (fun j u hj => an_src hrd j u hj) ?_ (by unfold maxLen; omega) (by omega) hbase ?_
  · intro u hu
    obtain ⟨c, _, rfl⟩ := List.mem_map.1 hu
    rfl
  · intro v' w' ho' hg _
    exact h v' w' (by simpa [OwnN] using ho') (hbel w' hg)
end Go.Proofs.YtceefkpcjonljaaDoor

namespace Go.Proofs.YtceefkpcjonljaaDoor
open Go.RowKit
set_option linter.unusedVariables false

theorem run_app_keepN (w : World) (ty : TypeId) (base g gx n cx cap : Nat) (l k : List Nat) (hn : k.length = n) (hown : OwnN base w (.slice (some ⟨g, 0, none⟩) l.length cap) l) (hrd : An w gx k)
    (hlen : l.length + k.length ≤ 100000000) (hbase : base ≤ w.heap.size) :
    ∃ v' w', (Builtin.append_ #[67, 67] ty #[.slice (some ⟨g, 0, none⟩) l.length cap, .slice (some ⟨gx, 0, none⟩) n cx]).run Tryd.prog w = .ok v' w' ∧ OwnN base w' v' (l ++ k) ∧ Below base w w' ∧ An w' g l := by
  subst hn
  obtain ⟨i0, hi, hz0, hz1, hz2⟩ := info_parts Tryd.infoInt
  have hone : ∀ u ∈ k.map iv, u.oneCell' = true := by
    intro u hu
    obtain ⟨c, _, rfl⟩ := List.mem_map.1 hu
    rfl
  obtain ⟨v', w', hr, ho, hg, _⟩ := run_append_own (P := Tryd.prog) w base 67 ty 3 i0 (.int .i64 0) 1 8 Tryd.underlying67 hi hz0 hz1 hz2 rfl (by decide) _ l.length (l.map iv) hown ⟨gx, 0, none⟩ k.length cx (k.map iv) (by simp) (fun j u hj => an_src hrd j u hj) hone (by unfold maxLen; omega) (by omega) hbase
  have ho' : OwnN base w' v' (l ++ k) := by simpa [OwnN] using ho
  refine ⟨v', w', hr, ho', (Below.refl _ _).grown hg hbase (fun k hk => (World.ownsRow.lt hown k hk).1), ?_⟩
  rcases hown.2 with ⟨hv, _⟩ | ⟨g', cap', cur, hv, hbg, hgc, hnc, hcm, hcs, htake⟩
  · simp at hv
  · simp only [Value.slice.injEq, Option.some.injEq, Addr.mk.injEq, and_true, true_and] at hv
    obtain ⟨rfl, rfl⟩ := hv
    have hgl : g < w.heap.size := (Array.getElem?_eq_some_iff.1 hgc).1
    by_cases hroom : l.length + k.length ≤ cap
    · have hr2 := run_append_room (P := Tryd.prog) w 67 ty 3 i0 Tryd.underlying67 hi g l.length cap cur hgc ⟨gx, 0, none⟩ k.length cx (k.map iv) (by simp [hz1]) (fun j u hj => an_src hrd j u hj) hone hroom (by simp [hz1, hcs]; omega)
      rw [hr] at hr2
      injection hr2 with e1 e2
      subst e1
      refine ⟨by have := hg.size; omega, fun i hi' => ?_⟩
      have h' : w'.ownsRow base 3 1 (.slice (some ⟨g, 0, none⟩) (l.length + k.length) cap) (l.length + k.length) ((l ++ k).map iv) := by simpa using ho
      rw [h'.cellAt i (by omega)]
      simp [iv, List.getElem?_append_left, hi']
    · have holds : ∀ j u, (l.map iv)[j]? = some u → w.cell? ((⟨g, 0, none⟩ : Addr).add j) = some u := World.ownsRow.cells hown (g := g) rfl
      have hr2 := run_append_grow (P := Tryd.prog) w 67 ty 3 i0 (.int .i64 0) Tryd.underlying67 hi hz0 ⟨g, 0, none⟩ l.length cap (l.map iv) (by simp [hz1]) holds ⟨gx, 0, none⟩ k.length cx (k.map iv) (by simp [hz1]) (fun j u hj => an_src hrd j u hj) (by omega) (by omega) (growslice_fits (by omega) (by rw [hz2]; omega))
      rw [hr] at hr2
      injection hr2 with e1 e2
      subst e2
      refine An.below (B := w.heap.size) ⟨hgl, fun i hi' => ?_⟩ ((Below.refl _ _).drew.alloc (Nat.le_refl _) _) hgl
      rw [World.ownsRow.cellAt hown i (by omega)]
      simp [hi', iv]

theorem step_app_keepN {ops : Array Oper} {o : Oper} {a : Act} {w : World} {K : Act → World → Prop} {Q : Exit → Act → World → Prop} {E : Prop} (hgd : o.guard = none) (s x : Operand)
    (ho : o.op = .call { callee := .builtin .append, args := #[s, x], argTypes := #[67, 67] })
    (base g m cap gx n cx : Nat) (l k : List Nat) (hs : a.eval s = .slice (some ⟨g, 0, none⟩) m cap) (hm : l.length = m) (hx : a.eval x = .slice (some ⟨gx, 0, none⟩) n cx) (hn : k.length = n) (hown : OwnN base w (.slice (some ⟨g, 0, none⟩) m cap) l) (hrd : An w gx k)
    (hlen : l.length + k.length ≤ 100000000) (hbase : base ≤ w.heap.size)
    (h : ∀ v' w', OwnN base w' v' (l ++ k) → Below base w w' → An w' g l → K (a.put o.dst v') w') : if Region.wanted o (yielded ops a.tmps) = true then Oper.wp Tryd.prog o a w K Q else E := by
  have hw : Region.wanted o (yielded ops a.tmps) = true := by simp [Region.wanted, hgd]
  rw [if_pos hw]
  subst hm
  obtain ⟨v', w', hr, h1, h2, h3⟩ := run_app_keepN w o.type base g gx n cx cap l k hn hown hrd hlen hbase
  unfold Oper.wp execOp
  simp only [ho, resolve, invoke, builtin, Sem.run_bind, Sem.run_pure, Result.andThen_ok, List.map_toArray, List.map_cons, List.map_nil, hs, hx, hr]
  exact h v' w' h1 h2 h3
end Go.Proofs.YtceefkpcjonljaaDoor
