/- Append onto numbers of the call's own: what was there can still be read where it was. -/
import Derived.Test.YtknmjahipekgpaaDoorIntS
namespace Go.Proofs.YtknmjahipekgpaaDoor
open Go.RowKit
set_option linter.unusedVariables false

theorem run_app_keepN (w : World) (ty : TypeId) (base g gx n cx cap : Nat) (l k : List Nat) (hn : k.length = n) (hown : OwnN base w (.slice (some ⟨g, 0, none⟩) l.length cap) l) (hrd : An w gx k)
    (hlen : l.length + k.length ≤ 100000000) (hbase : base ≤ w.heap.size) :
    ∃ v' w', (Builtin.append_ #[67, 67] ty #[.slice (some ⟨g, 0, none⟩) l.length cap, .slice (some ⟨gx, 0, none⟩) n cx]).run Tryd.prog w = .ok v' w' ∧ OwnN base w' v' (l ++ k) ∧ Below base w w' ∧ An w' g l := by
  subst hn
  obtain ⟨i0, hi, hz0, hz1, hz2⟩ := info_parts Tryd.infoInt
  have hone : ∀ u ∈ k.map iv, u.oneCell' = true := by
    intro u hu
    obtain ⟨c, _, rfl⟩ := List.mem_map.1 hu
    rfl
  obtain ⟨v', w', hr, ho, hg, _⟩ := run_append_own (P := Tryd.prog) w base 67 ty 3 i0 (.int .i64 0) 1 8 Tryd.underlying67 hi hz0 hz1 hz2 rfl (by decide) _ l.length (l.map iv) hown ⟨gx, 0, none⟩ k.length cx (k.map iv) (by simp) (fun j u hj => an_src hrd j u hj) hone (by unfold maxLen; omega) (by omega) hbase
  have ho' : OwnN base w' v' (l ++ k) := by simpa [OwnN] using ho
  refine ⟨v', w', hr, ho', (Below.refl _ _).grown hg hbase (fun k hk => (World.ownsRow.lt hown k hk).1), ?_⟩
  rcases hown.2 with ⟨hv, _⟩ | ⟨g', cap', cur, hv, hbg, hgc, hnc, hcm, hcs, htake⟩
  · simp at hv
  · simp only [Value.slice.injEq, Option.some.injEq, Addr.mk.injEq, and_true, true_and] at hv
    obtain ⟨rfl, rfl⟩ := hv
    have hgl : g < w.heap.size := (Array.getElem?_eq_some_iff.1 hgc).1
    by_cases hroom : l.length + k.length ≤ cap
    · have hr2 := run_append_room (P := Tryd.prog) w 67 ty 3 i0 Tryd.underlying67 hi g l.length cap cur hgc ⟨gx, 0, none⟩ k.length cx (k.map iv) (by simp [hz1]) (fun j u hj => an_src hrd j u hj) hone hroom (by simp [hz1, hcs]; omega)
      rw [hr] at hr2
      injection hr2 with e1 e2
      subst e1
      refine ⟨by have := hg.size; omega, fun i hi' => ?_⟩
      have h' : w'.ownsRow base 3 1 (.slice (some ⟨g, 0, none⟩) (l.length + k.length) cap) (l.length + k.length) ((l ++ k).map iv) := by simpa using ho
      rw [h'.cellAt i (by omega)]
      simp [iv, List.getElem?_append_left, hi']
    · have holds : ∀ j u, (l.map iv)[j]? = some u → w.cell? ((⟨g, 0, none⟩ : Addr).add j) = some u := World.ownsRow.cells hown (g := g) rfl
      have hr2 := run_append_grow (P := Tryd.prog) w 67 ty 3 i0 (.int .i64 0) Tryd.underlying67 hi hz0 ⟨g, 0, none⟩ l.length cap (l.map iv) (by simp [hz1]) holds ⟨gx, 0, none⟩ k.length cx (k.map iv) (by simp [hz1]) (fun j u hj => an_src hrd j u hj) (by omega) (by omega) (growslice_fits (by omega) (by rw [hz2]; omega))
      rw [hr] at hr2
      injection hr2 with e1 e2
      subst e2
      refine An.below (B := w.heap.size) ⟨hgl, fun i hi' => ?_⟩ ((Below.refl _ _).drew.alloc (Nat.le_refl _) _) hgl
      rw [World.ownsRow.cellAt hown i (by omega)]
      simp [hi', iv]

theorem step_app_keepN {ops : Array Oper} {o : Oper} {a : Act} {w : World} {K : Act → World → Prop} {Q : Exit → Act → World → Prop} {E : Prop} (hgd : o.guard = none) (s x : Operand)
    (ho : o.op = .call { callee := .builtin .append, args := #[s, x], argTypes := #[67, 67] })
    (base g m cap gx n cx : Nat) (l k : List Nat) (hs : a.eval s = .slice (some ⟨g, 0, none⟩) m cap) (hm : l.length = m) (hx : a.eval x = .slice (some ⟨gx, 0, none⟩) n cx) (hn : k.length = n) (hown : OwnN base w (.slice (some ⟨g, 0, none⟩) m cap) l) (hrd : An w gx k)
    (hlen : l.length + k.length ≤ 100000000) (hbase : base ≤ w.heap.size)
    (h : ∀ v' w', OwnN base w' v' (l ++ k) → Below base w w' → An w' g l → K (a.put o.dst v') w') : if Region.wanted o (yielded ops a.tmps) = true then Oper.wp Tryd.prog o a w K Q else E := by
  have hw : Region.wanted o (yielded ops a.tmps) = true := by simp [Region.wanted, hgd]
  rw [if_pos hw]
  subst hm
  obtain ⟨v', w', hr, h1, h2, h3⟩ := run_app_keepN w o.type base g gx n cx cap l k hn hown hrd hlen hbase
  unfold Oper.wp execOp
  simp only [ho, resolve, invoke, builtin, Sem.run_bind, Sem.run_pure, Result.andThen_ok, List.map_toArray, List.map_cons, List.map_nil, hs, hx, hr]
  exact h v' w' h1 h2 h3
end Go.Proofs.YtknmjahipekgpaaDoor
