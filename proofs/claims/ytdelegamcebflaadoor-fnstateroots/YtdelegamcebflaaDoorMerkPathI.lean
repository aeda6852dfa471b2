/- The landed code's paths. -/
import Derived.Test.YtdelegamcebflaaDoorJoin11
import Derived.Test.YtdelegamcebflaaDoorJoin10
import Derived.Test.YtdelegamcebflaaDoorJoin12
import Derived.Maps.AppendAt
namespace Go.Proofs.YtdelegamcebflaaDoor
open Go.RowKit Go.Shelf
set_option linter.unusedVariables false
attribute [local go_sem] Oper.semAt_some

theorem step_app_g {ops : Array Oper} {o : Oper} {a : Act} {w : World} {K : Act → World → Prop} {Q : Exit → Act → World → Prop} {E : Prop} (hgd : o.guard = none) (s x : Operand)
    (ho : o.op = .call { callee := .builtin .append, args := #[s, x], argTypes := #[30, 30] })
    (base g cap : Nat) (v : Value) (l : List ByteArray) (t : ByteArray) (hs : a.eval s = v) (hx : a.eval x = .slice (some ⟨g, 0, none⟩) 1 cap) (hown : OwnS base w v l) (hc : w.cell? ⟨g, 0, none⟩ = some (.string t))
    (hlen : l.length ≤ 10000000) (hbase : base ≤ w.heap.size)
    (h : ∀ v' w', w'.ownsRow base 9 1 v' (l.length + 1) ((l ++ [t]).map Value.string) → w.grownBy w' v.ownBlock → K (a.put o.dst v') w') : if Region.wanted o (yielded ops a.tmps) = true then Oper.wp Tryd.prog o a w K Q else E := by
  have hw : Region.wanted o (yielded ops a.tmps) = true := by simp [Region.wanted, hgd]
  rw [if_pos hw]
  obtain ⟨i0, hi, hz0, hz1, hz2⟩ := info_parts Tryd.infoStr
  refine wp_append_own w s x 30 ho base 9 i0 (.string ByteArray.empty) 1 16 Tryd.underlying30 hi hz0 hz1 hz2 rfl (by decide) v l.length (l.map Value.string) hs hown ⟨g, 0, none⟩ 1 cap [.string t] hx (by simp) ?_ ?_ (by unfold maxLen; omega) (by omega) hbase ?_
  · intro j u hj
    have hj0 : j = 0 := by have := (List.getElem?_eq_some_iff.1 hj).1; simp at this; omega
    subst hj0
    simp at hj
    rw [show (⟨g, 0, none⟩ : Addr).add 0 = ⟨g, 0, none⟩ from by simp [Addr.add], hc, ← hj]
  · intro u hu
    simp at hu
    subst hu
    rfl
  · intro v' w' ho' hg _
    exact h v' w' (by simpa using ho') hg

set_option maxRecDepth 100000 in
set_option maxHeartbeats 2000000 in
theorem implPathOf_any (l : List ByteArray) (i : Int) (v : Value) (w : World) (hl : l.length ≤ 9000000000000000000) (h1 : -9223372036854775808 ≤ i) (h2 : i ≤ 9223372036854775807) (hr : RdS w v l) (hs : ∀ s ∈ l, s.size ≤ 1500000) (hgl : Gl w) :
    Calls Tryd.prog 12 #[v, .int .i64 i] w fun e w' => ∃ v', e = .returned v' ∧ OwnS w.heap.size w' v' (pathOfB l i) ∧ Below w.heap.size w w' := by
  have hdd : ∀ k : Nat, (Fence.wide.depth.isSome = true → 1 ≤ k) := fun k h => by cases h
  have Hr := hide hr
  obtain ⟨av, cv, rfl⟩ := hr.shape
  clear hr
  refine (callsIn_wide (n := 5)).1 ?_
  refine callsIn_of_wp_marks Tryd.func12 rfl trivial ?_ rfl
  simp only [Tryd.ntmps12, List.size_toArray, List.length_cons, List.length_nil, Nat.reduceAdd, Nat.reduceSub, Array.replicate_succ, Array.replicate_zero, List.push_toArray, List.append_toArray, List.nil_append, List.cons_append]
  by_cases hin : l.length ≤ 64 ∧ 0 ≤ i ∧ i < l.length
  · have hth : thereB i (l.length : Int) = true := by simp [thereB]; omega
    gi_wp2_with (first
      | ((first | refine ⟨trivial, hdd _, ?_⟩ | refine ⟨hdd _, ?_⟩ | refine ⟨trivial, ?_⟩ | skip); gi_at_call 23; refine (callsIn_wide.2 (leafThere_any _ _ _)).mono ?_; rintro e w1 ⟨rfl, rfl⟩)
      | ((first | refine ⟨trivial, hdd _, ?_⟩ | refine ⟨hdd _, ?_⟩ | refine ⟨trivial, ?_⟩ | skip); gi_at_call 25; refine (callsIn_wide.2 (sides_any _ _ _)).mono ?_; rintro e w2 ⟨rfl, rfl⟩))
    obtain ⟨I, rfl⟩ := Int.eq_ofNat_of_zero_le hin.2.1
    have hr := Hr.out
    rcases hr with ⟨_, _, _, e, _⟩ | ⟨b, off, cap, hne, hv, hc1, hc2, hb, hcell⟩
    · subst e; simp at hin; omega
    injection hv with ha _ hcap
    subst ha hcap
    have hst : StrAt w b off l := ⟨hb, hcell⟩
    have HP : Hid (pathOfB l (I : Int) = (sidesS l.length I 0 l.length (by omega)).map (fun x => rootB (partOf l x))) := hide (by unfold pathOfB; rw [if_pos hin, Int.toNat_natCast]; exact path_all l I (by omega))
    clear hcell hb
    obtain ⟨n₀, hn₀⟩ : ∃ n₀, w.heap.size = n₀ := ⟨_, rfl⟩
    rw [hn₀]
    have bL := Boxed.new w 30 (.slice (some ⟨b, off, none⟩) l.length cv)
    have bP := Boxed.new (w.alloc (.cells #[.slice (some ⟨b, off, none⟩) l.length cv] 30)) 30 (.slice none 0 0)
    have bI := Boxed.new ((w.alloc (.cells #[.slice (some ⟨b, off, none⟩) l.length cv] 30)).alloc (.cells #[.slice none 0 0] 30)) 3 (.int .i64 (I : Int))
    have bN := Boxed.new (((w.alloc (.cells #[.slice (some ⟨b, off, none⟩) l.length cv] 30)).alloc (.cells #[.slice none 0 0] 30)).alloc (.cells #[.int .i64 (I : Int)] 3)) 3 (.int .i64 (l.length : Int))
    simp only [World.size_alloc, hn₀] at bL bP bI bN
    have hB0 : Below n₀ w ((((w.alloc (.cells #[.slice (some ⟨b, off, none⟩) l.length cv] 30)).alloc (.cells #[.slice none 0 0] 30)).alloc (.cells #[.int .i64 (I : Int)] 3)).alloc (.cells #[.int .i64 (l.length : Int)] 3)) := ((((Below.refl _ w).alloc (by omega) _).alloc (by simp; omega) _).alloc (by simp; omega) _).alloc (by simp; omega) _
    refine wpIn_rangeFunc_ownH (n := 5) rfl (by omega) (gf := 40) (lb := #[.pointer (some ⟨n₀ + 1 + 1, 0, none⟩), .pointer (some ⟨n₀ + 1 + 1 + 1, 0, none⟩)]) rfl trivial (enters_of Tryd.func40 (by kernel_rfl) rfl)
      (sides_stops _ l.length I (by omega) (by omega) (n₀ + 1 + 1) (n₀ + 1 + 1 + 1) _ (by simp; omega) (by simp; omega) (bI.alloc _).cell bN.cell) (fun _ _ => trivial) (fun _ _ _ _ _ _ _ _ => trivial) (Below.refl _ _) (fun _ => rfl)
      (fun pre W => ((∃ v, Boxed W (n₀ + 1) 30 v ∧ W.ownsRow n₀ 9 1 v (pre.map (fun x => rootB (partOf l x))).length ((pre.map (fun x => rootB (partOf l x))).map Value.string) ∧ True) ∧ Boxed W n₀ 30 (.slice (some ⟨b, off, none⟩) l.length cv)) ∧ Below n₀ w W)
      (fun _ _ _ => False)
      (OwnFrom.and (OwnFrom.and (Own.from (holdsRow_own n₀ (n₀ + 1) 30 9 1 (fun pre => (List.map (fun x => rootB (partOf l x)) pre).length) (fun pre => (List.map (fun x => rootB (partOf l x)) pre).map Value.string) (fun _ _ => True)) _) (Own.from (boxed_own n₀ 30 (fun _ => .slice (some ⟨b, off, none⟩) l.length cv)) _)) (ownFrom_below (by omega) (by simp; omega)))
      (fun _ _ _ _ _ hs _ _ => hs)
      ⟨⟨⟨_, (bP.alloc _).alloc _, World.ownsRow_nil _ _ _ _, trivial⟩, ((bL.alloc _).alloc _).alloc _⟩, hB0⟩
      (fun x a' W => ∃ Bx, n₀ + 1 < Bx ∧ SideAt W Bx x ∧ a' = { tmps := #[.slice (some ⟨b, off, none⟩) l.length cv, .int .i64 (I : Int), .pointer (some ⟨n₀, 0, none⟩), undef, .slice none 0 0, .pointer (some ⟨n₀ + 1, 0, none⟩), .pointer (some ⟨Bx, 0, none⟩), .int .i64 (I : Int), .slice (some ⟨b, off, none⟩) l.length cv, .int .i64 (l.length : Int), .bool true, .bool false, undef, .int .i64 (I : Int), .slice (some ⟨b, off, none⟩) l.length cv, .int .i64 (l.length : Int), .func (.func 40) #[] #[.pointer (some ⟨n₀ + 1 + 1, 0, none⟩), .pointer (some ⟨n₀ + 1 + 1 + 1, 0, none⟩)], .agg #[.int .i64 (x.1.1 : Int), .int .i64 (x.1.2.1 : Int), .bool x.1.2.2], undef, undef, undef, undef, undef, undef, undef, undef, undef, undef, undef], defers := [] })
      ?hAx ?assign ?body ?done ?stop
    case hAx =>
      rintro x a' u X Y row ⟨Bx, h1, h2, h3⟩ hg hr
      exact ⟨Bx, h1, Own.from (sideAt_own Bx x) _ u X Y row h2 hg hr, h3⟩
    case assign =>
      rintro lp pre x W K ⟨⟨⟨pv, hpv, hrow, _⟩, hbl⟩, hB⟩ hK
      dsimp only [encSide]
      have hsz0 := hB.size
      have hlt1 := hpv.lt
      clear hs hgl Hr hst bL bP bI bN hB0
      gi_wp2
      exact hK _ _ ((KeepsOthers.alloc _ _).from _) trivial ⟨⟨⟨pv, hpv.alloc _, hrow.alloc _, trivial⟩, hbl.alloc _⟩, hB.alloc (by omega) _⟩ ⟨W.heap.size, hlt1, World.alloc_heap_new W _, rfl⟩
    case body =>
      rintro lp pre x a' W hlp hlr ⟨⟨⟨pv, hpv, hrow, _⟩, hbl⟩, hB⟩ ⟨Bx, hBx, hside, rfl⟩ hlt
      obtain ⟨x1, x2⟩ := x.2
      have hpre : pre.length ≤ 64 := by have := sidesS_len l.length l.length I 0 l.length (by omega) (Nat.le_refl _); omega
      have hst2 : StrAt W b off l := hst.below hB (by rw [← hn₀]; exact hst.1)
      have hgl2 : Gl W := hgl.below hB (by omega)
      have hpart : ∀ s ∈ partOf l x, s.size ≤ 1500000 := fun s hm => hs s (List.mem_of_mem_drop (List.mem_of_mem_take hm))
      have hplen : (partOf l x).length = x.1.2.1 - x.1.1 := by unfold partOf; simp; omega
      have Hroot := hide (implRoot_any (partOf l x) (.slice (some ⟨b, off + x.1.1, none⟩) (x.1.2.1 - x.1.1) (cv - x.1.1)) W.drew (by omega) (by have := ((hst2.drew.drop x.1.1).take (x.1.2.1 - x.1.1)).rd (cap := cv - x.1.1) (by rw [show ((l.drop x.1.1).take (x.1.2.1 - x.1.1)).length = _ from hplen]; omega) (by omega); rwa [show ((l.drop x.1.1).take (x.1.2.1 - x.1.1)).length = _ from hplen] at this) hpart hgl2.drew')
      clear hs hgl Hr hst bL bP bI bN hB0 hgl2 hst2 hpart
      gi_wp2
      refine round_held (S := fun W' => W'.heap[n₀]? = W.heap[n₀]? ∧ W'.heap[Bx]? = W.heap[Bx]?) (by kernel_rfl) (fun ⟨_, _, h⟩ => h) (by kernel_rfl) ⟨rfl, rfl⟩ (fun hHeld => ?_)
      refine wpAnyH_take (i := 1) (v := .slice (some ⟨b, off, none⟩) l.length cv) rfl (by kernel_rfl) (by kernel_rfl) (by kernel_rfl) (fun _ _ _ h => h) (Or.inl ⟨by rfl, ?_⟩) (by assumption) ?_
      · intro w' hS
        obtain ⟨g1, g2⟩ := hS
        have k1 := (Boxed.cell (W := w') (g1.trans hbl))
        obtain ⟨k2, k3, k4⟩ := SideAt.cells (W := w') (g2.trans hside)
        clear g1 g2
        go_simp
      simp only [Act.put, List.setIfInBounds_toArray]
      refine wpAnyH_take (i := 2) (v := .pointer (some ⟨Bx, 0, none⟩)) rfl (by kernel_rfl) (by kernel_rfl) (by kernel_rfl) (fun _ _ _ h => h) (Or.inl ⟨by rfl, ?_⟩) (by assumption) ?_
      · intro w' hS
        obtain ⟨g1, g2⟩ := hS
        have k1 := (Boxed.cell (W := w') (g1.trans hbl))
        obtain ⟨k2, k3, k4⟩ := SideAt.cells (W := w') (g2.trans hside)
        clear g1 g2
        go_simp
      simp only [Act.put]
      refine wpAnyH_take (i := 3) (v := .int .i64 (x.1.1 : Int)) rfl (by kernel_rfl) (by kernel_rfl) (by kernel_rfl) (fun _ _ _ h => h) (Or.inl ⟨by rfl, ?_⟩) (by assumption) ?_
      · intro w' hS
        obtain ⟨g1, g2⟩ := hS
        have k1 := (Boxed.cell (W := w') (g1.trans hbl))
        obtain ⟨k2, k3, k4⟩ := SideAt.cells (W := w') (g2.trans hside)
        clear g1 g2
        go_simp
      simp only [Act.put]
      refine wpAnyH_take (i := 4) (v := .pointer (some ⟨Bx, 1, none⟩)) rfl (by kernel_rfl) (by kernel_rfl) (by kernel_rfl) (fun _ _ _ h => h) (Or.inl ⟨by rfl, ?_⟩) (by assumption) ?_
      · intro w' hS
        obtain ⟨g1, g2⟩ := hS
        have k1 := (Boxed.cell (W := w') (g1.trans hbl))
        obtain ⟨k2, k3, k4⟩ := SideAt.cells (W := w') (g2.trans hside)
        clear g1 g2
        go_simp
      simp only [Act.put]
      refine wpAnyH_take (i := 5) (v := .int .i64 (x.1.2.1 : Int)) rfl (by kernel_rfl) (by kernel_rfl) (by kernel_rfl) (fun _ _ _ h => h) (Or.inl ⟨by rfl, ?_⟩) (by assumption) ?_
      · intro w' hS
        obtain ⟨g1, g2⟩ := hS
        have k1 := (Boxed.cell (W := w') (g1.trans hbl))
        obtain ⟨k2, k3, k4⟩ := SideAt.cells (W := w') (g2.trans hside)
        clear g1 g2
        go_simp
      simp only [Act.put]
      refine wpAnyH_take (i := 6) (v := .slice (some ⟨b, off + x.1.1, none⟩) (x.1.2.1 - x.1.1) (cv - x.1.1)) rfl (by kernel_rfl) (by kernel_rfl) (by kernel_rfl) (fun _ _ _ h => h) (Or.inl ⟨by rfl, ?_⟩) (by assumption) ?_
      · intro w' hS
        obtain ⟨g1, g2⟩ := hS
        have k1 := (Boxed.cell (W := w') (g1.trans hbl))
        obtain ⟨k2, k3, k4⟩ := SideAt.cells (W := w') (g2.trans hside)
        clear g1 g2
        go_simp
        rw [if_pos (by omega), if_pos (by omega), if_neg (by omega)]
      simp only [Act.put]
      have T1 : ∀ W1, Below W.drew.heap.size W.drew W1 → (W1.heap[n₀]? = W.heap[n₀]? ∧ W1.heap[Bx]? = W.heap[Bx]?) ∧ Boxed W1 (n₀ + 1) 30 pv ∧ OwnS n₀ W1 pv (pre.map (fun x => rootB (partOf l x))) ∧ n₀ ≤ W1.heap.size := fun W1 hb1 =>
        ⟨⟨hb1.block n₀ hbl.lt, hb1.block Bx hside.lt⟩, (hb1.block (n₀ + 1) hpv.lt).trans hpv, OwnS.below (w := W.drew) hrow hb1 (Nat.le_refl _), by have := hb1.size; have := hbl.lt; have : W.drew.heap.size = W.heap.size := rfl; omega⟩
      have T2 : ∀ W1, Below W.drew.heap.size W.drew W1 → ∀ o : Obj, ((W1.alloc o).heap[n₀]? = W.heap[n₀]? ∧ (W1.alloc o).heap[Bx]? = W.heap[Bx]?) ∧ Boxed (W1.alloc o) (n₀ + 1) 30 pv ∧ OwnS n₀ (W1.alloc o) pv (pre.map (fun x => rootB (partOf l x))) ∧ n₀ ≤ (W1.alloc o).heap.size := fun W1 hb1 o => by
        obtain ⟨⟨q1, q2⟩, q3, q4, q5⟩ := T1 W1 hb1
        have z1 : n₀ < W1.heap.size := (Boxed.lt (q1.trans hbl))
        have z2 : Bx < W1.heap.size := (SideAt.lt (x := x) (q2.trans hside))
        exact ⟨⟨(Below.heap_alloc _ _ _ z1).trans q1, (Below.heap_alloc _ _ _ z2).trans q2⟩, q3.alloc _, World.ownsRow.alloc q4 _, by simp; omega⟩
      have T3 : ∀ W1, Below W.drew.heap.size W.drew W1 → ∀ (o : Obj) v' w2, w2.ownsRow n₀ 9 1 v' ((pre.map (fun x => rootB (partOf l x))).length + 1) ((pre.map (fun x => rootB (partOf l x)) ++ [rootB (partOf l x)]).map Value.string) → (W1.alloc o).grownBy w2 pv.ownBlock →
          (w2.heap[n₀]? = W.heap[n₀]? ∧ w2.heap[Bx]? = W.heap[Bx]?) ∧ w2.cell? ⟨n₀ + 1, 0, none⟩ = some pv ∧ w2.frozen? ⟨n₀ + 1, 0, none⟩ = false ∧
          ((w2.setCell ⟨n₀ + 1, 0, none⟩ v').heap[n₀]? = W.heap[n₀]? ∧ (w2.setCell ⟨n₀ + 1, 0, none⟩ v').heap[Bx]? = W.heap[Bx]?) ∧
          (∀ B, KeepsFrom B W (w2.setCell ⟨n₀ + 1, 0, none⟩ v')) ∧
          ((∃ v, Boxed (w2.setCell ⟨n₀ + 1, 0, none⟩ v') (n₀ + 1) 30 v ∧ (w2.setCell ⟨n₀ + 1, 0, none⟩ v').ownsRow n₀ 9 1 v ((pre ++ [x]).map (fun x => rootB (partOf l x))).length (((pre ++ [x]).map (fun x => rootB (partOf l x))).map Value.string) ∧ True) ∧ Boxed (w2.setCell ⟨n₀ + 1, 0, none⟩ v') n₀ 30 (.slice (some ⟨b, off, none⟩) l.length cv)) ∧ Below n₀ w (w2.setCell ⟨n₀ + 1, 0, none⟩ v') := fun W1 hb1 o v' w2 ho hg => by
        obtain ⟨⟨q1, q2⟩, q3, q4, q5⟩ := T1 W1 hb1
        obtain ⟨⟨p1, p2⟩, p3, p4, p5⟩ := T2 W1 hb1 o
        obtain ⟨a1, a2, a3, a4, a5⟩ := q3.appended (by decide) q4 q5 (by omega) ho hg
        have y1 : w2.heap[n₀]? = W.heap[n₀]? := (hg.block n₀ (Boxed.lt (p1.trans hbl)) (Boxed.not_row (W := W1.alloc o) (p1.trans hbl) (by decide) p4)).trans p1
        have y2 : w2.heap[Bx]? = W.heap[Bx]? := (hg.block Bx (SideAt.lt (x := x) (p2.trans hside)) (SideAt.not_row (W := W1.alloc o) (x := x) (p2.trans hside) p4)).trans p2
        have y3 : (w2.setCell ⟨n₀ + 1, 0, none⟩ v').heap[n₀]? = W.heap[n₀]? := ((grownBy_setCell' w2 (n₀ + 1) v').block n₀ (Boxed.lt (y1.trans hbl)) (by simp)).trans y1
        have y4 : (w2.setCell ⟨n₀ + 1, 0, none⟩ v').heap[Bx]? = W.heap[Bx]? := ((grownBy_setCell' w2 (n₀ + 1) v').block Bx (SideAt.lt (x := x) (y2.trans hside)) (by simp; omega)).trans y2
        refine ⟨⟨y1, y2⟩, a1.cell, a1.frozen, ⟨y3, y4⟩, fun B => KeepsOthers.from (((KeepsOthers.drew W).trans (keepsOthers_below hb1)).trans a4) B, ⟨⟨v', a2, by simpa using a3, trivial⟩, y3.trans hbl⟩, ?_⟩
        have hW : Below n₀ W W1 := ((Below.refl n₀ W).drew.trans (hb1.mono (by have := hbl.lt; show n₀ ≤ W.heap.size; omega)))
        exact (hB.trans hW).trans a5
      have hcp : W.drew.cell? ⟨n₀ + 1, 0, none⟩ = some pv := hpv.cell
      refine wpAnyH_ready (rs := [0, 7]) (by kernel_rfl) (by simp) ?_
      refine AllReadyH.cons rfl (fun K hK => ?_) (AllReadyH.cons rfl (fun K hK => ?_) AllReadyH.nil)
      · go_simp
        refine hK.out _ _ hHeld (fun hHeld => ?_)
        clear hK K
        refine wpAnyH_ready (rs := [7]) (by kernel_rfl) (by simp) ?_
        refine AllReadyH.cons rfl (fun K hK => ?_) AllReadyH.nil
        go_simp
        refine Hroot.out.mono ?_
        rintro e W1 ⟨rfl, hb1⟩
        obtain ⟨s1, bx1, ow1, z1⟩ := T1 W1 hb1
        have cp1 := bx1.cell
        refine hK.out _ _ s1 (fun hHeld => ?_)
        clear hK K
        refine wpAnyH_ready (rs := [8]) (by kernel_rfl) (by simp) ?_
        refine AllReadyH.cons rfl (fun K hK => ?_) AllReadyH.nil
        obtain ⟨s2, bx2, ow2, z2⟩ := T2 W1 hb1 (.cells #[.string (rootB (partOf l x))] 9)
        have cp2 := bx2.cell
        go_simp
        refine hK.out _ _ s2 (fun hHeld => ?_)
        clear hK K
        refine wpAnyH_ready (rs := [9]) (by kernel_rfl) (by simp) ?_
        refine AllReadyH.cons rfl (fun K hK => ?_) AllReadyH.nil
        refine step_app_g rfl _ _ rfl n₀ W1.heap.size 1 pv (pre.map (fun x => rootB (partOf l x))) (rootB (partOf l x)) (by rfl) (by rfl) ow2 (cell_lit W1 _) (by simp; omega) z2 ?_
        intro v' w2 ho hg
        obtain ⟨g', cap', hv'⟩ := ownsRow_succ ho
        obtain ⟨t1, t2, t3, t4, t5, t6, t7⟩ := T3 W1 hb1 _ v' w2 ho hg
        rw [List.length_map] at hv'
        subst hv'
        refine hK.out _ _ t1 (fun hHeld => ?_)
        clear hK K
        refine wpAnyH_ready (rs := [10]) (by kernel_rfl) (by simp) ?_
        refine AllReadyH.cons rfl (fun K hK => ?_) AllReadyH.nil
        go_simp
        refine hK.out _ _ t4 (fun hHeld => ?_)
        clear hK K
        refine wpAnyH_done (by kernel_rfl) ?_ _
        exact ⟨t5 _, trivial, t6, t7⟩
      · go_simp
        refine Hroot.out.mono ?_
        rintro e W1 ⟨rfl, hb1⟩
        obtain ⟨s1, bx1, ow1, z1⟩ := T1 W1 hb1
        have cp1 := bx1.cell
        refine hK.out _ _ s1 (fun hHeld => ?_)
        clear hK K
        refine wpAnyH_ready (rs := [0, 8]) (by kernel_rfl) (by simp) ?_
        refine AllReadyH.cons rfl (fun K hK => ?_) (AllReadyH.cons rfl (fun K hK => ?_) AllReadyH.nil)
        · go_simp
          refine hK.out _ _ s1 (fun hHeld => ?_)
          clear hK K
          refine wpAnyH_ready (rs := [8]) (by kernel_rfl) (by simp) ?_
          refine AllReadyH.cons rfl (fun K hK => ?_) AllReadyH.nil
          obtain ⟨s2, bx2, ow2, z2⟩ := T2 W1 hb1 (.cells #[.string (rootB (partOf l x))] 9)
          have cp2 := bx2.cell
          go_simp
          refine hK.out _ _ s2 (fun hHeld => ?_)
          clear hK K
          refine wpAnyH_ready (rs := [9]) (by kernel_rfl) (by simp) ?_
          refine AllReadyH.cons rfl (fun K hK => ?_) AllReadyH.nil
          refine step_app_g rfl _ _ rfl n₀ W1.heap.size 1 pv (pre.map (fun x => rootB (partOf l x))) (rootB (partOf l x)) (by rfl) (by rfl) ow2 (cell_lit W1 _) (by simp; omega) z2 ?_
          intro v' w2 ho hg
          obtain ⟨g', cap', hv'⟩ := ownsRow_succ ho
          obtain ⟨t1, t2, t3, t4, t5, t6, t7⟩ := T3 W1 hb1 _ v' w2 ho hg
          rw [List.length_map] at hv'
          subst hv'
          refine hK.out _ _ t1 (fun hHeld => ?_)
          clear hK K
          refine wpAnyH_ready (rs := [10]) (by kernel_rfl) (by simp) ?_
          refine AllReadyH.cons rfl (fun K hK => ?_) AllReadyH.nil
          go_simp
          refine hK.out _ _ t4 (fun hHeld => ?_)
          clear hK K
          refine wpAnyH_done (by kernel_rfl) ?_ _
          exact ⟨t5 _, trivial, t6, t7⟩
        · obtain ⟨s2, bx2, ow2, z2⟩ := T2 W1 hb1 (.cells #[.string (rootB (partOf l x))] 9)
          have cp2 := bx2.cell
          go_simp
          refine hK.out _ _ s2 (fun hHeld => ?_)
          clear hK K
          refine wpAnyH_ready (rs := [0]) (by kernel_rfl) (by simp) ?_
          refine AllReadyH.cons rfl (fun K hK => ?_) AllReadyH.nil
          go_simp
          refine hK.out _ _ s2 (fun hHeld => ?_)
          clear hK K
          refine wpAnyH_ready (rs := [9]) (by kernel_rfl) (by simp) ?_
          refine AllReadyH.cons rfl (fun K hK => ?_) AllReadyH.nil
          refine step_app_g rfl _ _ rfl n₀ W1.heap.size 1 pv (pre.map (fun x => rootB (partOf l x))) (rootB (partOf l x)) (by rfl) (by rfl) ow2 (cell_lit W1 _) (by simp; omega) z2 ?_
          intro v' w2 ho hg
          obtain ⟨g', cap', hv'⟩ := ownsRow_succ ho
          obtain ⟨t1, t2, t3, t4, t5, t6, t7⟩ := T3 W1 hb1 _ v' w2 ho hg
          rw [List.length_map] at hv'
          subst hv'
          refine hK.out _ _ t1 (fun hHeld => ?_)
          clear hK K
          refine wpAnyH_ready (rs := [10]) (by kernel_rfl) (by simp) ?_
          refine AllReadyH.cons rfl (fun K hK => ?_) AllReadyH.nil
          go_simp
          refine hK.out _ _ t4 (fun hHeld => ?_)
          clear hK K
          refine wpAnyH_done (by kernel_rfl) ?_ _
          exact ⟨t5 _, trivial, t6, t7⟩
    case done =>
      rintro D ys W hD rfl ⟨⟨⟨pv, hpv, hrow, _⟩, hbl⟩, hB⟩ hK
      have hc := hpv.cell
      gi_wp2
      refine ⟨by simp, .inl ⟨_, _, rfl, run_takeDeferred hK, ?_⟩⟩
      exact ⟨_, results_tmp rfl _ _ _, pv, rfl, by rw [HP.out]; exact ownsRow_putObj hrow _ hK rfl, hB.trans (belowK_b (w := w) (by omega) W D _ _ (by simp at hD; omega) hK rfl rfl)⟩
    case stop =>
      rintro D c pre W _ _ h _
      exact h.elim
  · have hth : thereB i (l.length : Int) = false := by simp [thereB]; omega
    gi_wp2_with (first
      | ((first | refine ⟨trivial, hdd _, ?_⟩ | refine ⟨hdd _, ?_⟩ | refine ⟨trivial, ?_⟩ | skip); gi_at_call 23; refine (callsIn_wide.2 (leafThere_any _ _ _)).mono ?_; rintro e w1 ⟨rfl, rfl⟩))
    have HP : Hid (pathOfB l i = []) := hide (by unfold pathOfB; rw [if_neg hin])
    exact ⟨_, results_tmp rfl _ _ _, _, rfl, by rw [HP.out]; exact World.ownsRow_nil _ _ _ _, ((Below.refl _ w).alloc (Nat.le_refl _) _).alloc (by simp) _⟩
end Go.Proofs.YtdelegamcebflaaDoor
