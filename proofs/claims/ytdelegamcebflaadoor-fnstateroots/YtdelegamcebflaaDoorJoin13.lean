/- The landed code's CheckPath. The model's draws: a cursor over the bytes of a code; whatever is drawn, it is of its kind, and nothing but the cursor turns. A new cursor over the bytes of a code. Drawn names: the cursor once more (a chance, a list of names). Drawn names: one of some, one that may be none. -/
import Derived.Test.YtdelegamcebflaaDoorJoin11
import Derived.Test.YtdelegamcebflaaDoorJoin10
import Derived.Test.YtdelegamcebflaaDoorMem
import Derived.Test.YtdelegamcebflaaDoorJoin5
import Derived.Test.YtdelegamcebflaaDoorJoin7
import Derived.Deep.RegionWith
namespace Go.Proofs.YtdelegamcebflaaDoor
open Go.RowKit Go.Shelf
set_option linter.unusedVariables false
attribute [local go_sem] Oper.semAt_some

set_option maxRecDepth 100000 in
set_option maxHeartbeats 2000000 in
theorem implCheck_any (s : ByteArray) (i n : Int) (path : List ByteArray) (root : ByteArray) (v : Value) (w : World) (hs : s.size ≤ 3000000) (hi1 : -9223372036854775808 ≤ i) (hi2 : i ≤ 9223372036854775807) (hn1 : -9223372036854775808 ≤ n) (hn2 : n ≤ 9223372036854775807) (hpl : path.length ≤ 9000000000000000000) (hr : RdS w v path) (hps : ∀ s ∈ path, s.size ≤ 1500000) (hgl : Gl w) :
    Calls Tryd.prog 11 #[.string s, .int .i64 i, .int .i64 n, v, .string root] w fun e w' => e = .returned (.bool (checkB s i n path root)) ∧ Below w.heap.size w w' := by
  have hdd : ∀ k : Nat, (Fence.wide.depth.isSome = true → 1 ≤ k) := fun k h => by cases h
  have Hr := hide hr
  obtain ⟨av, cv, rfl⟩ := hr.shape
  clear hr
  obtain ⟨n₀, hn₀⟩ : ∃ n₀, w.heap.size = n₀ := ⟨_, rfl⟩
  have bL := Boxed.new w 30 (.slice av path.length cv)
  have bR := Boxed.new (w.alloc (.cells #[.slice av path.length cv] 30)) 4 (.bool false)
  have hB0 : Below n₀ w ((w.alloc (.cells #[.slice av path.length cv] 30)).alloc (.cells #[.bool false] 4)) := ((Below.refl _ w).alloc (by omega) _).alloc (by simp; omega) _
  simp only [World.size_alloc, hn₀] at bL bR
  refine (callsIn_wide (n := 5)).1 ?_
  refine callsIn_of_wp_marks Tryd.func11 rfl trivial ?_ rfl
  simp only [Tryd.ntmps11, List.size_toArray, List.length_cons, List.length_nil, Nat.reduceAdd, Nat.reduceSub, Array.replicate_succ, Array.replicate_zero, List.push_toArray, List.append_toArray, List.nil_append, List.cons_append]
  by_cases hin : n ≤ 64 ∧ 0 ≤ i ∧ i < n
  · have hth : thereB i n = true := by simp [thereB]; omega
    have Hleaf := hide (implLeaf_any s _ hs (hgl.below hB0 (by omega)))
    rw [hn₀]
    gi_wp2_with (first
      | ((first | refine ⟨trivial, hdd _, ?_⟩ | refine ⟨hdd _, ?_⟩ | refine ⟨trivial, ?_⟩ | skip); gi_at_call 23; refine (callsIn_wide.2 (leafThere_any _ _ _)).mono ?_; rintro e w1 ⟨rfl, rfl⟩)
      | ((first | refine ⟨trivial, hdd _, ?_⟩ | refine ⟨hdd _, ?_⟩ | refine ⟨trivial, ?_⟩ | skip); gi_at_call 24; refine (callsIn_wide.2 Hleaf.out).mono ?_; rintro e w1 ⟨rfl, hb1⟩)
      | ((first | refine ⟨trivial, hdd _, ?_⟩ | refine ⟨hdd _, ?_⟩ | refine ⟨trivial, ?_⟩ | skip); gi_at_call 25; refine (callsIn_wide.2 (sides_any _ _ _)).mono ?_; rintro e w2 ⟨rfl, rfl⟩))
    obtain ⟨I, rfl⟩ := Int.eq_ofNat_of_zero_le hin.2.1
    obtain ⟨N, rfl⟩ := Int.eq_ofNat_of_zero_le (show 0 ≤ n by omega)
    have HC := hide (checkB_in s I N path root (by omega))
    have HU := hide (up_all N (leafB s) I path)
    have HS := hide (fun pre => up_short N (leafB s) I path pre)
    have hB1 : Below n₀ w w1 := hB0.trans (hb1.mono (by simp; omega))
    have hM2 : n₀ + 2 ≤ w1.heap.size := by have := hb1.size; simp at this; omega
    have bL1 : Boxed w1 n₀ 30 (.slice av path.length cv) := (hb1.block n₀ (by simp; omega)).trans (bL.alloc _)
    have bR1 : Boxed w1 (n₀ + 1) 4 (.bool false) := (hb1.block (n₀ + 1) (by simp; omega)).trans bR
    obtain ⟨M, hM⟩ : ∃ M, w1.heap.size = M := ⟨_, rfl⟩
    rw [hM]
    have bS := Boxed.new w1 9 (.string (leafB s))
    have bU := Boxed.new (w1.alloc (.cells #[.string (leafB s)] 9)) 3 (.int .i64 0)
    have bI := Boxed.new ((w1.alloc (.cells #[.string (leafB s)] 9)).alloc (.cells #[.int .i64 0] 3)) 3 (.int .i64 (I : Int))
    have bN := Boxed.new (((w1.alloc (.cells #[.string (leafB s)] 9)).alloc (.cells #[.int .i64 0] 3)).alloc (.cells #[.int .i64 (I : Int)] 3)) 3 (.int .i64 (N : Int))
    simp only [World.size_alloc, hM] at bS bU bI bN
    have hB2 : Below n₀ w ((((w1.alloc (.cells #[.string (leafB s)] 9)).alloc (.cells #[.int .i64 0] 3)).alloc (.cells #[.int .i64 (I : Int)] 3)).alloc (.cells #[.int .i64 (N : Int)] 3)) := (((hB1.alloc (by omega) _).alloc (by simp; omega) _).alloc (by simp; omega) _).alloc (by simp; omega) _
    clear hb1 bL bR hB0 Hleaf hs hn1 hn2 hi1 hi2
    refine wpIn_rangeFunc_ownH (n := 5) rfl (by omega) (gf := 40) (lb := #[.pointer (some ⟨M + 1 + 1, 0, none⟩), .pointer (some ⟨M + 1 + 1 + 1, 0, none⟩)]) rfl trivial (enters_of Tryd.func40 (by kernel_rfl) rfl)
      (sides_stops _ N I (by omega) (by omega) (M + 1 + 1) (M + 1 + 1 + 1) _ (by simp; omega) (by simp; omega) (bI.alloc _).cell bN.cell) (fun _ _ => trivial) (fun _ _ _ _ _ _ _ _ => trivial) (Below.refl _ _) (fun _ => rfl)
      (fun pre W => ((Boxed W n₀ 30 (.slice av path.length cv) ∧ Boxed W (n₀ + 1) 4 (.bool false)) ∧ (Boxed W M 9 (.string (foldB (leafB s) pre (path.take pre.length))) ∧ Boxed W (M + 1) 3 (.int .i64 (pre.length : Int))) ∧ pre.length ≤ path.length) ∧ Below n₀ w W)
      (fun c pre W => ((c = .ret ∧ path.length < pre.length) ∧ Boxed W (n₀ + 1) 4 (.bool false)) ∧ Below n₀ w W)
      (OwnFrom.and (OwnFrom.and (OwnFrom.and (Own.from (boxed_own n₀ 30 (fun _ => (.slice av path.length cv))) _) (Own.from (boxed_own (n₀ + 1) 4 (fun _ => .bool false)) _)) (OwnFrom.and (OwnFrom.and (Own.from (boxed_own M 9 (fun pre => .string (foldB (leafB s) pre (path.take (List.length pre))))) _) (Own.from (boxed_own (M + 1) 3 (fun pre => .int .i64 (List.length pre : Int))) _)) (ownFrom_pure _ (fun pre => List.length pre ≤ path.length)))) (ownFrom_below (by omega) (by simp; omega)))
      (fun c => OwnFrom.and (OwnFrom.and (ownFrom_pure _ (fun pre => c = .ret ∧ path.length < List.length pre)) (Own.from (boxed_own (n₀ + 1) 4 (fun _ => .bool false)) _)) (ownFrom_below (by omega) (by simp; omega)))
      ⟨⟨⟨(((bL1.alloc _).alloc _).alloc _).alloc _, (((bR1.alloc _).alloc _).alloc _).alloc _⟩, ⟨((bS.alloc _).alloc _).alloc _, (bU.alloc _).alloc _⟩, Nat.zero_le _⟩, hB2⟩
      (fun x a' W => ∃ Bx, M + 1 < Bx ∧ SideAt W Bx x ∧ a' = { tmps := #[.string s, .int .i64 (I : Int), .int .i64 (N : Int), .slice av path.length cv, .string root, undef, undef, undef, .pointer (some ⟨n₀, 0, none⟩), undef, .pointer (some ⟨n₀ + 1, 0, none⟩), .pointer (some ⟨M, 0, none⟩), .pointer (some ⟨M + 1, 0, none⟩), .pointer (some ⟨Bx, 0, none⟩), .int .i64 (I : Int), .int .i64 (N : Int), .bool true, .bool false, .string s, .string (leafB s), .int .i64 (I : Int), .int .i64 (N : Int), .func (.func 40) #[] #[.pointer (some ⟨M + 1 + 1, 0, none⟩), .pointer (some ⟨M + 1 + 1 + 1, 0, none⟩)], .agg #[.int .i64 (x.1.1 : Int), .int .i64 (x.1.2.1 : Int), .bool x.1.2.2], undef, undef, undef, undef, undef, undef, undef, undef, undef, undef, undef, undef, undef, undef, undef, undef, undef, undef, undef, undef, undef, undef, undef], defers := [] })
      ?hAx ?assign ?body ?done ?stop
    case hAx =>
      rintro x a' u X Y row ⟨Bx, h1, h2, h3⟩ hg hr
      exact ⟨Bx, h1, Own.from (sideAt_own Bx x) _ u X Y row h2 hg hr, h3⟩
    case assign =>
      rintro lp pre x W K ⟨⟨⟨hbl, hbr⟩, ⟨hbs, hbu⟩, hpp⟩, hB⟩ hK
      have hlt1 := hbu.lt
      have hsz0 := hB.size
      dsimp only [encSide]
      clear hgl Hr bL1 bR1 bS bU bI bN hB2 HS HU HC
      gi_wp2
      exact hK _ _ ((KeepsOthers.alloc _ _).from _) trivial ⟨⟨⟨hbl.alloc _, hbr.alloc _⟩, ⟨hbs.alloc _, hbu.alloc _⟩, hpp⟩, hB.alloc (by omega) _⟩ ⟨W.heap.size, hlt1, World.alloc_heap_new W _, rfl⟩
    case body =>
      rintro lp pre x a' W hlp hlr ⟨⟨⟨hbl, hbr⟩, ⟨hbs, hbu⟩, hpp⟩, hB⟩ ⟨Bx, hBx, hside, rfl⟩ hlt
      have cl := hbl.cell
      have cr := hbr.cell
      have fr := hbr.frozen
      have cu := hbu.cell
      by_cases hend : pre.length = path.length
      · have he : ((pre.length : Int) == (path.length : Int)) = true := by rw [beq_iff_eq]; omega
        clear hgl Hr bL1 bR1 bS bU bI bN hB2 HS HU HC
        gi_wp2
        exact ⟨(KeepsOthers.setCell _ _ _).from _, ⟨⟨rfl, by simp; omega⟩, hbr.set _⟩, hB.setCell (p := ⟨n₀ + 1, 0, none⟩) (by simp) _⟩
      · have he : ((pre.length : Int) == (path.length : Int)) = false := by rw [beq_eq_false_iff_ne]; omega
        have hpl2 : pre.length < path.length := by omega
        have hgl2 : Gl W := hgl.below hB (by omega)
        have hr2 := Hr.out
        rcases hr2 with ⟨_, _, hv, e, _⟩ | ⟨b, off, cap, hne, hv, hc1, hc2, hb, hcell⟩
        · subst e; simp at hpl2
        injection hv with ha _ hcap
        subst ha hcap
        have hce := hcell pre.length hpl2
        have hps2 := hps path[pre.length] (List.getElem_mem _)
        have Hfold := hide (foldB_snoc (leafB s) pre x path hpl2)
        generalize path[pre.length] = pe at hce hps2 Hfold
        have hce : W.cell? ⟨b, off + pre.length, none⟩ = some (.string pe) := (hB.cell (p := ⟨b, off + pre.length, none⟩) (by show b < n₀; omega)).trans hce
        have hsz := foldB_size (leafB s) (leafB_size s) pre (path.take pre.length)
        generalize foldB (leafB s) pre (path.take pre.length) = sum at hbs Hfold hsz
        have HJ : Hid (Calls Tryd.prog 26 #[.string sum, .string pe, .bool x.1.2.2] W.drew fun e w' => e = .returned (.string (stepB sum x pe)) ∧ Below W.drew.heap.size W.drew w') := hide (joined_any sum pe x.1.2.2 W.drew (by omega) hps2 hgl2.drew')
        generalize stepB sum x pe = nsum at HJ Hfold
        have cs0 : W.drew.cell? ⟨M, 0, none⟩ = some (.string sum) := hbs.cell
        have hbW : b < W.heap.size := by have := hB.size; omega
        have i1 : (pre.length : Int) < (path.length : Int) := by omega
        have T1 : ∀ W1, Below W.drew.heap.size W.drew W1 → (W1.heap[n₀]? = W.heap[n₀]? ∧ W1.heap[M + 1]? = W.heap[M + 1]? ∧ W1.heap[Bx]? = W.heap[Bx]? ∧ W1.heap[b]? = W.heap[b]?) ∧ (Boxed W1 n₀ 30 (.slice (some ⟨b, off, none⟩) path.length cv) ∧ Boxed W1 (n₀ + 1) 4 (.bool false) ∧ Boxed W1 M 9 (.string sum) ∧ Boxed W1 (M + 1) 3 (.int .i64 (pre.length : Int))) ∧ KeepsOthers W W1 ∧ Below n₀ w W1 := fun W1 hb1 =>
          ⟨⟨hb1.block n₀ hbl.lt, hb1.block (M + 1) hbu.lt, hb1.block Bx hside.lt, hb1.block b hbW⟩, ⟨(hb1.block n₀ hbl.lt).trans hbl, (hb1.block (n₀ + 1) hbr.lt).trans hbr, (hb1.block M hbs.lt).trans hbs, (hb1.block (M + 1) hbu.lt).trans hbu⟩, (KeepsOthers.drew W).trans (keepsOthers_below hb1), (hB.drew).trans (hb1.mono (by have := hbl.lt; show n₀ ≤ W.heap.size; omega))⟩
        clear hgl Hr bL1 bR1 bS bU bI bN hB2 HS HU HC hgl2 hcell hps
        gi_wp2
        refine round_held (S := fun W' => W'.heap[n₀]? = W.heap[n₀]? ∧ W'.heap[M + 1]? = W.heap[M + 1]? ∧ W'.heap[Bx]? = W.heap[Bx]? ∧ W'.heap[b]? = W.heap[b]?) (by kernel_rfl) (fun ⟨_, _, h⟩ => h) (by kernel_rfl) ⟨rfl, rfl, rfl, rfl⟩ (fun hHeld => ?_)
        refine wpAnyH_take (i := 1) (v := .slice (some ⟨b, off, none⟩) path.length cv) rfl (by kernel_rfl) (by kernel_rfl) (by kernel_rfl) (fun _ _ _ h => h) (Or.inl ⟨by rfl, ?_⟩) (by assumption) ?_
        · intro w' hS
          obtain ⟨g1, g2, g3, g4⟩ := hS
          have k1 := Boxed.cell (W := w') (g1.trans hbl)
          have k2 := Boxed.cell (W := w') (g2.trans hbu)
          have k3 := (SideAt.cells (W := w') (g3.trans hside)).2.2
          have k4 : w'.cell? ⟨b, off + pre.length, none⟩ = some (.string pe) := (World.cell?_of_block (w := W) g4).trans hce
          clear g1 g2 g3 g4
          go_simp
        simp only [Act.put, List.setIfInBounds_toArray]
        refine wpAnyH_take (i := 2) (v := .int .i64 (pre.length : Int)) rfl (by kernel_rfl) (by kernel_rfl) (by kernel_rfl) (fun _ _ _ h => h) (Or.inl ⟨by rfl, ?_⟩) (by assumption) ?_
        · intro w' hS
          obtain ⟨g1, g2, g3, g4⟩ := hS
          have k1 := Boxed.cell (W := w') (g1.trans hbl)
          have k2 := Boxed.cell (W := w') (g2.trans hbu)
          have k3 := (SideAt.cells (W := w') (g3.trans hside)).2.2
          have k4 : w'.cell? ⟨b, off + pre.length, none⟩ = some (.string pe) := (World.cell?_of_block (w := W) g4).trans hce
          clear g1 g2 g3 g4
          go_simp
        simp only [Act.put]
        refine wpAnyH_take (i := 3) (v := .pointer (some ⟨b, off + pre.length, none⟩)) rfl (by kernel_rfl) (by kernel_rfl) (by kernel_rfl) (fun _ _ _ h => h) (Or.inl ⟨by rfl, ?_⟩) (by assumption) ?_
        · intro w' hS
          obtain ⟨g1, g2, g3, g4⟩ := hS
          have k1 := Boxed.cell (W := w') (g1.trans hbl)
          have k2 := Boxed.cell (W := w') (g2.trans hbu)
          have k3 := (SideAt.cells (W := w') (g3.trans hside)).2.2
          have k4 : w'.cell? ⟨b, off + pre.length, none⟩ = some (.string pe) := (World.cell?_of_block (w := W) g4).trans hce
          clear g1 g2 g3 g4
          go_simp
        simp only [Act.put]
        refine wpAnyH_take (i := 4) (v := .string pe) rfl (by kernel_rfl) (by kernel_rfl) (by kernel_rfl) (fun _ _ _ h => h) (Or.inl ⟨by rfl, ?_⟩) (by assumption) ?_
        · intro w' hS
          obtain ⟨g1, g2, g3, g4⟩ := hS
          have k1 := Boxed.cell (W := w') (g1.trans hbl)
          have k2 := Boxed.cell (W := w') (g2.trans hbu)
          have k3 := (SideAt.cells (W := w') (g3.trans hside)).2.2
          have k4 : w'.cell? ⟨b, off + pre.length, none⟩ = some (.string pe) := (World.cell?_of_block (w := W) g4).trans hce
          clear g1 g2 g3 g4
          go_simp
        simp only [Act.put]
        refine wpAnyH_take (i := 5) (v := .pointer (some ⟨Bx, 2, none⟩)) rfl (by kernel_rfl) (by kernel_rfl) (by kernel_rfl) (fun _ _ _ h => h) (Or.inl ⟨by rfl, ?_⟩) (by assumption) ?_
        · intro w' hS
          obtain ⟨g1, g2, g3, g4⟩ := hS
          have k1 := Boxed.cell (W := w') (g1.trans hbl)
          have k2 := Boxed.cell (W := w') (g2.trans hbu)
          have k3 := (SideAt.cells (W := w') (g3.trans hside)).2.2
          have k4 : w'.cell? ⟨b, off + pre.length, none⟩ = some (.string pe) := (World.cell?_of_block (w := W) g4).trans hce
          clear g1 g2 g3 g4
          go_simp
        simp only [Act.put]
        refine wpAnyH_take (i := 6) (v := .bool x.1.2.2) rfl (by kernel_rfl) (by kernel_rfl) (by kernel_rfl) (fun _ _ _ h => h) (Or.inl ⟨by rfl, ?_⟩) (by assumption) ?_
        · intro w' hS
          obtain ⟨g1, g2, g3, g4⟩ := hS
          have k1 := Boxed.cell (W := w') (g1.trans hbl)
          have k2 := Boxed.cell (W := w') (g2.trans hbu)
          have k3 := (SideAt.cells (W := w') (g3.trans hside)).2.2
          have k4 : w'.cell? ⟨b, off + pre.length, none⟩ = some (.string pe) := (World.cell?_of_block (w := W) g4).trans hce
          clear g1 g2 g3 g4
          go_simp
        simp only [Act.put]
        refine wpAnyH_ready (rs := [0]) (by kernel_rfl) (by simp) ?_
        refine AllReadyH.cons rfl (fun K hK => ?_) AllReadyH.nil
        go_simp
        refine hK.out _ _ hHeld (fun hHeld => ?_)
        clear hK K
        refine wpAnyH_ready (rs := [7]) (by kernel_rfl) (by simp) ?_
        refine AllReadyH.cons rfl (fun K hK => ?_) AllReadyH.nil
        go_simp
        refine HJ.out.mono ?_
        rintro e W1 ⟨rfl, hb1⟩
        obtain ⟨t1, ⟨l1, r1, s1, u1⟩, ko, hBW⟩ := T1 W1 hb1
        have cs1 := s1.cell
        have fs1 := s1.frozen
        refine hK.out _ _ t1 (fun hHeld => ?_)
        clear hK K
        refine wpAnyH_ready (rs := [8]) (by kernel_rfl) (by simp) ?_
        refine AllReadyH.cons rfl (fun K hK => ?_) AllReadyH.nil
        go_simp
        have gs := grownBy_setCell' W1 M (.string nsum)
        have sd1 : SideAt W1 Bx x := t1.2.2.1.trans hside
        have l2 := l1.other (show n₀ ≠ M by omega) (.string nsum)
        have r2 := r1.other (show n₀ + 1 ≠ M by omega) (.string nsum)
        have s2 := s1.set (.string nsum)
        have u2 := u1.other (show M + 1 ≠ M by omega) (.string nsum)
        have cu2 := u2.cell
        have fu2 := u2.frozen
        refine hK.out _ _ ⟨l2.trans hbl.symm, u2.trans hbu.symm, (gs.block Bx sd1.lt (by simp; omega)).trans t1.2.2.1, (gs.block b (by have := hb1.size; have : W.drew.heap.size = W.heap.size := rfl; omega) (by simp; omega)).trans t1.2.2.2⟩ (fun hHeld => ?_)
        clear hK K
        refine wpAnyH_done (by kernel_rfl) ?_ _
        gi_wp2
        exact ⟨(ko.trans ((KeepsOthers.setCell _ _ _).trans (KeepsOthers.setCell _ _ _))).from _, trivial, ⟨⟨⟨l2.other (by omega) _, r2.other (by omega) _⟩, ⟨by rw [List.length_append, List.length_singleton, Hfold.out]; exact s2.other (by omega) _, by rw [List.length_append, List.length_singleton]; exact u2.set _⟩, by simp; omega⟩, (hBW.setCell (p := ⟨M, 0, none⟩) (by show n₀ ≤ M; omega) _).setCell (p := ⟨M + 1, 0, none⟩) (by show n₀ ≤ M + 1; omega) _⟩⟩
    case done =>
      rintro D ys W hD rfl ⟨⟨⟨hbl, hbr⟩, ⟨hbs, hbu⟩, hpp⟩, hB⟩ hK
      obtain ⟨YS, hYS⟩ : ∃ YS, YS = sidesS N I 0 N (by omega) := ⟨_, rfl⟩
      rw [← hYS] at hbs hbu hpp HU
      have cl := hbl.cell
      have cr := hbr.cell
      have fr := hbr.frozen
      have cs := hbs.cell
      have cu := hbu.cell
      by_cases hend : YS.length = path.length
      · have he : ((YS.length : Int) == (path.length : Int)) = true := by rw [beq_iff_eq]; omega
        have HF := hide (HU.out.1 hend.symm)
        rw [List.take_of_length_le (by omega)] at cs
        generalize foldB (leafB s) YS path = sum at cs HF
        clear hgl Hr bL1 bR1 bS bU bI bN hB2 HS HU hbs hbu hYS hend
        by_cases hq : sum = root
        · subst hq
          gi_wp2
          have hK' := (KeepsOthers.setCell W ⟨n₀ + 1, 0, none⟩ (.bool true)).same D _ hK rfl
          refine ⟨by simp, .inl ⟨_, _, rfl, run_takeDeferred hK', ?_⟩⟩
          have hc5 := cell_kept (World.cell?_setCell_same' W ⟨n₀ + 1, 0, none⟩ (.bool true) (by rw [cr]; rfl)) (grownBy_putObj' _ D (.deferred none)) (fun r e => by cases e; exact ⟨_, hK', rfl⟩)
          refine ⟨.bool true, ?_, by rw [HC.out, HF.out]; simp, (hB.setCell (p := ⟨n₀ + 1, 0, none⟩) (by simp) _).trans (belowK_b (w := w) (by omega) _ D _ _ (by simp at hD; omega) hK' rfl rfl)⟩
          simp [results, Tryd.f11, go_sem, hc5]
        · have hne := bytes_ne hq
          have Hd := hide (decide_eq_false hq)
          clear hq
          gi_wp2
          have hK' := (KeepsOthers.setCell W ⟨n₀ + 1, 0, none⟩ (.bool false)).same D _ hK rfl
          refine ⟨by simp, .inl ⟨_, _, rfl, run_takeDeferred hK', ?_⟩⟩
          have hc5 := cell_kept (World.cell?_setCell_same' W ⟨n₀ + 1, 0, none⟩ (.bool false) (by rw [cr]; rfl)) (grownBy_putObj' _ D (.deferred none)) (fun r e => by cases e; exact ⟨_, hK', rfl⟩)
          refine ⟨.bool false, ?_, by rw [HC.out, HF.out]; simp only; rw [Hd.out]; rfl, (hB.setCell (p := ⟨n₀ + 1, 0, none⟩) (by simp) _).trans (belowK_b (w := w) (by omega) _ D _ _ (by simp at hD; omega) hK' rfl rfl)⟩
          simp [results, Tryd.f11, go_sem, hc5]
      · have he : ((YS.length : Int) == (path.length : Int)) = false := by rw [beq_eq_false_iff_ne]; omega
        have HF := hide (HU.out.2 (by omega))
        clear hgl Hr bL1 bR1 bS bU bI bN hB2 HS HU hbs hbu hYS hend
        gi_wp2
        have hK' := (KeepsOthers.setCell W ⟨n₀ + 1, 0, none⟩ (.bool false)).same D _ hK rfl
        refine ⟨by simp, .inl ⟨_, _, rfl, run_takeDeferred hK', ?_⟩⟩
        have hc5 := cell_kept (World.cell?_setCell_same' W ⟨n₀ + 1, 0, none⟩ (.bool false) (by rw [cr]; rfl)) (grownBy_putObj' _ D (.deferred none)) (fun r e => by cases e; exact ⟨_, hK', rfl⟩)
        refine ⟨.bool false, ?_, by rw [HC.out, HF.out]; rfl, (hB.setCell (p := ⟨n₀ + 1, 0, none⟩) (by simp) _).trans (belowK_b (w := w) (by omega) _ D _ _ (by simp at hD; omega) hK' rfl rfl)⟩
        simp [results, Tryd.f11, go_sem, hc5]
    case stop =>
      rintro D c pre W hD hpre ⟨⟨⟨rfl, hlt⟩, hbr⟩, hB⟩ hK
      have HF := hide (HS.out pre hpre hlt)
      clear hgl Hr bL1 bR1 bS bU bI bN hB2 HS HU
      gi_wp2
      refine ⟨by simp, .inl ⟨_, _, rfl, run_takeDeferred hK, ?_⟩⟩
      have hc5 := cell_kept hbr.cell (grownBy_putObj' _ D (.deferred none)) (fun r e => by cases e; exact ⟨_, hK, rfl⟩)
      refine ⟨.bool false, ?_, by rw [HC.out, HF.out]; rfl, hB.trans (belowK_b (w := w) (by omega) W D _ _ (by simp at hD; omega) hK rfl rfl)⟩
      simp [results, Tryd.f11, go_sem, hc5]
  · have hth : thereB i n = false := by simp [thereB]; omega
    have hcR := bR.cell
    have hfR := bR.frozen
    gi_wp2_with (first
      | ((first | refine ⟨trivial, hdd _, ?_⟩ | refine ⟨hdd _, ?_⟩ | refine ⟨trivial, ?_⟩ | skip); gi_at_call 23; refine (callsIn_wide.2 (leafThere_any _ _ _)).mono ?_; rintro e w1 ⟨rfl, rfl⟩))
    have Hc := checkB_no s i n path root (by omega)
    refine ⟨.bool false, ?_, by rw [Hc], by rw [hn₀]; exact hB0⟩
    simp [results, Tryd.f11, go_sem, hcR]
end Go.Proofs.YtdelegamcebflaaDoor

namespace Go.Proofs.YtdelegamcebflaaDoor
open Go.RowKit
set_option linter.unusedVariables false

/-- A cursor at block g over the bytes 'code', which lie in the world w0 and have not turned since. -/
structure Cur (w0 w : World) (g : Nat) (cv : Value) (code : List UInt8) : Prop where
  rd : RdB w0 cv code
  bel : Below w0.heap.size w0 w
  le : w0.heap.size ≤ g
  blk : ∃ i h : Int, w.heap[g]? = some (.cells #[cv, .int .i64 i, .int .i64 h] 58 (0, 0)) ∧ 0 ≤ i ∧ i ≤ code.length ∧ -9223372036854775808 ≤ h ∧ h ≤ 9223372036854775807

def mulK (h : Int) : Int := wrap64 (h * 6364136223846793005)

theorem wrap64_bd (x : Int) : -9223372036854775808 ≤ wrap64 x ∧ wrap64 x ≤ 9223372036854775807 := by unfold wrap64; omega

theorem and255_bd (x : Int) : 0 ≤ bits .and .i64 x 255 ∧ bits .and .i64 x 255 ≤ 255 := by
  show 0 ≤ IntKind.i64.wrap ((BitVec.ofInt 64 x &&& BitVec.ofInt 64 255).toNat : Int) ∧ IntKind.i64.wrap ((BitVec.ofInt 64 x &&& BitVec.ofInt 64 255).toNat : Int) ≤ 255
  have h : (BitVec.ofInt 64 x &&& BitVec.ofInt 64 255).toNat ≤ 255 := by
    rw [BitVec.toNat_and]
    exact Nat.le_trans Nat.and_le_right (by decide)
  rw [IntKind.wrap_i64]
  omega

theorem cur_cells {w : World} {g : Nat} {a b c : Value} {t : TypeId} (h : w.heap[g]? = some (.cells #[a, b, c] t (0, 0))) :
    w.cell? ⟨g, 0, none⟩ = some a ∧ w.cell? ⟨g, 1, none⟩ = some b ∧ w.cell? ⟨g, 2, none⟩ = some c ∧ w.frozen? ⟨g, 0, none⟩ = false ∧ w.frozen? ⟨g, 1, none⟩ = false ∧ w.frozen? ⟨g, 2, none⟩ = false :=
  ⟨cell_of_row w g 0 _ t (0, 0) h, cell_of_row w g 1 _ t (0, 0) h, cell_of_row w g 2 _ t (0, 0) h, frozen_of_row w g 0 _ t h, frozen_of_row w g 1 _ t h, frozen_of_row w g 2 _ t h⟩

theorem cur_set {w : World} {g : Nat} {a b c : Value} {t : TypeId} (h : w.heap[g]? = some (.cells #[a, b, c] t (0, 0))) (u : Value) :
    ((w.setCell ⟨g, 2, none⟩ u).heap[g]? = some (.cells #[a, b, u] t (0, 0)) ∧ w.grownBy (w.setCell ⟨g, 2, none⟩ u) (some g)) ∧
    ((w.setCell ⟨g, 1, none⟩ u).heap[g]? = some (.cells #[a, u, c] t (0, 0)) ∧ w.grownBy (w.setCell ⟨g, 1, none⟩ u) (some g)) :=
  ⟨⟨heap_setCell_same w g 2 #[a, b, c] t u h, ⟨rfl, rfl, rfl, by simp, fun k _ hk => heap_setCell_other w ⟨g, 2, none⟩ k u (fun e => hk (by simp [e]))⟩⟩,
   ⟨heap_setCell_same w g 1 #[a, b, c] t u h, ⟨rfl, rfl, rfl, by simp, fun k _ hk => heap_setCell_other w ⟨g, 1, none⟩ k u (fun e => hk (by simp [e]))⟩⟩⟩

theorem grw_trans {a b c : World} {row : Option Nat} (h : a.grownBy b row) (k : b.grownBy c row) : a.grownBy c row :=
  ⟨k.os.trans h.os, k.tape.trans h.tape, k.output.trans h.output, Nat.le_trans h.size k.size, fun i hi hr => (k.block i (Nat.lt_of_lt_of_le hi h.size) hr).trans (h.block i hi hr)⟩
theorem grw_drewN {a b : World} {row : Option Nat} (h : a.grownBy b row) (n : Nat) : a.grownBy (b.drewN n) row := ⟨h.os, h.tape, h.output, h.size, h.block⟩

theorem Cur.step {w0 w w' : World} {g : Nat} {cv : Value} {code : List UInt8} (hc : Cur w0 w g cv code) (hg : w.grownBy w' (some g)) (i h : Int)
    (hb : w'.heap[g]? = some (.cells #[cv, .int .i64 i, .int .i64 h] 58 (0, 0))) (h1 : 0 ≤ i) (h2 : i ≤ code.length) (h3 : -9223372036854775808 ≤ h) (h4 : h ≤ 9223372036854775807) : Cur w0 w' g cv code :=
  ⟨hc.rd, hc.bel.grown hg hc.bel.size (fun k hk => by cases hk; exact hc.le), hc.le, ⟨i, h, hb, h1, h2, h3, h4⟩⟩

theorem Cur.byte {w0 w : World} {g b off cap : Nat} {code : List UInt8} (hbel : Below w0.heap.size w0 w) (hb : b < w0.heap.size) (j : Nat) {v : Value} (hc : w0.cell? ⟨b, off + j, none⟩ = some v) : w.cell? ⟨b, off + j, none⟩ = some v := (hbel.cell (p := ⟨b, off + j, none⟩) hb).trans hc

set_option maxRecDepth 20000 in
set_option maxHeartbeats 1000000 in
theorem l1Byte_any (w0 w : World) (g : Nat) (cv : Value) (code : List UInt8) (hc : Cur w0 w g cv code) (hl : code.length ≤ 1048576) :
    Calls Tryd.prog 43 #[.pointer (some ⟨g, 0, none⟩)] w fun e w' => ∃ x : Nat, e = .returned (.int .i64 (x : Int)) ∧ x ≤ 255 ∧ Cur w0 w' g cv code ∧ w.grownBy w' (some g) := by
  obtain ⟨i, h, hb, hi0, hi1, hh0, hh1⟩ := hc.blk
  obtain ⟨c0, c1, c2, f0, f1, f2⟩ := cur_cells hb
  have Hc := hide hc
  have Hb := hide hb
  clear hb
  have km : ∀ h : Int, wrap64 (h * 6364136223846793005) = mulK h := fun _ => rfl
  obtain ⟨I, rfl⟩ := Int.eq_ofNat_of_zero_le hi0
  obtain ⟨av, capv, hcv⟩ := hc.rd.shape
  have Hrd := hide hc.rd
  subst hcv
  clear hc
  go_enter Tryd.func43, Tryd.ntmps43
  go_wp2
  clear km
  generalize wrap64 (h * 6364136223846793005) = Y
  have hHb := wrap64_bd (mulK h + 1442695040888963407)
  generalize wrap64 (mulK h + 1442695040888963407) = H at hHb
  obtain ⟨hH0, hH1⟩ := hHb
  have hs := (cur_set Hb.out (.int .i64 H)).1
  generalize w.setCell ⟨g, 2, none⟩ (.int .i64 H) = w1 at hs
  obtain ⟨hb1, hg1⟩ := hs
  clear c0 c1 c2 f0 f1 f2
  obtain ⟨c0, c1, c2, f0, f1, f2⟩ := cur_cells hb1
  have Hb1 := hide hb1
  have Hg1 := hide hg1
  clear hb1 hg1
  go_quiet (fail)
  go_wp2
  have hX := and255_bd (bits BinOp.xor IntKind.i64 (H / 8589934592) (H / 140737488355328))
  generalize bits BinOp.and IntKind.i64 (bits BinOp.xor IntKind.i64 (H / 8589934592) (H / 140737488355328)) 255 = X at hX
  obtain ⟨hX0, hX1⟩ := hX
  obtain ⟨x, rfl⟩ := Int.eq_ofNat_of_zero_le hX0
  have hx : x ≤ 255 := by omega
  clear hX0 hX1
  by_cases hI : I < code.length
  · rcases Hrd.out with ⟨_, _, _, e, _⟩ | ⟨b, off, cap, h0, hv, h1, h2, h3, h4⟩
    · rw [e] at hI; simp at hI
    · cases hv
      have hc4 : w1.cell? ⟨b, off + I, none⟩ = some (.int .u8 (code[I].toNat : Int)) := Cur.byte (g := g) (cap := capv) (code := code) (Hc.out.step Hg1.out _ _ Hb1.out (by omega) (by omega) hH0 hH1).bel h3 I (h4 I hI)
      have hcb : (code[I].toNat : Int) < 256 := by have := code[I].toNat_lt; omega
      generalize code[I].toNat = C at hc4 hcb
      have hlt : (I : Int) < (code.length : Int) := by omega
      clear h4 h0 h1 h2 h3
      go_quiet (fail)
      go_wp2
      go_quiet (fail)
      go_wp2
      have hY := and255_bd ((x : Int) + (C : Int))
      obtain ⟨y, hy⟩ := Int.eq_ofNat_of_zero_le hY.1
      have hs2 := (cur_set Hb1.out (.int .i64 ((I : Int) + 1))).2
      go_ret
      refine ⟨y, ret_int hy, by omega, Hc.out.step (grw_trans Hg1.out (grw_drewN hs2.2 _)) ((I : Int) + 1) H hs2.1 (by omega) (by omega) hH0 hH1, grw_trans Hg1.out (grw_drewN hs2.2 _)⟩
  · have hd : ¬ (I : Int) < (code.length : Int) := by omega
    go_quiet (fail)
    go_wp2
    go_ret
    exact ⟨x, rfl, hx, Hc.out.step (grw_drewN Hg1.out _) _ _ Hb1.out (by omega) (by omega) hH0 hH1, grw_drewN Hg1.out _⟩

theorem Cur.below {B : Nat} {w0 w w' : World} {g : Nat} {cv : Value} {code : List UInt8} (hc : Cur w0 w g cv code) (hb : Below B w w') (hg : g < B) : Cur w0 w' g cv code := by
  obtain ⟨i, h, hbk, r⟩ := hc.blk
  exact ⟨hc.rd, hc.bel.trans (hb.mono (by have := hc.le; omega)), hc.le, ⟨i, h, by rw [hb.block g hg]; exact hbk, r⟩⟩
theorem Cur.lt {w0 w : World} {g : Nat} {cv : Value} {code : List UInt8} (hc : Cur w0 w g cv code) : g < w.heap.size := by
  obtain ⟨i, h, hbk, r⟩ := hc.blk
  exact (Array.getElem?_eq_some_iff.1 hbk).1
theorem Cur.drewN {w0 w : World} {g : Nat} {cv : Value} {code : List UInt8} (hc : Cur w0 w g cv code) (n : Nat) : Cur w0 (w.drewN n) g cv code :=
  hc.below (B := g + 1) (below_drewN (Below.refl _ _) n) (by omega)

theorem grw_below {B : Nat} {a b c : World} {row : Option Nat} (h : a.grownBy b row) (k : Below B b c) (hB : a.heap.size ≤ B) : a.grownBy c row :=
  ⟨k.os.trans h.os, k.tape.trans h.tape, k.output.trans h.output, Nat.le_trans h.size k.size, fun i hi hr => (k.block i (by omega)).trans (h.block i hi hr)⟩
theorem grw_of_below {B : Nat} {a b : World} (row : Option Nat) (k : Below B a b) (hB : a.heap.size ≤ B) : a.grownBy b row :=
  ⟨k.os, k.tape, k.output, k.size, fun i hi _ => k.block i (by omega)⟩
theorem below_grw {B g : Nat} {a b : World} (h : a.grownBy b (some g)) (hB : B ≤ g) (hs : B ≤ a.heap.size) : Below B a b :=
  (Below.refl _ _).grown h hs (fun k hk => by cases hk; exact hB)

set_option maxRecDepth 20000 in
set_option maxHeartbeats 1000000 in
theorem l1Below_any (w0 w : World) (g : Nat) (cv : Value) (code : List UInt8) (n : Int) (hc : Cur w0 w g cv code) (hl : code.length ≤ 1048576) (h1 : -9223372036854775808 ≤ n) (h2 : n ≤ 9223372036854775807) :
    Calls Tryd.prog 28 #[.pointer (some ⟨g, 0, none⟩), .int .i64 n] w fun e w' => ∃ x : Nat, e = .returned (.int .i64 (x : Int)) ∧ (0 < n → (x : Int) < n) ∧ (n ≤ 0 → x = 0) ∧ Cur w0 w' g cv code ∧ w.grownBy w' (some g) := by
  have Hc := hide hc
  clear hc
  by_cases hn : n ≤ 0
  · go_enter Tryd.func28, Tryd.ntmps28
    go_wp2
    go_ret
    exact ⟨0, rfl, fun h => by omega, fun _ => rfl, Hc.out, World.grownBy.refl _ _⟩
  · by_cases hn2 : n ≤ 256
    · have hn0 : (n == 0) = false := by rw [beq_eq_false_iff_ne]; omega
      go_enter Tryd.func28, Tryd.ntmps28
      go_wp2_with fail
      refine (l1Byte_any _ _ _ _ _ Hc.out hl).mono ?_
      rintro e w1 ⟨x, rfl, hx, hc1, hg1⟩
      have hm := Int.emod_nonneg (x : Int) (show n ≠ 0 from by omega)
      have hm2 := Int.emod_lt_of_pos (x : Int) (show 0 < n from by omega)
      go_wp2
      go_ret
      obtain ⟨y, hy⟩ := Int.eq_ofNat_of_zero_le hm
      exact ⟨y, ret_int hy, fun _ => by omega, fun h => by omega, hc1, hg1⟩
    · have hn0 : (n == 0) = false := by rw [beq_eq_false_iff_ne]; omega
      go_enter Tryd.func28, Tryd.ntmps28
      go_wp2_with fail
      refine (l1Byte_any _ _ _ _ _ Hc.out hl).mono ?_
      rintro e w1 ⟨x, rfl, hx, hc1, hg1⟩
      go_wp2_with fail
      refine (l1Byte_any _ _ _ _ _ hc1 hl).mono ?_
      rintro e w2 ⟨y, rfl, hy, hc2, hg2⟩
      go_wp2_with fail
      refine (l1Byte_any _ _ _ _ _ hc2 hl).mono ?_
      rintro e w3 ⟨z, rfl, hz, hc3, hg3⟩
      have hs0 : 0 ≤ (x : Int) * 65536 + (y : Int) * 256 + (z : Int) := by omega
      have hm := Int.emod_nonneg ((x : Int) * 65536 + (y : Int) * 256 + (z : Int)) (show n ≠ 0 from by omega)
      have hm2 := Int.emod_lt_of_pos ((x : Int) * 65536 + (y : Int) * 256 + (z : Int)) (show 0 < n from by omega)
      go_wp2
      go_ret
      obtain ⟨r, hr⟩ := Int.eq_ofNat_of_zero_le hm
      exact ⟨r, ret_int hr, fun _ => by omega, fun h => by omega, hc3, grw_trans (grw_trans hg1 hg2) hg3⟩

/-- The numbers ns lie at the head of block b. -/
def IntsAt (w : World) (b : Nat) (ns : List Int) : Prop := b < w.heap.size ∧ ∀ j (h : j < ns.length), w.cell? ⟨b, j, none⟩ = some (.int .i64 ns[j])
theorem ints_new (w : World) (ns : List Int) (t : TypeId) : IntsAt (w.alloc (.cells (ns.map (Value.int .i64)).toArray t)) w.heap.size ns := by
  refine ⟨by simp, fun j hj => ?_⟩
  rw [World.cell?_alloc_at _ _ _ _ rfl]
  simp [hj]
theorem IntsAt.grw {w w' : World} {b g : Nat} {ns : List Int} (h : IntsAt w b ns) (hg : w.grownBy w' (some g)) (hne : b ≠ g) : IntsAt w' b ns :=
  ⟨by have := hg.size; have := h.1; omega, fun j hj => hg.cell (a := ⟨b, j, none⟩) (h.2 j hj) (by simp [hne])⟩

set_option maxRecDepth 20000 in
theorem l1Int_any (w0 w : World) (g b : Nat) (cv : Value) (code : List UInt8) (ns : List Int) (hc : Cur w0 w g cv code) (hl : code.length ≤ 1048576) (hi : IntsAt w b ns) (hne : b ≠ g) (hn : 0 < ns.length) (hn2 : ns.length ≤ 1000) (cap : Nat) :
    Calls Tryd.prog 29 #[.pointer (some ⟨g, 0, none⟩), .slice (some ⟨b, 0, none⟩) ns.length cap] w fun e w' => ∃ n : Int, e = .returned (.int .i64 n) ∧ n ∈ ns ∧ Cur w0 w' g cv code ∧ w.grownBy w' (some g) := by
  have Hc := hide hc
  have Hi := hide hi
  clear hc hi
  go_enter Tryd.func29, Tryd.ntmps29
  go_wp2_with fail
  refine (l1Below_any _ _ _ _ _ _ Hc.out hl (by omega) (by omega)).mono ?_
  rintro e w1 ⟨x, rfl, hx1, hx2, hc1, hg1⟩
  have hxl : x < ns.length := by have := hx1 (by omega); omega
  have hcell := (Hi.out.grw hg1 hne).2 x hxl
  have hmem := hide (List.getElem_mem hxl)
  generalize ns[x] = n at hcell hmem
  clear hx1 hx2
  go_wp2
  go_ret
  exact ⟨n, rfl, hmem.out, hc1, hg1⟩


end Go.Proofs.YtdelegamcebflaaDoor

namespace Go.Proofs.YtdelegamcebflaaDoor
open Go.RowKit
set_option linter.unusedVariables false

theorem andM_bd (x : Int) : 0 ≤ bits .and .i64 x 1073741823 ∧ bits .and .i64 x 1073741823 ≤ 1073741823 := by
  show 0 ≤ IntKind.i64.wrap ((BitVec.ofInt 64 x &&& BitVec.ofInt 64 1073741823).toNat : Int) ∧ IntKind.i64.wrap ((BitVec.ofInt 64 x &&& BitVec.ofInt 64 1073741823).toNat : Int) ≤ 1073741823
  have h : (BitVec.ofInt 64 x &&& BitVec.ofInt 64 1073741823).toNat ≤ 1073741823 := by
    rw [BitVec.toNat_and]
    exact Nat.le_trans Nat.and_le_right (by decide)
  rw [IntKind.wrap_i64]
  omega

theorem cur_new (w : World) (cv : Value) (code : List UInt8) (h : Int) (hr : RdB w cv code) (h1 : -9223372036854775808 ≤ h) (h2 : h ≤ 9223372036854775807) :
    Cur w (w.alloc (.cells #[cv, .int .i64 0, .int .i64 h] 58)) w.heap.size cv code ∧ Below w.heap.size w (w.alloc (.cells #[cv, .int .i64 0, .int .i64 h] 58)) :=
  ⟨⟨hr, (Below.refl _ _).alloc (Nat.le_refl _) _, Nat.le_refl _, ⟨0, h, heap_alloc_new w _, by omega, by omega, h1, h2⟩⟩, (Below.refl _ _).alloc (Nat.le_refl _) _⟩

set_option maxRecDepth 20000 in
set_option maxHeartbeats 400000 in
theorem l1New_any (w : World) (cv : Value) (code : List UInt8) (hr : RdB w cv code) (hl : code.length ≤ 1048576) :
    Calls Tryd.prog 13 #[cv] w fun e w' => e = .returned (.pointer (some ⟨w.heap.size, 0, none⟩)) ∧ Cur w w' w.heap.size cv code ∧ Below w.heap.size w w' := by
  have Hn := hide (fun h h1 h2 => cur_new w cv code h hr h1 h2)
  rcases hr with ⟨a, cap, rfl, rfl, -⟩ | ⟨b, off, cap, h0, rfl, h1, h2, h3, h4⟩
  · go_enter Tryd.func13, Tryd.ntmps13
    go_wp2
    refine wp_loop_rounds 1 ?_
    rw [rounds_succ]
    go_wp2
    go_ret
    exact ⟨rfl, Hn.out _ (by omega) (by omega)⟩
  · have H4 := hide h4
    clear h4
    go_enter Tryd.func13, Tryd.ntmps13
    go_wp2
    go_loop [3, 4] (fun hv iv => ∃ (k : Nat) (h : Int), k ≤ code.length ∧ iv = .int .i64 (k : Int) ∧ hv = .int .i64 h ∧ 0 ≤ h ∧ h ≤ 1073741823) (fun _ iv => code.length - (intOf iv).toNat)
    case atStart => exact ⟨0, _, Nat.zero_le _, rfl, rfl, by omega, by omega⟩
    case round =>
      obtain ⟨k, h, hk, rfl, rfl, hh0, hh1⟩ := hrel
      by_cases hlt : k < code.length
      · by_cases h4000 : k < 4000
        · have hc := H4.out k hlt
          have hcb : (code[k].toNat : Int) < 256 := by have := code[k].toNat_lt; omega
          generalize code[k].toNat = C at hc hcb
          have hA := andM_bd (h * 137 + (C : Int) + 11)
          go_wp2
          go_round
          case rel => exact ⟨k + 1, _, by omega, by go_num, rfl, hA.1, hA.2⟩
          case measure => simp [intOf]; omega
        · go_wp2
          go_ret
          exact ⟨rfl, Hn.out _ (by omega) (by omega)⟩
      · go_wp2
        go_ret
        exact ⟨rfl, Hn.out _ (by omega) (by omega)⟩
end Go.Proofs.YtdelegamcebflaaDoor

namespace Go.Proofs.YtdelegamcebflaaDoor
open Go.RowKit
set_option linter.unusedVariables false

theorem Cur.drew {w0 w : World} {g : Nat} {cv : Value} {code : List UInt8} (hc : Cur w0 w g cv code) : Cur w0 w.drew g cv code := ⟨hc.rd, hc.bel.drew, hc.le, hc.blk⟩
theorem OwnB.notg {base : Nat} {w w' : World} {v : Value} {l : List UInt8} {g : Nat} (h : OwnB base w v l) (hg : w.grownBy w' (some g)) (hb : g < base) : OwnB base w' v l :=
  World.ownsRow.kept h hg (by right; intro e; have := (World.ownsRow.lt h g e).1; omega)
theorem OwnS.notg {base : Nat} {w w' : World} {v : Value} {l : List ByteArray} {g : Nat} (h : OwnS base w v l) (hg : w.grownBy w' (some g)) (hb : g < base) : OwnS base w' v l :=
  World.ownsRow.kept h hg (by right; intro e; have := (World.ownsRow.lt h g e).1; omega)


set_option maxRecDepth 20000 in
theorem l1Once_any (w0 w : World) (g : Nat) (cv : Value) (code : List UInt8) (n : Int) (hc : Cur w0 w g cv code) (hl : code.length ≤ 1048576) (h1 : -9223372036854775808 ≤ n) (h2 : n ≤ 9223372036854775807) :
    Calls Tryd.prog 57 #[.pointer (some ⟨g, 0, none⟩), .int .i64 n] w fun e w' => ∃ b : Bool, e = .returned (.bool b) ∧ Cur w0 w' g cv code ∧ w.grownBy w' (some g) := by
  go_enter Tryd.func57, Tryd.ntmps57
  go_wp2_with fail
  refine (l1Below_any _ _ _ _ _ _ hc hl h1 h2).mono ?_
  rintro e w1 ⟨x, rfl, hx1, _, hc1, hg1⟩
  clear hx1
  go_wp2
  go_ret
  exact ⟨_, rfl, hc1, hg1⟩

theorem rd_one_str' (w : World) (n : Nat) (s : ByteArray) (h : n = w.heap.size) : RdS (w.alloc (.cells #[.string s] 9)) (.slice (some ⟨n, 0, none⟩) 1 1) [s] := by
  subst h; exact rd_one_str w s

/-- The five texts from which names are drawn lie in a new block. -/
theorem five_at (w : World) (k : Nat) (h : k < 5) : ∃ s : ByteArray, s.size = 1 ∧ (w.alloc (.cells #[.string ⟨#[97]⟩, .string ⟨#[98]⟩, .string ⟨#[99]⟩, .string ⟨#[100]⟩, .string ⟨#[101]⟩] 9)).cell? ⟨w.heap.size, k, none⟩ = some (.string s) := by
  rw [World.cell?_alloc_at _ _ _ _ rfl]
  rcases (show k = 0 ∨ k = 1 ∨ k = 2 ∨ k = 3 ∨ k = 4 from by omega) with rfl | rfl | rfl | rfl | rfl
  · exact ⟨_, rfl, rfl⟩
  · exact ⟨_, rfl, rfl⟩
  · exact ⟨_, rfl, rfl⟩
  · exact ⟨_, rfl, rfl⟩
  · exact ⟨_, rfl, rfl⟩

set_option maxRecDepth 20000 in
set_option maxHeartbeats 1000000 in
theorem l1Names_any (w0 w : World) (g : Nat) (cv : Value) (code : List UInt8) (hc : Cur w0 w g cv code) (hl : code.length ≤ 1048576) :
    Calls Tryd.prog 56 #[.pointer (some ⟨g, 0, none⟩)] w fun e w' => ∃ (v' : Value) (ls : List ByteArray), e = .returned v' ∧ OwnS w.heap.size w' v' ls ∧ ls.length ≤ 5 ∧ (∀ s ∈ ls, s.size = 1) ∧ Cur w0 w' g cv code ∧ w.grownBy w' (some g) := by
  have hb0 : Below w.heap.size w (w.alloc (.cells #[] 9)) := (Below.refl _ _).alloc (Nat.le_refl _) _
  have Ho := hide (own_nilS w w.heap.size (Nat.le_refl _))
  have Hc := hide (hc.below hb0 hc.lt)
  have Hg := hide (grw_of_below (some g) hb0 (Nat.le_refl _))
  have hgl := hc.lt
  clear hc hb0
  go_enter Tryd.func56, Tryd.ntmps56
  go_wp2
  go_loopw [3, 4] (fun bv iv wr => ∃ (k : Nat) (ls : List ByteArray), k ≤ 5 ∧ iv = .int .i64 (k : Int) ∧ OwnS w.heap.size wr bv ls ∧ ls.length ≤ k ∧ (∀ s ∈ ls, s.size = 1) ∧ Cur w0 wr g cv code ∧ w.grownBy wr (some g)) (fun _ iv _ => 5 - (intOf iv).toNat)
  case atStart => exact ⟨0, [], Nat.zero_le _, rfl, Ho.out, by simp, by simp, Hc.out, Hg.out⟩
  case round =>
    obtain ⟨k, ls, hk, rfl, ho, hpl, hsz1, hc, hg⟩ := hrel
    have Hs1 := hide hsz1
    have hpl2 : ls.length ≤ 5 := by omega
    have Hor := hide ho
    have Hcr := hide hc
    have Hgr := hide hg
    have hsz := hg.size
    clear ho hc hg hsz1
    by_cases hlt : k < 5
    · go_wp2_with fail
      refine (l1Once_any _ _ _ _ _ _ Hcr.out hl (by omega) (by omega)).mono ?_
      rintro e w1 ⟨bb, rfl, hc1, hg1⟩
      have Ho1 := hide (Hor.out.notg hg1 hgl)
      have Hc1 := hide hc1
      have Hg1 := hide (grw_trans Hgr.out hg1)
      have hsz1 := hg1.size
      clear hc1 hg1
      cases bb
      · obtain ⟨s, hs1, hcell⟩ := five_at w1 k hlt
        have Hss := hide hs1
        clear hs1
        go_wp2_with (at_builtin; refine app_ownS _ rfl _ _ rfl w.heap.size _ _ ls [s] rfl rfl ((Ho1.out.alloc _).alloc _) (rd_one_str' _ _ _ (by simp)) (by simp; omega) (by simp; omega) ?_; intro v2 w2 ho2 hb2)
        have hb2' : Below w.heap.size w1 w2 := (((Below.refl _ _).alloc (by omega) _).alloc (by simp; omega) _).trans hb2
        have Hc2 := hide (Hc1.out.below hb2' hgl)
        have Hg2 := hide (grw_below Hg1.out hb2' (Nat.le_refl _))
        go_roundw
        case rel => exact ⟨k + 1, ls ++ [s], by omega, by go_num, ho2, by simp; omega, fun u hu => by
                      rcases List.mem_append.1 hu with hu | hu
                      · exact Hs1.out u hu
                      · simp at hu; rw [hu]; exact Hss.out, Hc2.out, Hg2.out⟩
        case measure => simp [intOf]; omega
      · go_wp2
        go_roundw
        case rel => exact ⟨k + 1, ls, by omega, by go_num, Ho1.out, by omega, Hs1.out, Hc1.out, Hg1.out⟩
        case measure => simp [intOf]; omega
    · go_wp2
      go_ret
      exact ⟨_, ls, rfl, Hor.out, by omega, Hs1.out, Hcr.out, Hgr.out⟩
end Go.Proofs.YtdelegamcebflaaDoor

namespace Go.Proofs.YtdelegamcebflaaDoor
open Go.RowKit
set_option linter.unusedVariables false

/-- The texts ss lie at the head of block b. -/
def StrsAt (w : World) (b : Nat) (ss : List ByteArray) : Prop := b < w.heap.size ∧ ∀ j (h : j < ss.length), w.cell? ⟨b, j, none⟩ = some (.string ss[j])
theorem strs_new (w : World) (ss : List ByteArray) (t : TypeId) : StrsAt (w.alloc (.cells (ss.map Value.string).toArray t)) w.heap.size ss := by
  refine ⟨by simp, fun j hj => ?_⟩
  rw [World.cell?_alloc_at _ _ _ _ rfl]
  simp [hj]
theorem StrsAt.grw {w w' : World} {b g : Nat} {ss : List ByteArray} (h : StrsAt w b ss) (hg : w.grownBy w' (some g)) (hne : b ≠ g) : StrsAt w' b ss :=
  ⟨by have := hg.size; have := h.1; omega, fun j hj => hg.cell (a := ⟨b, j, none⟩) (h.2 j hj) (by simp [hne])⟩

set_option maxRecDepth 20000 in
theorem l1Str_any (w0 w : World) (g b : Nat) (cv : Value) (code : List UInt8) (ss : List ByteArray) (hc : Cur w0 w g cv code) (hl : code.length ≤ 1048576) (hi : StrsAt w b ss) (hne : b ≠ g) (hn : 0 < ss.length) (hn2 : ss.length ≤ 1000) (cap : Nat) :
    Calls Tryd.prog 58 #[.pointer (some ⟨g, 0, none⟩), .slice (some ⟨b, 0, none⟩) ss.length cap] w fun e w' => ∃ s : ByteArray, e = .returned (.string s) ∧ s ∈ ss ∧ Cur w0 w' g cv code ∧ w.grownBy w' (some g) := by
  have Hc := hide hc
  have Hi := hide hi
  clear hc hi
  go_enter Tryd.func58, Tryd.ntmps58
  go_wp2_with fail
  refine (l1Below_any _ _ _ _ _ _ Hc.out hl (by omega) (by omega)).mono ?_
  rintro e w1 ⟨x, rfl, hx1, hx2, hc1, hg1⟩
  have hxl : x < ss.length := by have := hx1 (by omega); omega
  have hcell := (Hi.out.grw hg1 hne).2 x hxl
  have hmem := hide (List.getElem_mem hxl)
  generalize ss[x] = n at hcell hmem
  clear hx1 hx2
  go_wp2
  go_ret
  exact ⟨n, rfl, hmem.out, hc1, hg1⟩

def sixL : List ByteArray := [⟨#[97]⟩, ⟨#[98]⟩, ⟨#[99]⟩, ⟨#[100]⟩, ⟨#[101]⟩, ⟨#[97, 49]⟩]
def oddL : List ByteArray := [⟨#[]⟩, ⟨#[65]⟩, ⟨#[116, 111, 111, 108, 111, 110, 103, 57, 57]⟩, ⟨#[97, 32, 98]⟩, ⟨#[101, 105, 103, 104, 116, 108, 101, 116]⟩]
theorem six_small : ∀ s ∈ sixL, s.size ≤ 9 := by decide
theorem odd_small : ∀ s ∈ oddL, s.size ≤ 9 := by decide

set_option maxRecDepth 20000 in
theorem l1Name_any (w0 w : World) (g : Nat) (cv : Value) (code : List UInt8) (hc : Cur w0 w g cv code) (hl : code.length ≤ 1048576) :
    Calls Tryd.prog 59 #[.pointer (some ⟨g, 0, none⟩)] w fun e w' => ∃ s : ByteArray, e = .returned (.string s) ∧ s.size ≤ 9 ∧ Cur w0 w' g cv code ∧ w.grownBy w' (some g) := by
  have hgl := hc.lt
  have hb0 : ∀ o, Below w.heap.size w (w.alloc o) := fun o => (Below.refl _ _).alloc (Nat.le_refl _) _
  have Hs := hide (l1Str_any w0 _ g w.heap.size cv code sixL (hc.below (hb0 _) hgl) hl (strs_new w sixL 9) (by omega) (by decide) (by decide) 6)
  have Hg := hide (grw_of_below (some g) (hb0 (.cells (sixL.map Value.string).toArray 9)) (Nat.le_refl _))
  clear hb0 hc
  go_enter Tryd.func59, Tryd.ntmps59
  go_wp2_with fail
  refine Hs.out.mono ?_
  rintro e w1 ⟨s, rfl, hs, hc1, hg1⟩
  have hs9 := six_small s hs
  clear hs
  go_wp2
  go_ret
  exact ⟨s, rfl, hs9, hc1, grw_trans Hg.out hg1⟩

set_option maxRecDepth 20000 in
theorem l1NameAny_any (w0 w : World) (g : Nat) (cv : Value) (code : List UInt8) (hc : Cur w0 w g cv code) (hl : code.length ≤ 1048576) :
    Calls Tryd.prog 45 #[.pointer (some ⟨g, 0, none⟩)] w fun e w' => ∃ s : ByteArray, e = .returned (.string s) ∧ s.size ≤ 9 ∧ Cur w0 w' g cv code ∧ w.grownBy w' (some g) := by
  have hgl := hc.lt
  have Hc := hide hc
  clear hc
  go_enter Tryd.func45, Tryd.ntmps45
  go_wp2_with fail
  refine (l1Once_any _ _ _ _ _ _ Hc.out hl (by omega) (by omega)).mono ?_
  rintro e w1 ⟨bb, rfl, hc1, hg1⟩
  have hs1 := hg1.size
  cases bb
  · have Hn := hide (l1Name_any _ _ _ _ _ hc1 hl)
    go_wp2_with fail
    refine Hn.out.mono ?_
    rintro e w2 ⟨s, rfl, hs, hc2, hg2⟩
    go_wp2
    go_ret
    exact ⟨s, rfl, hs, hc2, grw_trans hg1 hg2⟩
  · have hb0 : ∀ o, Below w1.heap.size w1 (w1.alloc o) := fun o => (Below.refl _ _).alloc (Nat.le_refl _) _
    have Hs := hide (l1Str_any w0 _ g w1.heap.size cv code oddL (hc1.below (hb0 _) (by omega)) hl (strs_new w1 oddL 9) (by omega) (by decide) (by decide) 5)
    have Hg := hide (grw_below hg1 (hb0 (.cells (oddL.map Value.string).toArray 9)) (by omega))
    clear hb0
    go_wp2_with fail
    refine Hs.out.mono ?_
    rintro e w2 ⟨s, rfl, hs, hc2, hg2⟩
    have hs9 := odd_small s hs
    clear hs
    go_wp2
    go_ret
    exact ⟨s, rfl, hs9, hc2, grw_trans Hg.out hg2⟩
end Go.Proofs.YtdelegamcebflaaDoor
