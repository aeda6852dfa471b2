/- The landed code's CheckPath. -/
import Derived.Test.YtknnecmfebnfbabDoorMerkIter
import Derived.Test.YtknnecmfebnfbabDoorMerkRootI
namespace Go.Proofs.YtknnecmfebnfbabDoor
open Go.RowKit Go.Shelf
set_option linter.unusedVariables false
attribute [local go_sem] Oper.semAt_some

set_option maxRecDepth 100000 in
set_option maxHeartbeats 2000000 in
theorem implCheck_any (s : ByteArray) (i n : Int) (path : List ByteArray) (root : ByteArray) (v : Value) (w : World) (hs : s.size ≤ 3000000) (hi1 : -9223372036854775808 ≤ i) (hi2 : i ≤ 9223372036854775807) (hn1 : -9223372036854775808 ≤ n) (hn2 : n ≤ 9223372036854775807) (hpl : path.length ≤ 9000000000000000000) (hr : RdS w v path) (hps : ∀ s ∈ path, s.size ≤ 1500000) (hgl : Gl w) :
    Calls Tryd.prog 14 #[.string s, .int .i64 i, .int .i64 n, v, .string root] w fun e w' => e = .returned (.bool (checkB s i n path root)) ∧ Below w.heap.size w w' := by
  have hdd : ∀ k : Nat, (Fence.wide.depth.isSome = true → 1 ≤ k) := fun k h => by cases h
  have Hr := hide hr
  obtain ⟨av, cv, rfl⟩ := hr.shape
  clear hr
  obtain ⟨n₀, hn₀⟩ : ∃ n₀, w.heap.size = n₀ := ⟨_, rfl⟩
  have bL := Boxed.new w 26 (.slice av path.length cv)
  have bR := Boxed.new (w.alloc (.cells #[.slice av path.length cv] 26)) 4 (.bool false)
  have hB0 : Below n₀ w ((w.alloc (.cells #[.slice av path.length cv] 26)).alloc (.cells #[.bool false] 4)) := ((Below.refl _ w).alloc (by omega) _).alloc (by simp; omega) _
  simp only [World.size_alloc, hn₀] at bL bR
  refine (callsIn_wide (n := 5)).1 ?_
  refine callsIn_of_wp_marks Tryd.func14 rfl trivial ?_ rfl
  simp only [Tryd.ntmps14, List.size_toArray, List.length_cons, List.length_nil, Nat.reduceAdd, Nat.reduceSub, Array.replicate_succ, Array.replicate_zero, List.push_toArray, List.append_toArray, List.nil_append, List.cons_append]
  by_cases hin : n ≤ 64 ∧ 0 ≤ i ∧ i < n
  · have hth : thereB i n = true := by simp [thereB]; omega
    have Hleaf := hide (implLeaf_any s _ hs (hgl.below hB0 (by omega)))
    rw [hn₀]
    gi_wp2_with (first
      | ((first | refine ⟨trivial, hdd _, ?_⟩ | refine ⟨hdd _, ?_⟩ | refine ⟨trivial, ?_⟩ | skip); gi_at_call 27; refine (callsIn_wide.2 (leafThere_any _ _ _)).mono ?_; rintro e w1 ⟨rfl, rfl⟩)
      | ((first | refine ⟨trivial, hdd _, ?_⟩ | refine ⟨hdd _, ?_⟩ | refine ⟨trivial, ?_⟩ | skip); gi_at_call 15; refine (callsIn_wide.2 Hleaf.out).mono ?_; rintro e w1 ⟨rfl, hb1⟩)
      | ((first | refine ⟨trivial, hdd _, ?_⟩ | refine ⟨hdd _, ?_⟩ | refine ⟨trivial, ?_⟩ | skip); gi_at_call 28; refine (callsIn_wide.2 (sides_any _ _ _)).mono ?_; rintro e w2 ⟨rfl, rfl⟩))
    obtain ⟨I, rfl⟩ := Int.eq_ofNat_of_zero_le hin.2.1
    obtain ⟨N, rfl⟩ := Int.eq_ofNat_of_zero_le (show 0 ≤ n by omega)
    have HC := hide (checkB_in s I N path root (by omega))
    have HU := hide (up_all N (leafB s) I path)
    have HS := hide (fun pre => up_short N (leafB s) I path pre)
    have hB1 : Below n₀ w w1 := hB0.trans (hb1.mono (by simp; omega))
    have hM2 : n₀ + 2 ≤ w1.heap.size := by have := hb1.size; simp at this; omega
    have bL1 : Boxed w1 n₀ 26 (.slice av path.length cv) := (hb1.block n₀ (by simp; omega)).trans (bL.alloc _)
    have bR1 : Boxed w1 (n₀ + 1) 4 (.bool false) := (hb1.block (n₀ + 1) (by simp; omega)).trans bR
    obtain ⟨M, hM⟩ : ∃ M, w1.heap.size = M := ⟨_, rfl⟩
    rw [hM]
    have bS := Boxed.new w1 9 (.string (leafB s))
    have bU := Boxed.new (w1.alloc (.cells #[.string (leafB s)] 9)) 3 (.int .i64 0)
    have bI := Boxed.new ((w1.alloc (.cells #[.string (leafB s)] 9)).alloc (.cells #[.int .i64 0] 3)) 3 (.int .i64 (I : Int))
    have bN := Boxed.new (((w1.alloc (.cells #[.string (leafB s)] 9)).alloc (.cells #[.int .i64 0] 3)).alloc (.cells #[.int .i64 (I : Int)] 3)) 3 (.int .i64 (N : Int))
    simp only [World.size_alloc, hM] at bS bU bI bN
    have hB2 : Below n₀ w ((((w1.alloc (.cells #[.string (leafB s)] 9)).alloc (.cells #[.int .i64 0] 3)).alloc (.cells #[.int .i64 (I : Int)] 3)).alloc (.cells #[.int .i64 (N : Int)] 3)) := (((hB1.alloc (by omega) _).alloc (by simp; omega) _).alloc (by simp; omega) _).alloc (by simp; omega) _
    clear hb1 bL bR hB0 Hleaf hs hn1 hn2 hi1 hi2
    refine wpIn_rangeFunc_ownH (n := 5) rfl (by omega) (gf := 39) (lb := #[.pointer (some ⟨M + 1 + 1, 0, none⟩), .pointer (some ⟨M + 1 + 1 + 1, 0, none⟩)]) rfl trivial (enters_of Tryd.func39 (by kernel_rfl) rfl)
      (sides_stops _ N I (by omega) (by omega) (M + 1 + 1) (M + 1 + 1 + 1) _ (by simp; omega) (by simp; omega) (bI.alloc _).cell bN.cell) (fun _ _ => trivial) (fun _ _ _ _ _ _ _ _ => trivial) (Below.refl _ _) (fun _ => rfl)
      (fun pre W => ((Boxed W n₀ 26 (.slice av path.length cv) ∧ Boxed W (n₀ + 1) 4 (.bool false)) ∧ (Boxed W M 9 (.string (foldB (leafB s) pre (path.take pre.length))) ∧ Boxed W (M + 1) 3 (.int .i64 (pre.length : Int))) ∧ pre.length ≤ path.length) ∧ Below n₀ w W)
      (fun c pre W => ((c = .ret ∧ path.length < pre.length) ∧ Boxed W (n₀ + 1) 4 (.bool false)) ∧ Below n₀ w W)
      (OwnFrom.and (OwnFrom.and (OwnFrom.and (Own.from (boxed_own n₀ 26 (fun _ => (.slice av path.length cv))) _) (Own.from (boxed_own (n₀ + 1) 4 (fun _ => .bool false)) _)) (OwnFrom.and (OwnFrom.and (Own.from (boxed_own M 9 (fun pre => .string (foldB (leafB s) pre (path.take (List.length pre))))) _) (Own.from (boxed_own (M + 1) 3 (fun pre => .int .i64 (List.length pre : Int))) _)) (ownFrom_pure _ (fun pre => List.length pre ≤ path.length)))) (ownFrom_below (by omega) (by simp; omega)))
      (fun c => OwnFrom.and (OwnFrom.and (ownFrom_pure _ (fun pre => c = .ret ∧ path.length < List.length pre)) (Own.from (boxed_own (n₀ + 1) 4 (fun _ => .bool false)) _)) (ownFrom_below (by omega) (by simp; omega)))
      ⟨⟨⟨(((bL1.alloc _).alloc _).alloc _).alloc _, (((bR1.alloc _).alloc _).alloc _).alloc _⟩, ⟨((bS.alloc _).alloc _).alloc _, (bU.alloc _).alloc _⟩, Nat.zero_le _⟩, hB2⟩
      (fun x a' W => ∃ Bx, M + 1 < Bx ∧ SideAt W Bx x ∧ a' = { tmps := #[.string s, .int .i64 (I : Int), .int .i64 (N : Int), .slice av path.length cv, .string root, undef, undef, undef, .pointer (some ⟨n₀, 0, none⟩), undef, .pointer (some ⟨n₀ + 1, 0, none⟩), .pointer (some ⟨M, 0, none⟩), .pointer (some ⟨M + 1, 0, none⟩), .pointer (some ⟨Bx, 0, none⟩), .int .i64 (I : Int), .int .i64 (N : Int), .bool true, .bool false, .string s, .string (leafB s), .int .i64 (I : Int), .int .i64 (N : Int), .func (.func 39) #[] #[.pointer (some ⟨M + 1 + 1, 0, none⟩), .pointer (some ⟨M + 1 + 1 + 1, 0, none⟩)], .agg #[.int .i64 (x.1.1 : Int), .int .i64 (x.1.2.1 : Int), .bool x.1.2.2], undef, undef, undef, undef, undef, undef, undef, undef, undef, undef, undef, undef, undef, undef, undef, undef, undef, undef, undef, undef, undef, undef, undef], defers := [] })
      ?hAx ?assign ?body ?done ?stop
    case hAx =>
      rintro x a' u X Y row ⟨Bx, h1, h2, h3⟩ hg hr
      exact ⟨Bx, h1, Own.from (sideAt_own Bx x) _ u X Y row h2 hg hr, h3⟩
    case assign =>
      rintro lp pre x W K ⟨⟨⟨hbl, hbr⟩, ⟨hbs, hbu⟩, hpp⟩, hB⟩ hK
      have hlt1 := hbu.lt
      have hsz0 := hB.size
      dsimp only [encSide]
      clear hgl Hr bL1 bR1 bS bU bI bN hB2 HS HU HC
      gi_wp2
      exact hK _ _ ((KeepsOthers.alloc _ _).from _) trivial ⟨⟨⟨hbl.alloc _, hbr.alloc _⟩, ⟨hbs.alloc _, hbu.alloc _⟩, hpp⟩, hB.alloc (by omega) _⟩ ⟨W.heap.size, hlt1, World.alloc_heap_new W _, rfl⟩
    case body =>
      rintro lp pre x a' W hlp hlr ⟨⟨⟨hbl, hbr⟩, ⟨hbs, hbu⟩, hpp⟩, hB⟩ ⟨Bx, hBx, hside, rfl⟩ hlt
      have cl := hbl.cell
      have cr := hbr.cell
      have fr := hbr.frozen
      have cu := hbu.cell
      by_cases hend : pre.length = path.length
      · have he : ((pre.length : Int) == (path.length : Int)) = true := by rw [beq_iff_eq]; omega
        clear hgl Hr bL1 bR1 bS bU bI bN hB2 HS HU HC
        gi_wp2
        exact ⟨(KeepsOthers.setCell _ _ _).from _, ⟨⟨rfl, by simp; omega⟩, hbr.set _⟩, hB.setCell (p := ⟨n₀ + 1, 0, none⟩) (by simp) _⟩
      · have he : ((pre.length : Int) == (path.length : Int)) = false := by rw [beq_eq_false_iff_ne]; omega
        have hpl2 : pre.length < path.length := by omega
        have hgl2 : Gl W := hgl.below hB (by omega)
        have hr2 := Hr.out
        rcases hr2 with ⟨_, _, hv, e, _⟩ | ⟨b, off, cap, hne, hv, hc1, hc2, hb, hcell⟩
        · subst e; simp at hpl2
        injection hv with ha _ hcap
        subst ha hcap
        have hce := hcell pre.length hpl2
        have hps2 := hps path[pre.length] (List.getElem_mem _)
        have Hfold := hide (foldB_snoc (leafB s) pre x path hpl2)
        generalize path[pre.length] = pe at hce hps2 Hfold
        have hce : W.cell? ⟨b, off + pre.length, none⟩ = some (.string pe) := (hB.cell (p := ⟨b, off + pre.length, none⟩) (by show b < n₀; omega)).trans hce
        have hsz := foldB_size (leafB s) (leafB_size s) pre (path.take pre.length)
        generalize foldB (leafB s) pre (path.take pre.length) = sum at hbs Hfold hsz
        have HJ : Hid (Calls Tryd.prog 30 #[.string sum, .string pe, .bool x.1.2.2] W.drew fun e w' => e = .returned (.string (stepB sum x pe)) ∧ Below W.drew.heap.size W.drew w') := hide (joined_any sum pe x.1.2.2 W.drew (by omega) hps2 hgl2.drew')
        generalize stepB sum x pe = nsum at HJ Hfold
        have cs0 : W.drew.cell? ⟨M, 0, none⟩ = some (.string sum) := hbs.cell
        have hbW : b < W.heap.size := by have := hB.size; omega
        have i1 : (pre.length : Int) < (path.length : Int) := by omega
        have T1 : ∀ W1, Below W.drew.heap.size W.drew W1 → (W1.heap[n₀]? = W.heap[n₀]? ∧ W1.heap[M + 1]? = W.heap[M + 1]? ∧ W1.heap[Bx]? = W.heap[Bx]? ∧ W1.heap[b]? = W.heap[b]?) ∧ (Boxed W1 n₀ 26 (.slice (some ⟨b, off, none⟩) path.length cv) ∧ Boxed W1 (n₀ + 1) 4 (.bool false) ∧ Boxed W1 M 9 (.string sum) ∧ Boxed W1 (M + 1) 3 (.int .i64 (pre.length : Int))) ∧ KeepsOthers W W1 ∧ Below n₀ w W1 := fun W1 hb1 =>
          ⟨⟨hb1.block n₀ hbl.lt, hb1.block (M + 1) hbu.lt, hb1.block Bx hside.lt, hb1.block b hbW⟩, ⟨(hb1.block n₀ hbl.lt).trans hbl, (hb1.block (n₀ + 1) hbr.lt).trans hbr, (hb1.block M hbs.lt).trans hbs, (hb1.block (M + 1) hbu.lt).trans hbu⟩, (KeepsOthers.drew W).trans (keepsOthers_below hb1), (hB.drew).trans (hb1.mono (by have := hbl.lt; show n₀ ≤ W.heap.size; omega))⟩
        clear hgl Hr bL1 bR1 bS bU bI bN hB2 HS HU HC hgl2 hcell hps
        gi_wp2
        refine round_held (S := fun W' => W'.heap[n₀]? = W.heap[n₀]? ∧ W'.heap[M + 1]? = W.heap[M + 1]? ∧ W'.heap[Bx]? = W.heap[Bx]? ∧ W'.heap[b]? = W.heap[b]?) (by kernel_rfl) (fun ⟨_, _, h⟩ => h) (by kernel_rfl) ⟨rfl, rfl, rfl, rfl⟩ (fun hHeld => ?_)
        refine wpAnyH_take (i := 1) (v := .slice (some ⟨b, off, none⟩) path.length cv) rfl (by kernel_rfl) (by kernel_rfl) (by kernel_rfl) (fun _ _ _ h => h) (Or.inl ⟨by rfl, ?_⟩) (by assumption) ?_
        · intro w' hS
          obtain ⟨g1, g2, g3, g4⟩ := hS
          have k1 := Boxed.cell (W := w') (g1.trans hbl)
          have k2 := Boxed.cell (W := w') (g2.trans hbu)
          have k3 := (SideAt.cells (W := w') (g3.trans hside)).2.2
          have k4 : w'.cell? ⟨b, off + pre.length, none⟩ = some (.string pe) := (World.cell?_of_block (w := W) g4).trans hce
          clear g1 g2 g3 g4
          go_simp
        simp only [Act.put, List.setIfInBounds_toArray]
        refine wpAnyH_take (i := 2) (v := .int .i64 (pre.length : Int)) rfl (by kernel_rfl) (by kernel_rfl) (by kernel_rfl) (fun _ _ _ h => h) (Or.inl ⟨by rfl, ?_⟩) (by assumption) ?_
        · intro w' hS
          obtain ⟨g1, g2, g3, g4⟩ := hS
          have k1 := Boxed.cell (W := w') (g1.trans hbl)
          have k2 := Boxed.cell (W := w') (g2.trans hbu)
          have k3 := (SideAt.cells (W := w') (g3.trans hside)).2.2
          have k4 : w'.cell? ⟨b, off + pre.length, none⟩ = some (.string pe) := (World.cell?_of_block (w := W) g4).trans hce
          clear g1 g2 g3 g4
          go_simp
        simp only [Act.put]
        refine wpAnyH_take (i := 3) (v := .pointer (some ⟨b, off + pre.length, none⟩)) rfl (by kernel_rfl) (by kernel_rfl) (by kernel_rfl) (fun _ _ _ h => h) (Or.inl ⟨by rfl, ?_⟩) (by assumption) ?_
        · intro w' hS
          obtain ⟨g1, g2, g3, g4⟩ := hS
          have k1 := Boxed.cell (W := w') (g1.trans hbl)
          have k2 := Boxed.cell (W := w') (g2.trans hbu)
          have k3 := (SideAt.cells (W := w') (g3.trans hside)).2.2
          have k4 : w'.cell? ⟨b, off + pre.length, none⟩ = some (.string pe) := (World.cell?_of_block (w := W) g4).trans hce
          clear g1 g2 g3 g4
          go_simp
        simp only [Act.put]
        refine wpAnyH_take (i := 4) (v := .string pe) rfl (by kernel_rfl) (by kernel_rfl) (by kernel_rfl) (fun _ _ _ h => h) (Or.inl ⟨by rfl, ?_⟩) (by assumption) ?_
        · intro w' hS
          obtain ⟨g1, g2, g3, g4⟩ := hS
          have k1 := Boxed.cell (W := w') (g1.trans hbl)
          have k2 := Boxed.cell (W := w') (g2.trans hbu)
          have k3 := (SideAt.cells (W := w') (g3.trans hside)).2.2
          have k4 : w'.cell? ⟨b, off + pre.length, none⟩ = some (.string pe) := (World.cell?_of_block (w := W) g4).trans hce
          clear g1 g2 g3 g4
          go_simp
        simp only [Act.put]
        refine wpAnyH_take (i := 5) (v := .pointer (some ⟨Bx, 2, none⟩)) rfl (by kernel_rfl) (by kernel_rfl) (by kernel_rfl) (fun _ _ _ h => h) (Or.inl ⟨by rfl, ?_⟩) (by assumption) ?_
        · intro w' hS
          obtain ⟨g1, g2, g3, g4⟩ := hS
          have k1 := Boxed.cell (W := w') (g1.trans hbl)
          have k2 := Boxed.cell (W := w') (g2.trans hbu)
          have k3 := (SideAt.cells (W := w') (g3.trans hside)).2.2
          have k4 : w'.cell? ⟨b, off + pre.length, none⟩ = some (.string pe) := (World.cell?_of_block (w := W) g4).trans hce
          clear g1 g2 g3 g4
          go_simp
        simp only [Act.put]
        refine wpAnyH_take (i := 6) (v := .bool x.1.2.2) rfl (by kernel_rfl) (by kernel_rfl) (by kernel_rfl) (fun _ _ _ h => h) (Or.inl ⟨by rfl, ?_⟩) (by assumption) ?_
        · intro w' hS
          obtain ⟨g1, g2, g3, g4⟩ := hS
          have k1 := Boxed.cell (W := w') (g1.trans hbl)
          have k2 := Boxed.cell (W := w') (g2.trans hbu)
          have k3 := (SideAt.cells (W := w') (g3.trans hside)).2.2
          have k4 : w'.cell? ⟨b, off + pre.length, none⟩ = some (.string pe) := (World.cell?_of_block (w := W) g4).trans hce
          clear g1 g2 g3 g4
          go_simp
        simp only [Act.put]
        refine wpAnyH_ready (rs := [0]) (by kernel_rfl) (by simp) ?_
        refine AllReadyH.cons rfl (fun K hK => ?_) AllReadyH.nil
        go_simp
        refine hK.out _ _ hHeld (fun hHeld => ?_)
        clear hK K
        refine wpAnyH_ready (rs := [7]) (by kernel_rfl) (by simp) ?_
        refine AllReadyH.cons rfl (fun K hK => ?_) AllReadyH.nil
        go_simp
        refine HJ.out.mono ?_
        rintro e W1 ⟨rfl, hb1⟩
        obtain ⟨t1, ⟨l1, r1, s1, u1⟩, ko, hBW⟩ := T1 W1 hb1
        have cs1 := s1.cell
        have fs1 := s1.frozen
        refine hK.out _ _ t1 (fun hHeld => ?_)
        clear hK K
        refine wpAnyH_ready (rs := [8]) (by kernel_rfl) (by simp) ?_
        refine AllReadyH.cons rfl (fun K hK => ?_) AllReadyH.nil
        go_simp
        have gs := grownBy_setCell' W1 M (.string nsum)
        have sd1 : SideAt W1 Bx x := t1.2.2.1.trans hside
        have l2 := l1.other (show n₀ ≠ M by omega) (.string nsum)
        have r2 := r1.other (show n₀ + 1 ≠ M by omega) (.string nsum)
        have s2 := s1.set (.string nsum)
        have u2 := u1.other (show M + 1 ≠ M by omega) (.string nsum)
        have cu2 := u2.cell
        have fu2 := u2.frozen
        refine hK.out _ _ ⟨l2.trans hbl.symm, u2.trans hbu.symm, (gs.block Bx sd1.lt (by simp; omega)).trans t1.2.2.1, (gs.block b (by have := hb1.size; have : W.drew.heap.size = W.heap.size := rfl; omega) (by simp; omega)).trans t1.2.2.2⟩ (fun hHeld => ?_)
        clear hK K
        refine wpAnyH_done (by kernel_rfl) ?_ _
        gi_wp2
        exact ⟨(ko.trans ((KeepsOthers.setCell _ _ _).trans (KeepsOthers.setCell _ _ _))).from _, trivial, ⟨⟨⟨l2.other (by omega) _, r2.other (by omega) _⟩, ⟨by rw [List.length_append, List.length_singleton, Hfold.out]; exact s2.other (by omega) _, by rw [List.length_append, List.length_singleton]; exact u2.set _⟩, by simp; omega⟩, (hBW.setCell (p := ⟨M, 0, none⟩) (by show n₀ ≤ M; omega) _).setCell (p := ⟨M + 1, 0, none⟩) (by show n₀ ≤ M + 1; omega) _⟩⟩
    case done =>
      rintro D ys W hD rfl ⟨⟨⟨hbl, hbr⟩, ⟨hbs, hbu⟩, hpp⟩, hB⟩ hK
      obtain ⟨YS, hYS⟩ : ∃ YS, YS = sidesS N I 0 N (by omega) := ⟨_, rfl⟩
      rw [← hYS] at hbs hbu hpp HU
      have cl := hbl.cell
      have cr := hbr.cell
      have fr := hbr.frozen
      have cs := hbs.cell
      have cu := hbu.cell
      by_cases hend : YS.length = path.length
      · have he : ((YS.length : Int) == (path.length : Int)) = true := by rw [beq_iff_eq]; omega
        have HF := hide (HU.out.1 hend.symm)
        rw [List.take_of_length_le (by omega)] at cs
        generalize foldB (leafB s) YS path = sum at cs HF
        clear hgl Hr bL1 bR1 bS bU bI bN hB2 HS HU hbs hbu hYS hend
        by_cases hq : sum = root
        · subst hq
          gi_wp2
          have hK' := (KeepsOthers.setCell W ⟨n₀ + 1, 0, none⟩ (.bool true)).same D _ hK rfl
          refine ⟨by simp, .inl ⟨_, _, rfl, run_takeDeferred hK', ?_⟩⟩
          have hc5 := cell_kept (World.cell?_setCell_same' W ⟨n₀ + 1, 0, none⟩ (.bool true) (by rw [cr]; rfl)) (grownBy_putObj' _ D (.deferred none)) (fun r e => by cases e; exact ⟨_, hK', rfl⟩)
          refine ⟨.bool true, ?_, by rw [HC.out, HF.out]; simp, (hB.setCell (p := ⟨n₀ + 1, 0, none⟩) (by simp) _).trans (belowK_b (w := w) (by omega) _ D _ _ (by simp at hD; omega) hK' rfl rfl)⟩
          simp [results, Tryd.f14, go_sem, hc5]
        · have hne := bytes_ne hq
          have Hd := hide (decide_eq_false hq)
          clear hq
          gi_wp2
          have hK' := (KeepsOthers.setCell W ⟨n₀ + 1, 0, none⟩ (.bool false)).same D _ hK rfl
          refine ⟨by simp, .inl ⟨_, _, rfl, run_takeDeferred hK', ?_⟩⟩
          have hc5 := cell_kept (World.cell?_setCell_same' W ⟨n₀ + 1, 0, none⟩ (.bool false) (by rw [cr]; rfl)) (grownBy_putObj' _ D (.deferred none)) (fun r e => by cases e; exact ⟨_, hK', rfl⟩)
          refine ⟨.bool false, ?_, by rw [HC.out, HF.out]; simp only; rw [Hd.out]; rfl, (hB.setCell (p := ⟨n₀ + 1, 0, none⟩) (by simp) _).trans (belowK_b (w := w) (by omega) _ D _ _ (by simp at hD; omega) hK' rfl rfl)⟩
          simp [results, Tryd.f14, go_sem, hc5]
      · have he : ((YS.length : Int) == (path.length : Int)) = false := by rw [beq_eq_false_iff_ne]; omega
        have HF := hide (HU.out.2 (by omega))
        clear hgl Hr bL1 bR1 bS bU bI bN hB2 HS HU hbs hbu hYS hend
        gi_wp2
        have hK' := (KeepsOthers.setCell W ⟨n₀ + 1, 0, none⟩ (.bool false)).same D _ hK rfl
        refine ⟨by simp, .inl ⟨_, _, rfl, run_takeDeferred hK', ?_⟩⟩
        have hc5 := cell_kept (World.cell?_setCell_same' W ⟨n₀ + 1, 0, none⟩ (.bool false) (by rw [cr]; rfl)) (grownBy_putObj' _ D (.deferred none)) (fun r e => by cases e; exact ⟨_, hK', rfl⟩)
        refine ⟨.bool false, ?_, by rw [HC.out, HF.out]; rfl, (hB.setCell (p := ⟨n₀ + 1, 0, none⟩) (by simp) _).trans (belowK_b (w := w) (by omega) _ D _ _ (by simp at hD; omega) hK' rfl rfl)⟩
        simp [results, Tryd.f14, go_sem, hc5]
    case stop =>
      rintro D c pre W hD hpre ⟨⟨⟨rfl, hlt⟩, hbr⟩, hB⟩ hK
      have HF := hide (HS.out pre hpre hlt)
      clear hgl Hr bL1 bR1 bS bU bI bN hB2 HS HU
      gi_wp2
      refine ⟨by simp, .inl ⟨_, _, rfl, run_takeDeferred hK, ?_⟩⟩
      have hc5 := cell_kept hbr.cell (grownBy_putObj' _ D (.deferred none)) (fun r e => by cases e; exact ⟨_, hK, rfl⟩)
      refine ⟨.bool false, ?_, by rw [HC.out, HF.out]; rfl, hB.trans (belowK_b (w := w) (by omega) W D _ _ (by simp at hD; omega) hK rfl rfl)⟩
      simp [results, Tryd.f14, go_sem, hc5]
  · have hth : thereB i n = false := by simp [thereB]; omega
    have hcR := bR.cell
    have hfR := bR.frozen
    gi_wp2_with (first
      | ((first | refine ⟨trivial, hdd _, ?_⟩ | refine ⟨hdd _, ?_⟩ | refine ⟨trivial, ?_⟩ | skip); gi_at_call 27; refine (callsIn_wide.2 (leafThere_any _ _ _)).mono ?_; rintro e w1 ⟨rfl, rfl⟩))
    have Hc := checkB_no s i n path root (by omega)
    refine ⟨.bool false, ?_, by rw [Hc], by rw [hn₀]; exact hB0⟩
    simp [results, Tryd.f14, go_sem, hcR]
end Go.Proofs.YtknnecmfebnfbabDoor
