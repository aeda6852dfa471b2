/- Accounts copied: the landed code's copiedAcct and copiedAccts, the model's l4Copy. -/
import Derived.Test.YtljkmoffpgpeoaaAcApp
namespace Go.Proofs.Ytljkmoffpgpeoaa
open Go.RowKit
set_option linter.unusedVariables false

set_option maxRecDepth 20000 in
set_option maxHeartbeats 1000000 in
theorem implCopied_any (a : Ac) (lv : Value) (w : World) (hr : RdL w lv a.2.2.2.2) (hl : a.2.2.2.2.length ≤ 4000000) :
    Calls Try.prog 83 #[acV a lv] w fun e w' => ∃ lv', e = .returned (acV a lv') ∧ OwnL w.heap.size w' lv' a.2.2.2.2 ∧ Below w.heap.size w w' := by
  obtain ⟨nm, fr, no, st, ls⟩ := a
  obtain ⟨av, cv, rfl⟩ := hr.shape
  simp only [acV] at *
  obtain ⟨w1, hw1⟩ : ∃ w1, w.alloc (.cells #[.string nm, .int .i64 fr, .int .i64 no, .int .i64 st, .slice av ls.length cv] 86) = w1 := ⟨_, rfl⟩
  have hs1 : w1.heap.size = w.heap.size + 1 := by rw [← hw1]; simp
  have hb1 : Below w.heap.size w w1 := by rw [← hw1]; exact (Below.refl _ w).alloc (Nat.le_refl _) _
  have k1 : Blk w1 w.heap.size 86 [.string nm, .int .i64 fr, .int .i64 no, .int .i64 st, .slice av ls.length cv] := by rw [← hw1]; exact Blk.new w _ _
  obtain ⟨w2, hw2⟩ : ∃ w2, w1.alloc (.cells #[.string { data := #[] }, .int .i64 0, .int .i64 0, .int .i64 0, .slice none 0 0] 86) = w2 := ⟨_, rfl⟩
  have hs2 : w2.heap.size = w.heap.size + 2 := by rw [← hw2]; simp; omega
  have hb2 : Below w1.heap.size w1 w2 := by rw [← hw2]; exact (Below.refl _ w1).alloc (Nat.le_refl _) _
  have k2 : Blk w2 (w.heap.size + 1) 86 acZ := by rw [← hw2, ← hs1]; exact Blk.new w1 _ _
  have k1' := k1.below hb2 (by omega)
  obtain ⟨w3, hw3⟩ : ∃ w3, w2.alloc (.cells #[] 121) = w3 := ⟨_, rfl⟩
  have hs3 : w3.heap.size = w.heap.size + 3 := by rw [← hw3]; simp; omega
  have hb3 : Below w2.heap.size w2 w3 := by rw [← hw3]; exact (Below.refl _ w2).alloc (Nat.le_refl _) _
  have HB3 : Hid (Below w.heap.size w w3) := hide ((hb1.trans (hb2.mono (by omega))).trans (hb3.mono (by omega)))
  have Hr3 : Hid (RdL w3 (.slice av ls.length cv) ls) := hide (hr.below HB3.out (Nat.le_refl _))
  have Ho3 : Hid (OwnL (w.heap.size + 2) w3 (.slice (some ⟨w.heap.size + 2, 0, none⟩) 0 0) []) := hide (by rw [← hw3, ← hs2]; exact own_nilL w2 _ (Nat.le_refl _))
  have K1 := hide (k1'.below hb3 (by omega))
  have K2 := hide (k2.below hb3 (by omega))
  have c4 := K1.out.cell 4
  simp only [List.getElem?_cons_zero, List.getElem?_cons_succ] at c4
  clear hr k1 k1' k2 hb1 hb2 hb3
  go_enter Try.func83, Try.ntmps83
  go_wp2_with (at_builtin; refine app_ownL _ rfl _ _ rfl (w.heap.size + 2) _ _ [] ls rfl rfl Ho3.out Hr3.out (by simp; omega) (by omega) ?_; intro lv' w4 ho4 hb4; rw [List.nil_append] at ho4; obtain ⟨av', cv', rfl⟩ := ho4.rd.shape; have j1 := K1.out.below hb4 (by omega); have j2 := K2.out.below hb4 (by omega); have d0 := j1.cell 0; have d1 := j1.cell 1; have d2 := j1.cell 2; have d3 := j1.cell 3; have d4 := j1.cell 4; have f4 := j1.frozen 4; have e0 := j2.cell 0; have e1 := j2.cell 1; have e2 := j2.cell 2; have e3 := j2.cell 3; have e4 := j2.cell 4; have g0 := j2.frozen 0; have g1 := j2.frozen 1; have g2 := j2.frozen 2; have g3 := j2.frozen 3; have g4 := j2.frozen 4; simp only [acZ, List.getElem?_cons_zero, List.getElem?_cons_succ] at d0 d1 d2 d3 d4 e0 e1 e2 e3 e4; have hl4 := hb4.size)
  refine bodyPost_ret (v := .agg #[.string nm, .int .i64 fr, .int .i64 no, .int .i64 st, .slice av' ls.length cv']) (by simp [results, Try.f83, go_sem, e0, e1, e2, e3, e4]) rfl ?_
  have n1 : ∀ k, (Value.slice av' ls.length cv').ownBlock = some k → k ≠ w.heap.size := fun k hk => by have := ho4.ge k hk; omega
  have n2 : ∀ k, (Value.slice av' ls.length cv').ownBlock = some k → k ≠ w.heap.size + 1 := fun k hk => by have := ho4.ge k hk; omega
  have HB4 := HB3.out.trans (hb4.mono (by omega))
  refine ⟨_, rfl, row_set (row_set (row_set (row_set (row_set (row_set (ho4.mono (by omega)) _ _ _ n1) _ _ _ n2) _ _ _ n2) _ _ _ n2) _ _ _ n2) _ _ _ n2, ?_⟩
  exact (((((HB4.setCell (p := ⟨w.heap.size, 4, none⟩) (by show w.heap.size ≤ w.heap.size; omega) _).setCell (p := ⟨w.heap.size + 1, 0, none⟩) (by show w.heap.size ≤ w.heap.size + 1; omega) _).setCell (p := ⟨w.heap.size + 1, 1, none⟩) (by show w.heap.size ≤ w.heap.size + 1; omega) _).setCell (p := ⟨w.heap.size + 1, 2, none⟩) (by show w.heap.size ≤ w.heap.size + 1; omega) _).setCell (p := ⟨w.heap.size + 1, 3, none⟩) (by show w.heap.size ≤ w.heap.size + 1; omega) _).setCell (p := ⟨w.heap.size + 1, 4, none⟩) (by show w.heap.size ≤ w.heap.size + 1; omega) _
set_option maxRecDepth 20000 in
set_option maxHeartbeats 1000000 in
theorem implCopiedS_any (v : Value) (l : List Ac) (w : World) (hr : RdA w v l) (hl : l.length ≤ 4000000) (hall : ∀ a ∈ l, a.2.2.2.2.length ≤ 4000000) :
    Calls Try.prog 63 #[v] w fun e w' => ∃ v', e = .returned v' ∧ OwnA w.heap.size w' v' l ∧ Below w.heap.size w w' := by
  obtain ⟨i0, hi, hz0, hz1, hz2⟩ := info_parts Try.infoAc
  rcases hr with ⟨a, cap, rfl, rfl, -⟩ | ⟨b, off, cap, h0, rfl, h1, h2, h3, h4⟩
  · go_enter Try.func63, Try.ntmps63
    go_wp2_with (refine wpList_make_own _ rfl _ _ 26 rfl w.heap.size 86 i0 (.agg #[.string { data := #[] }, .int .i64 0, .int .i64 0, .int .i64 0, .slice none 0 0]) 5 Try.underlying26 hi hz0 hz1 .i64 .i64 _ 0 rfl rfl rfl (by omega) (by unfold maxLen; omega) (Nat.le_refl _) ?_; intro w1 hown hgrow)
    have hb1 : Below w.heap.size w w1 := (Below.refl _ _).grown hgrow (Nat.le_refl _) (by intro k hk; cases hk)
    refine wp_loop_rounds 1 ?_
    rw [rounds_succ]
    go_wp2
    go_ret
    exact ⟨_, rfl, OwnA.of_row (Z := []) hown (Lvs.nil _ _ _), hb1⟩
  · have H4 := hide h4
    have Hall := hide hall
    clear h4 hall
    go_enter Try.func63, Try.ntmps63
    go_wp2_with (refine wpList_make_own _ rfl _ _ 26 rfl w.heap.size 86 i0 (.agg #[.string { data := #[] }, .int .i64 0, .int .i64 0, .int .i64 0, .slice none 0 0]) 5 Try.underlying26 hi hz0 hz1 .i64 .i64 _ l.length rfl rfl rfl (by rw [hz2]; omega) (by unfold maxLen; omega) (Nat.le_refl _) ?_; intro w1 hown hgrow)
    have hb1 : Below w.heap.size w w1 := (Below.refl _ _).grown hgrow (Nat.le_refl _) (by intro k hk; cases hk)
    go_loopw [3, 11] (fun ov iv wr => ∃ (k g c : Nat) (Z : List (Ac × Value)), k ≤ l.length ∧ iv = .int .i64 k ∧ ov = .slice (some ⟨g, 0, none⟩) k c ∧ Z.map (·.1) = l.take k ∧ RowA w.heap.size wr ov Z ∧ Lvs w.heap.size wr g Z ∧ Below w.heap.size w wr) (fun _ iv _ => l.length - (intOf iv).toNat)
    case atStart => exact ⟨0, _, _, [], Nat.zero_le _, rfl, rfl, rfl, hown, Lvs.nil _ _ _, hb1⟩
    case round =>
      obtain ⟨k, g, c, Z, hk, rfl, rfl, hZ, ho, hlv, hb⟩ := hrel
      clear hown hgrow hb1
      have hZl : Z.length = k := by have := congrArg List.length hZ; simp at this; omega
      by_cases hlt : k < l.length
      · obtain ⟨lv, hat, hrl⟩ := H4.out k hlt
        obtain ⟨c0, c1, c2, c3, c4⟩ := hat.below hb h3
        have hli : (k : Int) < (l.length : Int) := by omega
        have hbb : b < wr.heap.size := Nat.lt_of_lt_of_le h3 hb.size
        have hgl : g < wr.heap.size := ho.lt g rfl
        have hshape := hrl.shape
        have Hrl := hide (hrl.below hb (Nat.le_refl _))
        have hls := Hall.out l[k] (List.getElem_mem _)
        have HZ2 : Hid (∀ lv' : Value, (Z ++ [(l[k], lv')]).map (·.1) = l.take (k + 1)) := hide (fun lv' => by rw [List.map_append, hZ, List.take_succ_eq_append_getElem hlt]; rfl)
        have Ho := hide ho
        have Hlv := hide hlv
        clear hat hrl ho hlv hZ
        generalize l[k] = ak at c0 c1 c2 c3 hshape Hrl hls HZ2
        obtain ⟨nm, fr, no, st, ls⟩ := ak
        obtain ⟨av, cv, rfl⟩ := hshape
        simp only at c0 c1 c2 c3 Hrl hls
        obtain ⟨w1, hw1⟩ : ∃ w1, wr.alloc (.cells #[.string nm, .int .i64 fr, .int .i64 no, .int .i64 st, .slice av ls.length cv] 86) = w1 := ⟨_, rfl⟩
        have hA : Below wr.heap.size wr w1 := by rw [← hw1]; exact (Below.refl _ wr).alloc (Nat.le_refl _) _
        have hk1 : Blk w1 wr.heap.size 86 [.string nm, .int .i64 fr, .int .i64 no, .int .i64 st, .slice av ls.length cv] := by rw [← hw1]; exact Blk.new wr _ _
        have HC := hide (implCopied_any (nm, fr, no, st, ls) (.slice av ls.length cv) w1 (Hrl.out.below hA (Nat.le_refl _)) hls)
        simp only [acV] at HC
        have hlt1 := hk1.lt
        have e0 := hk1.cell 0
        have e1 := hk1.cell 1
        have e2 := hk1.cell 2
        have e3 := hk1.cell 3
        have e4 := hk1.cell 4
        simp only [List.getElem?_cons_zero, List.getElem?_cons_succ] at e0 e1 e2 e3 e4
        go_wp2_with (first
          | (go_at_call 83; refine HC.out.mono ?_; rintro e w2 ⟨lv', rfl, ho2, hb2⟩; obtain ⟨av', cv', rfl⟩ := ho2.rd.shape; have hB2 := hA.trans (hb2.mono hA.size))
          | (at_builtin; refine app_ownA _ rfl _ _ rfl w.heap.size _ _ Z ((nm, fr, no, st, ls), .slice av' ls.length cv') rfl rfl (World.ownsRow.alloc (Ho.out.below hB2 (Nat.le_refl _)) _) (Blk.new' _ _ (acC ((nm, fr, no, st, ls), .slice av' ls.length cv')) _ rfl) rfl (by omega) (by have := hb.size; have := hB2.size; simp; omega) ?_; intro v' w4 hrow hgr hnn hloc))
        have hB : Below w.heap.size w (w2.alloc (.cells #[.string nm, .int .i64 fr, .int .i64 no, .int .i64 st, .slice av' ls.length cv'] 86)) := (hb.trans (hB2.mono hb.size)).alloc (by have := hb.size; have := hB2.size; omega) _
        obtain ⟨g', c', rfl, hlv'⟩ := rowA_step (Hlv.out.below hB2 (Nat.le_refl _)) (ho2.mono (by have := hb.size; have := hA.size; omega)) (fun j hj => by have := ho2.ge j hj; have := hA.size; omega)
          (fun i hi j hj e => by have := (Hlv.out.own i hi).lt j hj; have := ho2.ge j e; have := hA.size; omega) ((Below.refl _ w2).alloc (Nat.le_refl _) _) hgr hrow hnn hloc
        go_roundw
        case rel =>
          refine ⟨k + 1, g', c', _, by omega, by go_num, by simp [hZl], HZ2.out _, hrow, hlv', hB.grown hgr (by have := hb.size; have := hB2.size; simp; omega) (fun j hj => by cases hj; exact Ho.out.ge g rfl)⟩
        case measure => simp [intOf]; omega
      · have e : k = l.length := by omega
        subst e
        rw [List.take_length] at hZ
        go_wp2
        go_ret
        have := OwnA.of_row (cap := c) (g := g) (Z := Z) (by rw [hZl]; exact ho) hlv
        rw [hZ, hZl] at this
        exact ⟨_, rfl, this, hb⟩
set_option maxRecDepth 20000 in
set_option maxHeartbeats 1000000 in
theorem specCopy_any (v : Value) (l : List Ac) (w : World) (hr : RdA w v l) (hl : l.length ≤ 4000000) (hall : ∀ a ∈ l, a.2.2.2.2.length ≤ 4000000) :
    Calls Try.prog 57 #[v] w fun e w' => ∃ v', e = .returned v' ∧ OwnA w.heap.size w' v' l ∧ Below w.heap.size w w' := by
  rcases hr with ⟨a, cap, rfl, rfl, -⟩ | ⟨b, off, cap, h0, rfl, h1, h2, h3, h4⟩
  · go_enter Try.func57, Try.ntmps57
    have hown := row_nilA w w.heap.size (Nat.le_refl _)
    have hb1 : Below w.heap.size w (w.alloc (.cells #[] 86)) := (Below.refl _ _).alloc (Nat.le_refl _) _
    go_wp2
    refine wp_loop_rounds 1 ?_
    rw [rounds_succ]
    go_wp2
    go_ret
    exact ⟨_, rfl, OwnA.of_row (Z := []) hown (Lvs.nil _ _ _), hb1⟩
  · have H4 := hide h4
    have Hall := hide hall
    clear h4 hall
    go_enter Try.func57, Try.ntmps57
    have hown := hide (row_nilA w w.heap.size (Nat.le_refl _))
    have hb1 : Hid (Below w.heap.size w (w.alloc (.cells #[] 86))) := hide ((Below.refl _ _).alloc (Nat.le_refl _) _)
    go_wp2
    go_loopw [3, 4] (fun ov iv wr => ∃ (k g c : Nat) (Z : List (Ac × Value)), k ≤ l.length ∧ iv = .int .i64 k ∧ ov = .slice (some ⟨g, 0, none⟩) k c ∧ Z.map (·.1) = l.take k ∧ RowA w.heap.size wr ov Z ∧ Lvs w.heap.size wr g Z ∧ Below w.heap.size w wr) (fun _ iv _ => l.length - (intOf iv).toNat)
    case atStart => exact ⟨0, _, _, [], Nat.zero_le _, rfl, rfl, rfl, hown.out, Lvs.nil _ _ _, hb1.out⟩
    case round =>
      obtain ⟨k, g, c, Z, hk, rfl, rfl, hZ, ho, hlv, hb⟩ := hrel
      clear hown hb1
      have hZl : Z.length = k := by have := congrArg List.length hZ; simp at this; omega
      by_cases hlt : k < l.length
      · obtain ⟨lv, hat, hrl⟩ := H4.out k hlt
        obtain ⟨c0, c1, c2, c3, c4⟩ := hat.below hb h3
        have hli : (k : Int) < (l.length : Int) := by omega
        have hbb : b < wr.heap.size := Nat.lt_of_lt_of_le h3 hb.size
        have hgl : g < wr.heap.size := ho.lt g rfl
        have hshape := hrl.shape
        have Hrl := hide (hrl.below hb (Nat.le_refl _))
        have hls := Hall.out l[k] (List.getElem_mem _)
        have HZ2 : Hid (∀ lv' : Value, (Z ++ [(l[k], lv')]).map (·.1) = l.take (k + 1)) := hide (fun lv' => by rw [List.map_append, hZ, List.take_succ_eq_append_getElem hlt]; rfl)
        have Ho := hide ho
        have Hlv := hide hlv
        clear hat hrl ho hlv hZ
        generalize l[k] = ak at c0 c1 c2 c3 hshape Hrl hls HZ2
        obtain ⟨nm, fr, no, st, ls⟩ := ak
        obtain ⟨av, cv, rfl⟩ := hshape
        simp only at c0 c1 c2 c3 Hrl hls
        obtain ⟨w1, hw1⟩ : ∃ w1, wr.alloc (.cells #[.string nm, .int .i64 fr, .int .i64 no, .int .i64 st, .slice av ls.length cv] 86) = w1 := ⟨_, rfl⟩
        have hA : Below wr.heap.size wr w1 := by rw [← hw1]; exact (Below.refl _ wr).alloc (Nat.le_refl _) _
        have hk1 : Blk w1 wr.heap.size 86 [.string nm, .int .i64 fr, .int .i64 no, .int .i64 st, .slice av ls.length cv] := by rw [← hw1]; exact Blk.new wr _ _
        have hs1 : w1.heap.size = wr.heap.size + 1 := by rw [← hw1]; simp
        obtain ⟨w2, hw2⟩ : ∃ w2, w1.alloc (.cells #[] 121) = w2 := ⟨_, rfl⟩
        have hA2 : Below w1.heap.size w1 w2 := by rw [← hw2]; exact (Below.refl _ w1).alloc (Nat.le_refl _) _
        have hs2 : w2.heap.size = wr.heap.size + 2 := by rw [← hw2]; simp; omega
        have Ho3 : Hid (OwnL (wr.heap.size + 1) w2 (.slice (some ⟨wr.heap.size + 1, 0, none⟩) 0 0) []) := hide (by rw [← hw2, ← hs1]; exact own_nilL w1 _ (Nat.le_refl _))
        have Hr3 : Hid (RdL w2 (.slice av ls.length cv) ls) := hide ((Hrl.out.below hA (Nat.le_refl _)).below hA2 (Nat.le_refl _))
        have HK := hide (hk1.below hA2 (by omega))
        have HA2 : Hid (Below wr.heap.size wr w2) := hide (hA.trans (hA2.mono hA.size))
        have e4 := HK.out.cell 4
        simp only [List.getElem?_cons_zero, List.getElem?_cons_succ] at e4
        clear hk1 hA hA2
        go_wp2_with (first
          | (at_builtin; refine app_ownL _ rfl _ _ rfl (wr.heap.size + 1) _ _ [] ls rfl rfl Ho3.out Hr3.out (by simp; omega) (by omega) ?_; intro lv' w3 ho4 hb4; rw [List.nil_append] at ho4; obtain ⟨av', cv', rfl⟩ := ho4.rd.shape; have j1 := HK.out.below hb4 (by omega); have d0 := j1.cell 0; have d1 := j1.cell 1; have d2 := j1.cell 2; have d3 := j1.cell 3; have d4 := j1.cell 4; have f4 := j1.frozen 4; simp only [List.getElem?_cons_zero, List.getElem?_cons_succ] at d0 d1 d2 d3 d4; have hl4 := hb4.size; have hB2 := (HA2.out.trans (hb4.mono (by omega))).setCell (p := ⟨wr.heap.size, 4, none⟩) (Nat.le_refl _) (.slice av' ls.length cv'); have ho2 := row_set ho4 wr.heap.size 4 (.slice av' ls.length cv') (fun k hk => by have := ho4.ge k hk; omega))
          | (at_builtin; refine app_ownA _ rfl _ _ rfl w.heap.size _ _ Z ((nm, fr, no, st, ls), .slice av' ls.length cv') rfl rfl (World.ownsRow.alloc (Ho.out.below hB2 (Nat.le_refl _)) _) (Blk.new' _ _ (acC ((nm, fr, no, st, ls), .slice av' ls.length cv')) _ (by simp)) rfl (by omega) (by have := hb.size; have := hB2.size; simp at this ⊢; omega) ?_; intro v' w4 hrow hgr hnn hloc))
        have hB : Below w.heap.size w ((w3.setCell ⟨wr.heap.size, 4, none⟩ (.slice av' ls.length cv')).alloc (.cells #[.string nm, .int .i64 fr, .int .i64 no, .int .i64 st, .slice av' ls.length cv'] 86)) := (hb.trans (hB2.mono hb.size)).alloc (by have := hb.size; have := hB2.size; omega) _
        have ho2 : OwnL (wr.heap.size + 1) (w3.setCell ⟨wr.heap.size, 4, none⟩ (.slice av' ls.length cv')) (.slice av' ls.length cv') ls := ho2
        obtain ⟨g', c', rfl, hlv'⟩ := rowA_step (q := ((nm, fr, no, st, ls), .slice av' ls.length cv')) (Hlv.out.below hB2 (Nat.le_refl _)) (OwnL.mono ho2 (by have := hb.size; omega)) (fun j hj => by have := OwnL.ge ho2 j hj; omega)
          (fun i hi j hj e => by have := (Hlv.out.own i hi).lt j hj; have := OwnL.ge ho2 j e; omega) ((Below.refl _ _).alloc (Nat.le_refl _) _) hgr hrow hnn hloc
        go_roundw
        case rel =>
          refine ⟨k + 1, g', c', _, by omega, by go_num, by simp [hZl], HZ2.out _, hrow, hlv', hB.grown hgr (by have := hb.size; have := hB2.size; simp; omega) (fun j hj => by cases hj; exact Ho.out.ge g rfl)⟩
        case measure => simp [intOf]; omega
      · have e : k = l.length := by omega
        subst e
        rw [List.take_length] at hZ
        go_wp2
        go_ret
        have := OwnA.of_row (cap := c) (g := g) (Z := Z) (by rw [hZl]; exact ho) hlv
        rw [hZ, hZl] at this
        exact ⟨_, rfl, this, hb⟩
end Go.Proofs.Ytljkmoffpgpeoaa
