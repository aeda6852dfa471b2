/- The landed code's account of one who gave an order, behind it. -/
import Derived.Test.YtdelegamcebflaaGreatDoorLgWith
import Derived.Test.YtdelegamcebflaaGreatDoorLgAs
import Derived.Deep.RegionHeldLaw
namespace Go.Proofs.YtdelegamcebflaaGreatDoor
open Go.RowKit
set_option linter.unusedVariables false

set_option maxRecDepth 20000 in
theorem implSpend_any (a : Ac) (lv : Value) (kd : Int) (w : World) (hlv : ∃ av n cv, lv = .slice av n cv) :
    Calls Tryz.prog 70 #[acV a lv, .int .i64 kd] w fun en w' => en = .returned (.int .i64 (if kd = 3 then a.2.2.2.1 else a.2.1)) ∧ Below w.heap.size w w' := by
  obtain ⟨nm, fr, no, st, ls⟩ := a
  obtain ⟨av, n, cv, rfl⟩ := hlv
  have HB := hide ((Below.refl _ w).alloc (Nat.le_refl _) (.cells #[.string nm, .int .i64 fr, .int .i64 no, .int .i64 st, .slice av n cv] 36))
  simp only [acV]
  by_cases h : kd = 3
  · subst h
    rw [if_pos rfl]
    go_enter Tryz.func70, Tryz.ntmps70
    go_wp2
    go_ret
    exact ⟨rfl, HB.out⟩
  · rw [if_neg h]
    have hq : (kd == 3) = false := by rw [beq_eq_false_iff_ne]; exact h
    clear h
    go_enter Tryz.func70, Tryz.ntmps70
    go_wp2
    go_ret
    exact ⟨rfl, HB.out⟩
/-- No account at all. -/
def acZV : Value := .agg #[.string { data := #[] }, .int .i64 0, .int .i64 0, .int .i64 0, .slice none 0 0]
/-- What giverAfter answers. -/
def GvPost (a : Ac) (lv : Value) (t : Tx5) (e : Int) (w : World) (en : Ending) (w' : World) : Prop :=
  (a.2.2.1 ≠ t.2.2.2.2 → en = .returned (.tuple #[acZV, lkV 3])) ∧ (a.2.2.1 = t.2.2.2.2 → hasA t a < t.2.2.2.1 → en = .returned (.tuple #[acZV, lkV 4])) ∧
      (a.2.2.1 = t.2.2.2.2 → ¬ hasA t a < t.2.2.2.1 → ∃ lv', en = .returned (.tuple #[acV (gvA e t a) lv', .nilIface]) ∧ (t.1 ≠ 3 → lv' = lv) ∧ (t.1 = 3 → OwnL w.heap.size w' lv' (gvA e t a).2.2.2.2)) ∧ Below w.heap.size w w'
set_option maxRecDepth 20000 in
set_option maxHeartbeats 1000000 in
theorem implGiver_any (a : Ac) (lv : Value) (t : Tx5) (e : Int) (w : World) (hr : RdL w lv a.2.2.2.2) (hl : a.2.2.2.2.length ≤ 4000000) (hkd : t.1 = 1 ∨ t.1 = 2 ∨ t.1 = 3) (hwl : wlP t.2.2.2.1 (wrap64 (e + 2)) a.2.2.2.2 = lvP t.2.2.2.1 (wrap64 (e + 2)) a.2.2.2.2) :
    Calls Tryz.prog 42 #[acV a lv, txV t, .int .i64 e] w fun en w' => GvPost a lv t e w en w' := by
  obtain ⟨nm, fr, no, st, ls⟩ := a
  obtain ⟨kd, fm, to, am, nc⟩ := t
  obtain ⟨av, cv, rfl⟩ := hr.shape
  simp only at hwl hkd hl hr
  obtain ⟨w1, hw1⟩ : ∃ w1, w.alloc (.cells #[.string nm, .int .i64 fr, .int .i64 no, .int .i64 st, .slice av ls.length cv] 36) = w1 := ⟨_, rfl⟩
  obtain ⟨w2, hw2⟩ : ∃ w2, w1.alloc (.cells #[.int .i64 kd, .string fm, .string to, .int .i64 am, .int .i64 nc] 28) = w2 := ⟨_, rfl⟩
  obtain ⟨w3, hw3⟩ : ∃ w3, w2.alloc (.cells #[.string { data := #[] }, .int .i64 0, .int .i64 0, .int .i64 0, .slice none 0 0] 36) = w3 := ⟨_, rfl⟩
  have s1 : w1.heap.size = w.heap.size + 1 := by rw [← hw1]; simp
  have s2 : w2.heap.size = w.heap.size + 1 + 1 := by rw [← hw2]; simp; omega
  have s3 : w3.heap.size = w.heap.size + 1 + 1 + 1 := by rw [← hw3]; simp; omega
  have hb3 : Below w.heap.size w w3 := by rw [← hw3, ← hw2, ← hw1]; exact (((Below.refl _ w).alloc (Nat.le_refl _) _).alloc (by simp) _).alloc (by simp; omega) _
  have kA : Blk w3 w.heap.size 36 [.string nm, .int .i64 fr, .int .i64 no, .int .i64 st, .slice av ls.length cv] := by rw [← hw3, ← hw2, ← hw1]; exact ((Blk.new w _ _).alloc _).alloc _
  have kT : Blk w3 (w.heap.size + 1) 28 [.int .i64 kd, .string fm, .string to, .int .i64 am, .int .i64 nc] := by
    rw [← hw3, ← hw2, ← s1]
    exact (Blk.new w1 _ _).alloc _
  have kR : Blk w3 (w.heap.size + 1 + 1) 36 acZ := by rw [← hw3, ← s2]; exact Blk.new w2 _ _
  have Hr := hide hr
  have Hb3 := hide hb3
  have KA := hide kA
  have KT := hide kT
  have KR := hide kR
  have a0 := kA.cell 0
  have a1 := kA.cell 1
  have a2 := kA.cell 2
  have a3 := kA.cell 3
  have a4 := kA.cell 4
  have t0 := kT.cell 0
  have t1 := kT.cell 1
  have t2 := kT.cell 2
  have t3 := kT.cell 3
  have t4 := kT.cell 4
  have r0 := kR.cell 0
  have r1 := kR.cell 1
  have r2 := kR.cell 2
  have r3 := kR.cell 3
  have r4 := kR.cell 4
  have q0 := kR.frozen 0
  have q1 := kR.frozen 1
  have q2 := kR.frozen 2
  have q3 := kR.frozen 3
  have q4 := kR.frozen 4
  simp only [acZ, List.getElem?_cons_zero, List.getElem?_cons_succ] at a0 a1 a2 a3 a4 t0 t1 t2 t3 t4 r0 r1 r2 r3 r4
  clear hr hb3 kA kT kR
  obtain ⟨A, hA⟩ : ∃ A : Ac, (nm, fr, no, st, ls) = A := ⟨_, rfl⟩
  obtain ⟨T, hT⟩ : ∃ T : Tx5, (kd, fm, to, am, nc) = T := ⟨_, rfl⟩
  have HP : Hid (∀ en w', GvPost (nm, fr, no, st, ls) (.slice av ls.length cv) (kd, fm, to, am, nc) e w en w' → GvPost A (.slice av ls.length cv) T e w en w') := hide (fun en w' h => by rw [← hA, ← hT]; exact h)
  simp only [acV, txV]
  rw [hA, hT]
  clear hA hT
  by_cases hn : no = nc
  · subst hn
    have HSx : Hid (∀ W, Blk W w.heap.size 36 [.string nm, .int .i64 fr, .int .i64 no, .int .i64 st, .slice av ls.length cv] → Blk W (w.heap.size + 1) 28 [.int .i64 kd, .string fm, .string to, .int .i64 am, .int .i64 no] → (W.cell? ⟨w.heap.size + 1, 3, none⟩ = some (.int .i64 am) ∧ W.cell? ⟨w.heap.size + 1, 0, none⟩ = some (.int .i64 kd) ∧ W.cell? ⟨w.heap.size, 0, none⟩ = some (.string nm) ∧ W.cell? ⟨w.heap.size, 1, none⟩ = some (.int .i64 fr) ∧ W.cell? ⟨w.heap.size, 2, none⟩ = some (.int .i64 no) ∧ W.cell? ⟨w.heap.size, 3, none⟩ = some (.int .i64 st) ∧ W.cell? ⟨w.heap.size, 4, none⟩ = some (.slice av ls.length cv))) := hide (fun W h1 h2 => ⟨h2.cell 3, h2.cell 0, h1.cell 0, h1.cell 1, h1.cell 2, h1.cell 3, h1.cell 4⟩)
    have bd : Below w3.heap.size w3 w3.drew := (Below.refl _ w3).drew
    have KAd := hide (KA.out.below bd KA.out.lt)
    have KTd := hide (KT.out.below bd KT.out.lt)
    have KRd := hide (KR.out.below bd KR.out.lt)
    have hS3 := HSx.out _ KAd.out KTd.out
    obtain ⟨sp, hsp⟩ : ∃ sp, (if kd = 3 then st else fr) = sp := ⟨_, rfl⟩
    have HC := hide (implSpend_any (nm, fr, no, st, ls) (.slice av ls.length cv) kd w3.drew ⟨_, _, _, rfl⟩)
    simp only [acV] at HC
    rw [hsp] at HC
    have HBd := hide Hb3.out.drew
    clear r0 r1 r2 r3 r4 q0 q1 q2 q3 q4
    go_enter Tryz.func42, Tryz.ntmps42
    go_wp2
    go_region_held_law (fun w' => w'.cell? ⟨w.heap.size + 1, 3, none⟩ = some (.int .i64 am) ∧ w'.cell? ⟨w.heap.size + 1, 0, none⟩ = some (.int .i64 kd) ∧ w'.cell? ⟨w.heap.size, 0, none⟩ = some (.string nm) ∧ w'.cell? ⟨w.heap.size, 1, none⟩ = some (.int .i64 fr) ∧ w'.cell? ⟨w.heap.size, 2, none⟩ = some (.int .i64 no) ∧ w'.cell? ⟨w.heap.size, 3, none⟩ = some (.int .i64 st) ∧ w'.cell? ⟨w.heap.size, 4, none⟩ = some (.slice av ls.length cv)) (first | with_reducible exact hS3 | with_reducible exact hS4) ((go_at_call 70; refine HC.out.mono ?_; rintro en w4 ⟨rfl, hb4⟩; have hS4 := HSx.out _ (KAd.out.below hb4 KAd.out.lt) (KTd.out.below hb4 KTd.out.lt)))
    have kA := KAd.out.below hb4 KAd.out.lt
    have kT := KTd.out.below hb4 KTd.out.lt
    have kR := KRd.out.below hb4 KRd.out.lt
    have HB4 := hide (HBd.out.trans (hb4.mono HBd.out.size))
    have r0 := kR.cell 0
    have r1 := kR.cell 1
    have r2 := kR.cell 2
    have r3 := kR.cell 3
    have r4 := kR.cell 4
    have q0 := kR.frozen 0
    have q1 := kR.frozen 1
    have q2 := kR.frozen 2
    have q3 := kR.frozen 3
    have q4 := kR.frozen 4
    simp only [acZ, List.getElem?_cons_zero, List.getElem?_cons_succ] at r0 r1 r2 r3 r4
    have KA4 := hide kA
    have KT4 := hide kT
    have KR4 := hide kR
    clear kA kT kR hS3 hS4 KAd KTd KRd HSx HC a0 a1 a2 a3 a4 t0 t1 t2 t3 t4 bd HBd
    by_cases hs : sp < am
    · have Hx : Hid (Below w.heap.size w (((((w4.setCell ⟨w.heap.size + 1 + 1, 0, none⟩ (.string { data := #[] })).setCell ⟨w.heap.size + 1 + 1, 1, none⟩ (.int .i64 0)).setCell ⟨w.heap.size + 1 + 1, 2, none⟩ (.int .i64 0)).setCell ⟨w.heap.size + 1 + 1, 3, none⟩ (.int .i64 0)).setCell ⟨w.heap.size + 1 + 1, 4, none⟩ (.slice none 0 0))) := hide (below_set5 HB4.out _ 0 _ _ _ _ _ (by omega))
      have Hs : Hid (hasA (kd, fm, to, am, no) (nm, fr, no, st, ls) < am) := hide (by unfold hasA; rw [hsp]; exact hs)
      clear hsp
      go_wp2
      refine bodyPost_ret (v := .tuple #[acZV, lkV 4]) (by simp [results, Tryz.f42, go_sem, r0, r1, r2, r3, r4, acZV, lkV]) rfl ?_
      exact HP.out _ _ ⟨fun h => absurd rfl h, fun _ _ => rfl, fun _ h => absurd Hs.out h, Hx.out⟩
    · have Hs : Hid (¬ hasA (kd, fm, to, am, no) (nm, fr, no, st, ls) < am) := hide (by unfold hasA; rw [hsp]; exact hs)
      have a0 := KA4.out.cell 0
      have a1 := KA4.out.cell 1
      have a2 := KA4.out.cell 2
      have a3 := KA4.out.cell 3
      have a4 := KA4.out.cell 4
      have b1 := KA4.out.frozen 1
      have b2 := KA4.out.frozen 2
      have b3 := KA4.out.frozen 3
      have b4 := KA4.out.frozen 4
      have t0 := KT4.out.cell 0
      have t3 := KT4.out.cell 3
      simp only [List.getElem?_cons_zero, List.getElem?_cons_succ] at a0 a1 a2 a3 a4 t0 t3
      clear hsp
      rcases hkd with rfl | rfl | rfl
      · go_wp2
        refine bodyPost_ret (v := .tuple #[.agg #[.string nm, .int .i64 (wrap64 (fr - am)), .int .i64 (wrap64 (no + 1)), .int .i64 st, .slice av ls.length cv], .nilIface]) (by simp [results, Tryz.f42, go_sem, r0, r1, r2, r3, r4]) rfl ?_
        refine HP.out _ _ ⟨fun h => absurd rfl h, fun _ h => absurd h (Int.not_lt.2 Hs.out), fun _ _ => ⟨_, rfl, fun _ => rfl, fun h => by cases h⟩, ?_⟩
        exact below_set5 ((HB4.out.setCell (p := ⟨w.heap.size, 2, none⟩) (Nat.le_refl _) _).setCell (p := ⟨w.heap.size, 1, none⟩) (Nat.le_refl _) _) _ 0 _ _ _ _ _ (by omega)
      · go_wp2
        refine bodyPost_ret (v := .tuple #[.agg #[.string nm, .int .i64 (wrap64 (fr - am)), .int .i64 (wrap64 (no + 1)), .int .i64 (wrap64 (st + am)), .slice av ls.length cv], .nilIface]) (by simp [results, Tryz.f42, go_sem, r0, r1, r2, r3, r4]) rfl ?_
        refine HP.out _ _ ⟨fun h => absurd rfl h, fun _ h => absurd h (Int.not_lt.2 Hs.out), fun _ _ => ⟨_, rfl, fun _ => rfl, fun h => by cases h⟩, ?_⟩
        exact below_set5 (((HB4.out.setCell (p := ⟨w.heap.size, 2, none⟩) (Nat.le_refl _) _).setCell (p := ⟨w.heap.size, 1, none⟩) (Nat.le_refl _) _).setCell (p := ⟨w.heap.size, 3, none⟩) (Nat.le_refl _) _) _ 0 _ _ _ _ _ (by omega)
      · have KA5 := hide ((KA4.out.set 2 (.int .i64 (wrap64 (no + 1)))).set 3 (.int .i64 (wrap64 (st - am))))
        simp only [List.set_cons_succ, List.set_cons_zero] at KA5
        have KR5 := hide ((KR4.out.other w.heap.size 2 (.int .i64 (wrap64 (no + 1))) (by omega)).other w.heap.size 3 (.int .i64 (wrap64 (st - am))) (by omega))
        have HB5 := hide ((HB4.out.setCell (p := ⟨w.heap.size, 2, none⟩) (Nat.le_refl _) (.int .i64 (wrap64 (no + 1)))).setCell (p := ⟨w.heap.size, 3, none⟩) (Nat.le_refl _) (.int .i64 (wrap64 (st - am))))
        have Hwl := hide hwl
        have hR4 := KR4.out.lt
        clear r0 r1 r2 r3 r4 q0 q1 q2 q3 q4 hwl
        go_wp2_with (go_at_call 71; refine (implWithLeave_any (.slice av ls.length cv) ls am (wrap64 (e + 2)) _ (Hr.out.below HB5.out (Nat.le_refl _)) hl).mono ?_; rintro en w6 ⟨v6, rfl, ho6, hb6⟩; have kA := KA5.out.below hb6 (by simp; omega); have kR := KR5.out.below hb6 (by simp; omega); rw [Hwl.out] at ho6; have hsh := ho6.rd.shape; obtain ⟨a6, cv6, hv6⟩ := hsh; subst hv6; have c0 := kA.cell 0; have c1 := kA.cell 1; have c2 := kA.cell 2; have c3 := kA.cell 3; have c4 := kA.cell 4; have g4 := kA.frozen 4; have r0 := kR.cell 0; have r1 := kR.cell 1; have r2 := kR.cell 2; have r3 := kR.cell 3; have r4 := kR.cell 4; have q0 := kR.frozen 0; have q1 := kR.frozen 1; have q2 := kR.frozen 2; have q3 := kR.frozen 3; have q4 := kR.frozen 4; simp only [acZ, List.getElem?_cons_zero, List.getElem?_cons_succ] at c0 c1 c2 c3 c4 r0 r1 r2 r3 r4)
        refine bodyPost_ret (v := .tuple #[.agg #[.string nm, .int .i64 fr, .int .i64 (wrap64 (no + 1)), .int .i64 (wrap64 (st - am)), .slice a6 (lvP am (wrap64 (e + 2)) ls).length cv6], .nilIface]) (by simp [results, Tryz.f42, go_sem, r0, r1, r2, r3, r4]) rfl ?_
        have hge := ho6.ge
        have n1 : ∀ k, (Value.slice a6 (lvP am (wrap64 (e + 2)) ls).length cv6).ownBlock = some k → k ≠ w.heap.size := fun k hk => by have := hge k hk; simp at this; omega
        have n2 : ∀ k, (Value.slice a6 (lvP am (wrap64 (e + 2)) ls).length cv6).ownBlock = some k → k ≠ w.heap.size + 1 + 1 := fun k hk => by have := hge k hk; simp at this; omega
        refine HP.out _ _ ⟨fun h => absurd rfl h, fun _ h => absurd h (Int.not_lt.2 Hs.out), fun _ _ => ⟨_, rfl, fun h => absurd rfl h, fun _ => ?_⟩, ?_⟩
        · exact row_set (row_set (row_set (row_set (row_set (row_set (ho6.mono (by simp; omega)) _ _ _ n1) _ _ _ n2) _ _ _ n2) _ _ _ n2) _ _ _ n2) _ _ _ n2
        · exact below_set5 ((HB5.out.trans (hb6.mono HB5.out.size)).setCell (p := ⟨w.heap.size, 4, none⟩) (Nat.le_refl _) _) _ 0 _ _ _ _ _ (by omega)
  · have Hx : Hid (Below w.heap.size w (((((w3.setCell ⟨w.heap.size + 1 + 1, 0, none⟩ (.string { data := #[] })).setCell ⟨w.heap.size + 1 + 1, 1, none⟩ (.int .i64 0)).setCell ⟨w.heap.size + 1 + 1, 2, none⟩ (.int .i64 0)).setCell ⟨w.heap.size + 1 + 1, 3, none⟩ (.int .i64 0)).setCell ⟨w.heap.size + 1 + 1, 4, none⟩ (.slice none 0 0))) := hide (below_set5 Hb3.out _ 0 _ _ _ _ _ (by omega))
    have hq : (nc != no) = true := by rw [bne_iff_ne]; exact fun h => hn h.symm
    have Hn := hide hn
    clear hn
    go_enter Tryz.func42, Tryz.ntmps42
    go_wp2
    refine bodyPost_ret (v := .tuple #[acZV, lkV 3]) (by simp [results, Tryz.f42, go_sem, r0, r1, r2, r3, r4, acZV, lkV]) rfl ?_
    exact HP.out _ _ ⟨fun _ => rfl, fun h => absurd h Hn.out, fun h => absurd h Hn.out, Hx.out⟩
/-- What giverAfter answers, as one account and one error. -/
def GvOut (a : Ac) (lv : Value) (t : Tx5) (e : Int) (b : Nat) (w' : World) (A : Ac) (lv' er : Value) : Prop :=
  (a.2.2.1 ≠ t.2.2.2.2 → er = lkV 3) ∧ (a.2.2.1 = t.2.2.2.2 → hasA t a < t.2.2.2.1 → er = lkV 4) ∧
  (a.2.2.1 = t.2.2.2.2 → ¬ hasA t a < t.2.2.2.1 → er = .nilIface ∧ A = gvA e t a ∧ (t.1 ≠ 3 → lv' = lv) ∧ (t.1 = 3 → OwnL b w' lv' (gvA e t a).2.2.2.2))
theorem GvOut.to {a : Ac} {lv : Value} {t : Tx5} {e : Int} {b b' : Nat} {w W : World} {A : Ac} {lv' er : Value} (h : GvOut a lv t e b w A lv' er) (hb : ∀ l, OwnL b w lv' l → OwnL b' W lv' l) : GvOut a lv t e b' W A lv' er :=
  ⟨h.1, h.2.1, fun h1 h2 => ⟨(h.2.2 h1 h2).1, (h.2.2 h1 h2).2.1, (h.2.2 h1 h2).2.2.1, fun h3 => hb _ ((h.2.2 h1 h2).2.2.2 h3)⟩⟩
theorem GvPost.out {a : Ac} {lv : Value} {t : Tx5} {e : Int} {w w' : World} {en : Ending} (h : GvPost a lv t e w en w') (hlv : ∃ x n c, lv = .slice x n c) :
    ∃ A x n c er, en = .returned (.tuple #[acV A (.slice x n c), er]) ∧ GvOut a lv t e w.heap.size w' A (.slice x n c) er ∧ Below w.heap.size w w' := by
  obtain ⟨h1, h2, h3, h4⟩ := h
  by_cases hn : a.2.2.1 = t.2.2.2.2
  · by_cases hs : hasA t a < t.2.2.2.1
    · exact ⟨(⟨#[]⟩, 0, 0, 0, []), none, 0, 0, lkV 4, h2 hn hs, ⟨fun h => absurd hn h, fun _ _ => rfl, fun _ h => absurd hs h⟩, h4⟩
    · obtain ⟨lv', e1, e2, e3⟩ := h3 hn hs
      have hsh : ∃ x n c, lv' = .slice x n c := by
        by_cases hk : t.1 = 3
        · obtain ⟨x, c, hx⟩ := (e3 hk).rd.shape
          exact ⟨x, _, c, hx⟩
        · rw [e2 hk]; exact hlv
      obtain ⟨x, n, c, rfl⟩ := hsh
      exact ⟨_, x, n, c, .nilIface, e1, ⟨fun h => absurd hn h, fun _ h => absurd h hs, fun _ _ => ⟨rfl, rfl, e2, e3⟩⟩, h4⟩
  · exact ⟨(⟨#[]⟩, 0, 0, 0, []), none, 0, 0, lkV 3, h1 hn, ⟨fun _ => rfl, fun h => absurd h hn, fun h => absurd h hn⟩, h4⟩
end Go.Proofs.YtdelegamcebflaaGreatDoor
