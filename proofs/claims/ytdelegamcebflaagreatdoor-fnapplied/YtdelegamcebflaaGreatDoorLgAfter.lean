/- The landed code's ledger behind an order, or what it lacks. -/
import Derived.Test.YtdelegamcebflaaGreatDoorLgGiver
import Derived.Test.YtdelegamcebflaaGreatDoorJoin9
namespace Go.Proofs.YtdelegamcebflaaGreatDoor
open Go.RowKit
set_option linter.unusedVariables false

/-- What afterOrder answers. -/
def AoPost (e : Int) (l : List Ac) (t : Tx5) (w : World) (en : Ending) (w' : World) : Prop :=
  ((apA e l t).2 ≠ 0 → en = .returned (.tuple #[lgV 0 (.slice none 0 0), lkV (apA e l t).2])) ∧
  ((apA e l t).2 = 0 → ∃ v', en = .returned (.tuple #[lgV e v', .nilIface]) ∧ OwnA w.heap.size w' v' (apA e l t).1) ∧ Below w.heap.size w w'
theorem AoPost.bad {e : Int} {l : List Ac} {t : Tx5} {w w' : World} {c : Int} (h : (apA e l t).2 = c) (hc : c ≠ 0) (hb : Below w.heap.size w w') : AoPost e l t w (.returned (.tuple #[lgV 0 (.slice none 0 0), lkV c])) w' :=
  ⟨fun _ => by rw [h], fun h0 => absurd (h.symm.trans h0) hc, hb⟩
theorem AoPost.good {e : Int} {l m : List Ac} {t : Tx5} {w w' : World} {v' : Value} (h : apA e l t = (m, 0)) (ho : OwnA w.heap.size w' v' m) (hb : Below w.heap.size w w') : AoPost e l t w (.returned (.tuple #[lgV e v', .nilIface])) w' :=
  ⟨fun h0 => absurd (by rw [h]) h0, fun _ => ⟨v', rfl, by rw [h]; exact ho⟩, hb⟩
/-- The account of the one who gave the order is put back. -/
theorem put_giver {base : Nat} {W : World} {g n cap : Nat} {Z : List (Ac × Value)} (hG : RowG base W g n cap Z) (k : Nat) (hk : k < Z.length) (A : Ac) (lv : Value)
    (h : (lv = Z[k].2 ∧ A.2.2.2.2 = Z[k].1.2.2.2.2) ∨ ∃ b, OwnL b W lv A.2.2.2.2 ∧ base ≤ b ∧ g < b ∧ ∀ i (hi : i < Z.length) r, Z[i].2.ownBlock = some r → r < b) :
    RowG base (((((W.setCell ⟨g, k * 5, none⟩ (.string A.1)).setCell ⟨g, k * 5 + 1, none⟩ (.int .i64 A.2.1)).setCell ⟨g, k * 5 + 2, none⟩ (.int .i64 A.2.2.1)).setCell ⟨g, k * 5 + 3, none⟩ (.int .i64 A.2.2.2.1)).setCell ⟨g, k * 5 + 4, none⟩ lv) g n cap (Z.set k (A, lv)) := by
  rcases h with ⟨h1, h2⟩ | ⟨b, h1, h2, h3, h4⟩
  · exact hG.put5 k hk (A, lv) (by show OwnL base W lv A.2.2.2.2; rw [h1, h2]; exact hG.lvs.own k hk) (fun r hr => hG.lvs.far k hk r (by rw [← h1]; exact hr)) (fun i hi hik r hr e => hG.lvs.apart i k hi hk hik r hr (by rw [← h1]; exact e))
  · have hge := h1.ge
    exact hG.put5 k hk (A, lv) (h1.mono h2) (fun r hr => by have := hge r hr; omega) (fun i hi _ r hr e => by have := h4 i hi r hr; have := hge r e; omega)
theorem gvA_lv {e : Int} {t : Tx5} {a : Ac} (h : t.1 ≠ 3) (h' : t.1 = 1 ∨ t.1 = 2 ∨ t.1 = 3) : (gvA e t a).2.2.2.2 = a.2.2.2.2 := by
  unfold gvA
  split
  · rfl
  · split
    · rfl
    · omega
theorem crA_len (l : List Ac) (s : ByteArray) (n : Int) : (crA l s n).1.length ≤ l.length + 1 := by
  unfold crA
  split
  · split
    · exact insA_len _ _
    · simp
  · simp
theorem aftA_lv (l : List Ac) (s : ByteArray) (n : Int) (h : ∀ a ∈ l, a.2.2.2.2.length ≤ 4000000) : (aftA l s n).2.2.2.2.length ≤ 4000000 := by
  unfold aftA
  cases hg : getA s l with
  | none => simp
  | some a => exact h a (getA_some hg).2
theorem crA_mem' {l : List Ac} {s : ByteArray} {n : Int} (hs : s.size ≤ maxLen) (h : ∀ a ∈ l, a.1.size ≤ maxLen ∧ a.2.2.2.2.length ≤ 4000000) : ∀ a ∈ (crA l s n).1, a.1.size ≤ maxLen ∧ a.2.2.2.2.length ≤ 4000000 := by
  unfold crA
  split
  · split
    · intro a ha
      rcases insA_mem _ _ _ ha with rfl | ha
      · exact ⟨by rw [aftA_name]; exact hs, aftA_lv l s n (fun a ha => (h a ha).2)⟩
      · exact h a ha
    · exact h
  · exact h
theorem gvA_len (e : Int) (t : Tx5) (a : Ac) : (gvA e t a).2.2.2.2.length ≤ a.2.2.2.2.length + 1 := by
  unfold gvA
  split
  · simp
  · split
    · simp
    · exact lvP_len _ _ _
set_option maxRecDepth 20000 in
set_option maxHeartbeats 4000000 in
theorem implAfter_any (e : Int) (v : Value) (l : List Ac) (t : Tx5) (w : World) (hr : RdA w v l) (hl : l.length ≤ 3999999) (hall : ∀ a ∈ l, a.1.size ≤ maxLen ∧ a.2.2.2.2.length ≤ 3999999) (hf : t.2.1.size ≤ maxLen) (ht : t.2.2.1.size ≤ maxLen) :
    Calls Tryz.prog 21 #[lgV e v, txV t] w fun en w' => AoPost e l t w en w' := by
  obtain ⟨av, cv, rfl⟩ := hr.shape
  have hall1 : ∀ a ∈ l, a.1.size ≤ maxLen ∧ a.2.2.2.2.length ≤ 4000000 := fun a ha => by have := hall a ha; omega
  have hall2 : ∀ a ∈ l, a.2.2.2.2.length ≤ 4000000 := fun a ha => (hall1 a ha).2
  obtain ⟨kd, fm, to, am, nc⟩ := t
  obtain ⟨w1, hw1⟩ : ∃ w1, w.alloc (.cells #[.int .i64 e, .slice av l.length cv] 26) = w1 := ⟨_, rfl⟩
  obtain ⟨w2, hw2⟩ : ∃ w2, w1.alloc (.cells #[.int .i64 kd, .string fm, .string to, .int .i64 am, .int .i64 nc] 28) = w2 := ⟨_, rfl⟩
  obtain ⟨w3, hw3⟩ : ∃ w3, w2.alloc (.cells #[.int .i64 0, .slice none 0 0] 26) = w3 := ⟨_, rfl⟩
  have s1 : w1.heap.size = w.heap.size + 1 := by rw [← hw1]; simp
  have s2 : w2.heap.size = w.heap.size + 1 + 1 := by rw [← hw2]; simp; omega
  have s3 : w3.heap.size = w.heap.size + 1 + 1 + 1 := by rw [← hw3]; simp; omega
  have hB3 : Below w.heap.size w w3 := by rw [← hw3, ← hw2, ← hw1]; exact (((Below.refl _ w).alloc (Nat.le_refl _) _).alloc (by simp) _).alloc (by simp; omega) _
  have kL : Blk w3 w.heap.size 26 [.int .i64 e, .slice av l.length cv] := by rw [← hw3, ← hw2, ← hw1]; exact ((Blk.new w _ _).alloc _).alloc _
  have kT : Blk w3 (w.heap.size + 1) 28 [.int .i64 kd, .string fm, .string to, .int .i64 am, .int .i64 nc] := by
    rw [← hw3, ← hw2, ← s1]
    exact (Blk.new w1 _ _).alloc _
  have kR : Blk w3 (w.heap.size + 1 + 1) 26 [.int .i64 0, .slice none 0 0] := by rw [← hw3, ← s2]; exact Blk.new w2 _ _
  have HO := hide (fun W h => implLedgerOk_any e (.slice av l.length cv) l W h (by omega) hall1)
  have HX := hide (fun W => implTxOk_any (kd, fm, to, am, nc) W hf ht)
  have HD := hide (fun W h => implCopiedLg_any e (.slice av l.length cv) l W h (by omega) hall2)
  have HA := hide (fun V W h => implAcctAt_any V l fm W h (by omega))
  have Hr := hide hr
  have Hall := hide hall
  obtain ⟨T, hT⟩ : ∃ T : Tx5, (kd, fm, to, am, nc) = T := ⟨_, rfl⟩
  have HT := hide hT
  have HP : Hid (∀ en w', AoPost e l (kd, fm, to, am, nc) w en w' → AoPost e l T w en w') := hide (fun en w' h => by rw [← hT]; exact h)
  simp only [lgV, txV] at HO HX HD ⊢
  rw [hT]
  have l0 := kL.cell 0
  have l1 := kL.cell 1
  simp only [List.getElem?_cons_zero, List.getElem?_cons_succ] at l0 l1
  clear hr hall hall1 hall2 hT
  go_enter Tryz.func21, Tryz.ntmps21
  go_wp2_with fail
  refine (HO.out _ (Hr.out.below hB3 (Nat.le_refl _))).mono ?_
  rintro en w4 ⟨rfl, hb4⟩
  have hB4 : Below w.heap.size w w4 := hB3.trans (hb4.mono hB3.size)
  replace kL := kL.below hb4 kL.lt
  replace kT := kT.below hb4 kT.lt
  replace kR := kR.below hb4 kR.lt
  clear l0 l1
  cases h1 : lgB e l
  · have Hap := hide (apA_form (e := e) (l := l) (t := (kd, fm, to, am, nc)) (by rw [h1]; rfl))
    have r0 := kR.cell 0
    have r1 := kR.cell 1
    have g0 := kR.frozen 0
    have g1 := kR.frozen 1
    simp only [List.getElem?_cons_zero, List.getElem?_cons_succ] at r0 r1
    go_wp2
    refine bodyPost_ret (v := .tuple #[lgV 0 (.slice none 0 0), lkV 1]) (by simp [results, Tryz.f21, go_sem, r0, r1, lgV, lkV]) rfl ?_
    exact HP.out _ _ (AoPost.bad (by rw [Hap.out]) (by decide) ((hB4.setCell (p := ⟨w.heap.size + 1 + 1, 0, none⟩) (show w.heap.size ≤ w.heap.size + 1 + 1 by omega) _).setCell (p := ⟨w.heap.size + 1 + 1, 1, none⟩) (show w.heap.size ≤ w.heap.size + 1 + 1 by omega) _))
  · have t0 := kT.cell 0
    have t1 := kT.cell 1
    have t2 := kT.cell 2
    have t3 := kT.cell 3
    have t4 := kT.cell 4
    simp only [List.getElem?_cons_zero, List.getElem?_cons_succ] at t0 t1 t2 t3 t4
    have H1 := hide h1
    clear h1
    go_wp2_with fail
    refine (HX.out _).mono ?_
    rintro en w5 ⟨rfl, hb5⟩
    have hB5 : Below w.heap.size w w5 := hB4.trans (hb5.mono hB4.size)
    replace kL := kL.below hb5 kL.lt
    replace kT := kT.below hb5 kT.lt
    replace kR := kR.below hb5 kR.lt
    clear t0 t1 t2 t3 t4
    cases h2 : txB (kd, fm, to, am, nc)
    · have Hap := hide (apA_form (e := e) (l := l) (t := (kd, fm, to, am, nc)) (by rw [H1.out, h2]; rfl))
      have r0 := kR.cell 0
      have r1 := kR.cell 1
      have g0 := kR.frozen 0
      have g1 := kR.frozen 1
      simp only [List.getElem?_cons_zero, List.getElem?_cons_succ] at r0 r1
      go_wp2
      refine bodyPost_ret (v := .tuple #[lgV 0 (.slice none 0 0), lkV 1]) (by simp [results, Tryz.f21, go_sem, r0, r1, lgV, lkV]) rfl ?_
      exact HP.out _ _ (AoPost.bad (by rw [Hap.out]) (by decide) ((hB5.setCell (p := ⟨w.heap.size + 1 + 1, 0, none⟩) (show w.heap.size ≤ w.heap.size + 1 + 1 by omega) _).setCell (p := ⟨w.heap.size + 1 + 1, 1, none⟩) (show w.heap.size ≤ w.heap.size + 1 + 1 by omega) _))
    · have H2 : Hid ((lgB e l && txB (kd, fm, to, am, nc)) = true) := hide (by rw [H1.out, h2]; rfl)
      have Hx := hide h2
      have l0 := kL.cell 0
      have l1 := kL.cell 1
      simp only [List.getElem?_cons_zero, List.getElem?_cons_succ] at l0 l1
      clear h2 HX HO
      go_wp2_with fail
      refine (HD.out _ (Hr.out.below hB5 (Nat.le_refl _))).mono ?_
      rintro en w6 ⟨v6, rfl, o6, hb6⟩
      have hB6 : Below w.heap.size w w6 := hB5.trans (hb6.mono hB5.size)
      replace kL := kL.below hb6 kL.lt
      replace kT := kT.below hb6 kT.lt
      replace kR := kR.below hb6 kR.lt
      clear l0 l1
      obtain ⟨g, cap, Z, rfl, hZ, hG⟩ := o6.rowG
      have hgl := hG.lt
      have hlo : ∀ i (hi : i < Z.length) k, Z[i].2.ownBlock = some k → k < w6.heap.size := fun i hi k hk => (hG.lvs.own i hi).lt k hk
      obtain ⟨w7, hw7⟩ : ∃ w7, w6.alloc (.cells #[.int .i64 e, .slice (some ⟨g, 0, none⟩) l.length cap] 26) = w7 := ⟨_, rfl⟩
      have hb7 : Below w6.heap.size w6 w7 := by rw [← hw7]; exact (Below.refl _ w6).alloc (Nat.le_refl _) _
      have kF : Blk w7 w6.heap.size 26 [.int .i64 e, .slice (some ⟨g, 0, none⟩) l.length cap] := by rw [← hw7]; exact Blk.new w6 _ _
      have s7 : w7.heap.size = w6.heap.size + 1 := by rw [← hw7]; simp
      have hB7 : Below w.heap.size w w7 := hB6.trans (hb7.mono hB6.size)
      replace kL := kL.below hb7 kL.lt
      replace kT := kT.below hb7 kT.lt
      replace kR := kR.below hb7 kR.lt
      have hG7 := hG.below hb7 (Nat.le_refl _)
      have o7 := hG7.own
      rw [hZ] at o7
      have f1 := kF.cell 1
      have t1 := kT.cell 1
      simp only [List.getElem?_cons_zero, List.getElem?_cons_succ] at f1 t1
      clear HD hG o6
      go_wp2_with fail
      refine (HA.out _ _ o7.rd).mono ?_
      rintro en w8 ⟨rfl, hb8⟩
      have hB8 : Below w.heap.size w w8 := hB7.trans (hb8.mono hB7.size)
      replace kL := kL.below hb8 kL.lt
      replace kT := kT.below hb8 kT.lt
      replace kR := kR.below hb8 kR.lt
      replace kF := kF.below hb8 kF.lt
      have hG8 := hG7.below hb8 (Nat.le_refl _)
      clear f1 t1 hG7 o7 HA
      rcases at_cases l fm with hat | ⟨k, hk, hat, hkn, hkb⟩
      · have Hap := hide (apA_none (t := (kd, fm, to, am, nc)) H2.out (by show atA l fm < 0; rw [hat]; decide))
        rw [hat]
        have r0 := kR.cell 0
        have r1 := kR.cell 1
        have g0 := kR.frozen 0
        have g1 := kR.frozen 1
        simp only [List.getElem?_cons_zero, List.getElem?_cons_succ] at r0 r1
        go_wp2
        refine bodyPost_ret (v := .tuple #[lgV 0 (.slice none 0 0), lkV 2]) (by simp [results, Tryz.f21, go_sem, r0, r1, lgV, lkV]) rfl ?_
        exact HP.out _ _ (AoPost.bad (by rw [Hap.out]) (by decide) ((hB8.setCell (p := ⟨w.heap.size + 1 + 1, 0, none⟩) (show w.heap.size ≤ w.heap.size + 1 + 1 by omega) _).setCell (p := ⟨w.heap.size + 1 + 1, 1, none⟩) (show w.heap.size ≤ w.heap.size + 1 + 1 by omega) _))
      · rw [hat]
        have hkZ : k < Z.length := by have := hG8.len; omega
        have hZk : Z[k].1 = l[k] := fst_get hZ k hkZ hk
        have Hat := hide hat
        have hlen := Hall.out l[k] (List.getElem_mem _)
        have hlg : lgB e l = true := H1.out
        have hack := acs_at (lg_acs hlg) k hk
        have hpar := ac_parts hack
        have hasc := asc_lv hpar.2.2.2.2.2
        obtain ⟨c0, c1, c2, c3, c4⟩ := hG8.at k hkZ
        have hown := hG8.lvs.own k hkZ
        have hshape := hown.rd.shape
        have htp := tx_parts Hx.out
        have hgd : l.getD k ac0 = l[k] := getD_at l k hk
        obtain ⟨q, hq⟩ : ∃ q, Z[k] = q := ⟨_, rfl⟩
        rw [← hZk] at hlen hpar hasc hgd
        rw [hq] at c0 c1 c2 c3 c4 hown hshape hlen hpar hasc hgd
        obtain ⟨⟨nm, fr, no, st, ls⟩, lv⟩ := q
        simp only at c0 c1 c2 c3 c4 hown hshape hlen hpar hasc hgd htp
        obtain ⟨av', cv', rfl⟩ := hshape
        have hki : (k : Int) < (l.length : Int) := by omega
        have hcap := hG8.caps
        have HSb : Hid (∀ W, Below w8.heap.size w8 W → (W.cell? ⟨w6.heap.size, 1, none⟩ = some (.slice (some ⟨g, 0, none⟩) l.length cap) ∧ W.cell? ⟨w.heap.size, 0, none⟩ = some (.int .i64 e) ∧ W.cell? ⟨w.heap.size + 1, 0, none⟩ = some (.int .i64 kd) ∧ W.cell? ⟨w.heap.size + 1, 1, none⟩ = some (.string fm) ∧ W.cell? ⟨w.heap.size + 1, 2, none⟩ = some (.string to) ∧ W.cell? ⟨w.heap.size + 1, 3, none⟩ = some (.int .i64 am) ∧ W.cell? ⟨w.heap.size + 1, 4, none⟩ = some (.int .i64 nc) ∧ W.cell? ⟨g, k * 5, none⟩ = some (.string nm) ∧ W.cell? ⟨g, k * 5 + 1, none⟩ = some (.int .i64 fr) ∧ W.cell? ⟨g, k * 5 + 2, none⟩ = some (.int .i64 no) ∧ W.cell? ⟨g, k * 5 + 3, none⟩ = some (.int .i64 st) ∧ W.cell? ⟨g, k * 5 + 4, none⟩ = some (.slice av' ls.length cv'))) := hide (fun W hb => by
          have y1 := kF.below hb kF.lt
          have y2 := kL.below hb kL.lt
          have y3 := kT.below hb kT.lt
          have y4 := hG8.below hb (Nat.le_refl _)
          obtain ⟨z0, z1, z2, z3, z4⟩ := y4.at k hkZ
          rw [hq] at z0 z1 z2 z3 z4
          exact ⟨y1.cell 1, y2.cell 0, y3.cell 0, y3.cell 1, y3.cell 2, y3.cell 3, y3.cell 4, z0, z1, z2, z3, z4⟩)
        have HC : Hid (∀ W, Below w8.heap.size w8 W → Calls Tryz.prog 42 #[.agg #[.string nm, .int .i64 fr, .int .i64 no, .int .i64 st, .slice av' ls.length cv'], .agg #[.int .i64 kd, .string fm, .string to, .int .i64 am, .int .i64 nc], .int .i64 e] W fun en w' => ∃ (A : Ac) (x : Option Addr) (n c : Nat) (er : Value), en = .returned (.tuple #[.agg #[.string A.1, .int .i64 A.2.1, .int .i64 A.2.2.1, .int .i64 A.2.2.2.1, .slice x n c], er]) ∧ GvOut (nm, fr, no, st, ls) (.slice av' ls.length cv') (kd, fm, to, am, nc) e W.heap.size w' A (.slice x n c) er ∧ Below W.heap.size W w' ∧ Below w8.heap.size w8 w') := hide (fun W hb =>
          (implGiver_any (nm, fr, no, st, ls) (.slice av' ls.length cv') (kd, fm, to, am, nc) e W (hown.rd.below hb (Nat.le_refl _)) (by show ls.length ≤ 4000000; omega) htp.2.2.2 (wl_lv _ _ _ hasc)).mono (fun en w' h => by
            obtain ⟨A, x, n, c, er, h1, h2, h3⟩ := h.out ⟨_, _, _, rfl⟩
            exact ⟨A, x, n, c, er, h1, h2, h3, hb.trans (h3.mono hb.size)⟩))
        have KF := hide kF
        have KL := hide kL
        have KT := hide kT
        have KR := hide kR
        have HG8 := hide hG8
        have HB8 := hide hB8
        have HQ := hide hq
        have Hlk : Hid (l[k] = (nm, fr, no, st, ls)) := hide (by rw [← hZk, hq])
        have HZ := hide hZ
        have Hgd := hide hgd
        have Hlo := hide hlo
        have Htp := hide htp
        have bD : Below w8.heap.size w8 w8.drew := (Below.refl _ w8).drew
        have bE : Below w8.heap.size w8 (w8.alloc (.cells #[.string { data := #[] }, .int .i64 0, .int .i64 0, .int .i64 0, .slice none 0 0] 36)).drew := ((Below.refl _ w8).alloc (Nat.le_refl _) _).drew
        have nE : Blk (w8.alloc (.cells #[.string { data := #[] }, .int .i64 0, .int .i64 0, .int .i64 0, .slice none 0 0] 36)).drew w8.heap.size 36 acZ := Blk.new w8 36 acZ
        clear kF kL kT kR hG8 hB8 hq hZ hlo hgd c0 c1 c2 c3 c4 hown hpar hasc hack htp hlg
        go_wp2
        go_region_held_law (fun w' => w'.cell? ⟨w6.heap.size, 1, none⟩ = some (.slice (some ⟨g, 0, none⟩) l.length cap) ∧ w'.cell? ⟨w.heap.size, 0, none⟩ = some (.int .i64 e) ∧ w'.cell? ⟨w.heap.size + 1, 0, none⟩ = some (.int .i64 kd) ∧ w'.cell? ⟨w.heap.size + 1, 1, none⟩ = some (.string fm) ∧ w'.cell? ⟨w.heap.size + 1, 2, none⟩ = some (.string to) ∧ w'.cell? ⟨w.heap.size + 1, 3, none⟩ = some (.int .i64 am) ∧ w'.cell? ⟨w.heap.size + 1, 4, none⟩ = some (.int .i64 nc) ∧ w'.cell? ⟨g, k * 5, none⟩ = some (.string nm) ∧ w'.cell? ⟨g, k * 5 + 1, none⟩ = some (.int .i64 fr) ∧ w'.cell? ⟨g, k * 5 + 2, none⟩ = some (.int .i64 no) ∧ w'.cell? ⟨g, k * 5 + 3, none⟩ = some (.int .i64 st) ∧ w'.cell? ⟨g, k * 5 + 4, none⟩ = some (.slice av' ls.length cv')) ((refine HSb.out _ ?_; repeat (first | with_reducible exact bD | with_reducible exact b9 | with_reducible exact Below.refl _ _ | refine Below.drew ?_ | refine Below.alloc ?_ (by first | omega | (simp; done) | (simp; omega) | (dsimp only; omega)) _ | refine Below.setCell ?_ (by first | omega | (simp; done) | (simp; omega) | (dsimp only; omega)) _))) ((first
          | (go_at_call 42; with_reducible refine (HC.out w8.drew bD).mono ?_; rintro en w9 ⟨A, x9, n9, c9, er, rfl, hout, hb9, b9⟩; have z9 := b9.size; have z9' := hb9.size)
          | (go_at_call 42; with_reducible refine (HC.out ((w8.alloc (.cells #[.string { data := #[] }, .int .i64 0, .int .i64 0, .int .i64 0, .slice none 0 0] 36)).drew) bE).mono ?_; rintro en w9 ⟨A, x9, n9, c9, er, rfl, hout, hb9, b9⟩; have z9 := b9.size; have z9' := hb9.size; have nb := nE.below hb9 nE.lt; have e0 := nb.cell 0; have e1 := nb.cell 1; have e2 := nb.cell 2; have e3 := nb.cell 3; have e4 := nb.cell 4; have p0 := nb.frozen 0; have p1 := nb.frozen 1; have p2 := nb.frozen 2; have p3 := nb.frozen 3; have p4 := nb.frozen 4; simp only [acZ, List.getElem?_cons_zero, List.getElem?_cons_succ] at e0 e1 e2 e3 e4)))
        all_goals first
          | (obtain ⟨W, hW⟩ : ∃ W, w9.alloc (.cells #[.string A.1, .int .i64 A.2.1, .int .i64 A.2.2.1, .int .i64 A.2.2.2.1, .slice x9 n9 c9] 36) = W := ⟨_, rfl⟩
             have bW : Below w8.heap.size w8 W := by rw [← hW]; exact b9.alloc z9 _
             have nB : Blk W w9.heap.size 36 [.string A.1, .int .i64 A.2.1, .int .i64 A.2.2.1, .int .i64 A.2.2.2.1, .slice x9 n9 c9] := by rw [← hW]; exact Blk.new w9 _ _
             have HOut : Hid (GvOut (nm, fr, no, st, ls) (.slice av' ls.length cv') (kd, fm, to, am, nc) e w8.heap.size W A (.slice x9 n9 c9) er) := hide (hout.to (fun m hm => by rw [← hW]; exact (hm.mono (by simp)).alloc _))
             rw [hW])
          | (obtain ⟨W, hW⟩ : ∃ W, ((((w9.setCell ⟨w8.heap.size, 0, none⟩ (.string A.1)).setCell ⟨w8.heap.size, 1, none⟩ (.int .i64 A.2.1)).setCell ⟨w8.heap.size, 2, none⟩ (.int .i64 A.2.2.1)).setCell ⟨w8.heap.size, 3, none⟩ (.int .i64 A.2.2.2.1)).setCell ⟨w8.heap.size, 4, none⟩ (.slice x9 n9 c9) = W := ⟨_, rfl⟩
             have bW : Below w8.heap.size w8 W := by rw [← hW]; exact below_set5 b9 w8.heap.size 0 _ _ _ _ _ (Nat.le_refl _)
             have nB : Blk W w8.heap.size 36 [.string A.1, .int .i64 A.2.1, .int .i64 A.2.2.1, .int .i64 A.2.2.2.1, .slice x9 n9 c9] := by rw [← hW]; exact ((((nb.set 0 _).set 1 _).set 2 _).set 3 _).set 4 _
             have HOut : Hid (GvOut (nm, fr, no, st, ls) (.slice av' ls.length cv') (kd, fm, to, am, nc) e w8.heap.size W A (.slice x9 n9 c9) er) := hide (hout.to (fun m hm => by
               have hge := hm.ge
               have nn : ∀ j, (Value.slice x9 n9 c9).ownBlock = some j → j ≠ w8.heap.size := fun j hj => by have := hge j hj; simp at this; omega
               rw [← hW]
               exact row_set (row_set (row_set (row_set (row_set (hm.mono (by simp)) _ _ _ nn) _ _ _ nn) _ _ _ nn) _ _ _ nn) _ _ _ nn))
             rw [hW]
             clear e0 e1 e2 e3 e4 p0 p1 p2 p3 p4 nb)
        all_goals clear hW hout hb9 b9 HC HSb bD bE nE
        all_goals
          have kT := KT.out.below bW KT.out.lt
          have kR := KR.out.below bW KR.out.lt
          have kF := KF.out.below bW KF.out.lt
          have hG := HG8.out.below bW (Nat.le_refl _)
          have hBW := HB8.out.trans (bW.mono HB8.out.size)
          have r0 := kR.cell 0
          have r1 := kR.cell 1
          have g0 := kR.frozen 0
          have g1 := kR.frozen 1
          simp only [List.getElem?_cons_zero, List.getElem?_cons_succ] at r0 r1
          by_cases hn : no = nc
          · by_cases hs : hasA (kd, fm, to, am, nc) (nm, fr, no, st, ls) < am
            · have Hap := hide (apA_short (t := (kd, fm, to, am, nc)) H2.out Hat.out (by rw [Hgd.out]; exact hn) (by rw [Hgd.out]; exact hs))
              obtain rfl := HOut.out.2.1 hn hs
              have HBx := hide ((hBW.setCell (p := ⟨w.heap.size + 1 + 1, 0, none⟩) (show w.heap.size ≤ w.heap.size + 1 + 1 by omega) (.int .i64 0)).setCell (p := ⟨w.heap.size + 1 + 1, 1, none⟩) (show w.heap.size ≤ w.heap.size + 1 + 1 by omega) (.slice none 0 0))
              unfold lkV
              clear hs hn HOut hG kT kF
              go_wp2
              refine bodyPost_ret (v := .tuple #[lgV 0 (.slice none 0 0), lkV 4]) (by simp [results, Tryz.f21, go_sem, r0, r1, lgV, lkV]) rfl ?_
              exact HP.out _ _ (AoPost.bad (by rw [Hap.out]) (by decide) HBx.out)
            · obtain ⟨rfl, hA, h4, h5⟩ := HOut.out.2.2 hn hs
              have z8 := hb8.size
              have z6 := hb6.size
              have z5 := hb5.size
              have z4 := hb4.size
              have Hput := hide (put_giver hG k hkZ A (.slice x9 n9 c9) (by
                rw [HQ.out]
                by_cases hk3 : kd = 3
                · exact .inr ⟨w8.heap.size, by rw [hA]; exact h5 hk3, by omega, by omega, fun i hi r hr => by have := Hlo.out i hi r hr; omega⟩
                · exact .inl ⟨h4 hk3, by rw [hA]; exact gvA_lv hk3 Htp.out.2.2.2⟩))
              obtain ⟨W1, hW1⟩ : ∃ W1, ((((W.setCell ⟨g, k * 5, none⟩ (.string A.1)).setCell ⟨g, k * 5 + 1, none⟩ (.int .i64 A.2.1)).setCell ⟨g, k * 5 + 2, none⟩ (.int .i64 A.2.2.1)).setCell ⟨g, k * 5 + 3, none⟩ (.int .i64 A.2.2.2.1)).setCell ⟨g, k * 5 + 4, none⟩ (.slice x9 n9 c9) = W1 := ⟨_, rfl⟩
              rw [hW1] at Hput
              have HL : Hid ((Z.set k (A, Value.slice x9 n9 c9)).map (·.1) = l.set k (gvA e (kd, fm, to, am, nc) l[k])) := hide (by rw [fst_set, HZ.out, hA, Hlk.out])
              have kT1 : Blk W1 (w.heap.size + 1) 28 [.int .i64 kd, .string fm, .string to, .int .i64 am, .int .i64 nc] := by rw [← hW1]; exact kT.other5 _ _ _ _ _ _ _ (by omega)
              have kR1 : Blk W1 (w.heap.size + 1 + 1) 26 [.int .i64 0, .slice none 0 0] := by rw [← hW1]; exact kR.other5 _ _ _ _ _ _ _ (by omega)
              have kF1 : Blk W1 w6.heap.size 26 [.int .i64 e, .slice (some ⟨g, 0, none⟩) l.length cap] := by rw [← hW1]; exact kF.other5 _ _ _ _ _ _ _ (by omega)
              have hBW1 : Below w.heap.size w W1 := by rw [← hW1]; exact below_set5 hBW _ _ _ _ _ _ _ (by omega)
              have o1 := Hput.out.own
              rw [HL.out] at o1
              have hal : ∀ a ∈ l.set k (gvA e (kd, fm, to, am, nc) l[k]), a.1.size ≤ maxLen ∧ a.2.2.2.2.length ≤ 4000000 := fun a ha => by
                rcases List.mem_or_eq_of_mem_set ha with h | h
                · have := Hall.out a h; omega
                · have h1 := Hall.out l[k] (List.getElem_mem _)
                  have h2 := gvA_len e (kd, fm, to, am, nc) l[k]
                  subst h
                  rw [gvA_name]
                  omega
              have hll : (l.set k (gvA e (kd, fm, to, am, nc) l[k])).length ≤ 3999999 := by simpa using hl
              have f0 := kF.cell 0
              have f1 := kF.cell 1
              have n0 := nB.cell 0
              have n1 := nB.cell 1
              have n2 := nB.cell 2
              have n3 := nB.cell 3
              have n4 := nB.cell 4
              obtain ⟨c0, c1, c2, c3, c4⟩ := hG.at k hkZ
              rw [HQ.out] at c0 c1 c2 c3 c4
              have q0 := hG.frozen (k * 5)
              have q1 := hG.frozen (k * 5 + 1)
              have q2 := hG.frozen (k * 5 + 2)
              have q3 := hG.frozen (k * 5 + 3)
              have q4 := hG.frozen (k * 5 + 4)
              have t0 := kT1.cell 0
              have i0 := kF1.cell 0
              have i1 := kF1.cell 1
              have t2 := kT1.cell 2
              have t3 := kT1.cell 3
              simp only [List.getElem?_cons_zero, List.getElem?_cons_succ] at f0 f1 n0 n1 n2 n3 n4 c0 c1 c2 c3 c4 t0 t2 t3 i0 i1
              have KT1 := hide kT1
              have KR1 := hide kR1
              have KF1 := hide kF1
              have HBW1 := hide hBW1
              have HA' := hide hA
              have Ho1 := hide o1
              have Hal := hide hal
              have Hll := hide hll
              have Hn := hide hn
              have Hs := hide hs
              clear kT kR kF kT1 kR1 kF1 hBW hBW1 hG nB r0 r1 g0 g1 HOut h4 h5 hA o1 hal hll hn hs
              rcases Htp.out.2.2.2 with rfl | rfl | rfl
              · have hpf := pay_full (e := e) (l := l) (t := (1, fm, to, am, nc)) (k := k) H1.out Hx.out rfl hk (by
                  have h := Hs.out
                  unfold hasA at h
                  rw [Hlk.out]
                  simp only at h ⊢
                  rw [if_neg (by decide)] at h
                  omega)
                have Hful := hide (apA_full (t := (1, fm, to, am, nc)) H2.out Hat.out (by rw [Hgd.out]; exact Hn.out) (by rw [Hgd.out]; exact Hs.out))
                have Hgoo := hide (apA_good (t := (1, fm, to, am, nc)) H2.out Hat.out (by rw [Hgd.out]; exact Hn.out) (by rw [Hgd.out]; exact Hs.out))
                have Hcr := hide (implCredit_any _ (l.set k (gvA e (1, fm, to, am, nc) l[k])) to am _ Ho1.out.rd Hll.out Hal.out ht)
                simp only at hpf
                obtain ⟨hpf1, hpf2⟩ := hpf
                have Hlen := hide (crA_len (l.set k (gvA e (1, fm, to, am, nc) l[k])) to am)
                have Hmem := hide (crA_mem' (l := l.set k (gvA e (1, fm, to, am, nc) l[k])) (s := to) (n := am) ht Hal.out)
                have Hpf2 := hide hpf2
                rw [hpf1] at Hcr Hpf2
                generalize (crA (l.set k (gvA e (1, fm, to, am, nc) l[k])) to am).1 = P at Hcr Hpf2 Hlen Hmem
                clear hpf1 hpf2
                go_wp2_with fail
                refine Hcr.out.mono ?_
                rintro en w10 ⟨v10, rfl, o10, hb10⟩
                have hB10 := HBW1.out.trans (hb10.mono HBW1.out.size)
                have kR10 := KR1.out.below hb10 KR1.out.lt
                have kF10 := KF1.out.below hb10 KF1.out.lt
                have z10 := hb10.size
                have zF := KF1.out.lt
                obtain ⟨a10, c10, rfl⟩ := o10.rd.shape
                have j0 := kF10.cell 0
                have j1 := kF10.cell 1
                have jf := kF10.frozen 1
                simp only [List.getElem?_cons_zero, List.getElem?_cons_succ] at j0 j1
                obtain ⟨W2, hW2⟩ : ∃ W2, w10.setCell ⟨w6.heap.size, 1, none⟩ (.slice a10 P.length c10) = W2 := ⟨_, rfl⟩
                have kR2 : Blk W2 (w.heap.size + 1 + 1) 26 [.int .i64 0, .slice none 0 0] := by rw [← hW2]; exact kR10.other _ _ _ (by omega)
                have kF2 : Blk W2 w6.heap.size 26 [.int .i64 e, .slice a10 P.length c10] := by rw [← hW2]; exact kF10.set 1 _
                have hBW2 : Below w.heap.size w W2 := by rw [← hW2]; exact hB10.setCell (p := ⟨w6.heap.size, 1, none⟩) (show w.heap.size ≤ w6.heap.size by omega) _
                have o2 : OwnA W1.heap.size W2 (.slice a10 P.length c10) P := by rw [← hW2]; exact o10.older (by omega) _ _
                clear f0 f1 n0 n1 n2 n3 n4 c0 c1 c2 c3 c4 q0 q1 q2 q3 q4 t0 t2 t3 i0 i1 kR10 kF10 o10
                cases hp : lgB e (doA e (1, fm, to, am, nc) l k)
                · have Hap := hide (Hful.out hp)
                  clear hp
                  have r0 := kR2.cell 0
                  have r1 := kR2.cell 1
                  have g0 := kR2.frozen 0
                  have g1 := kR2.frozen 1
                  simp only [List.getElem?_cons_zero, List.getElem?_cons_succ] at r0 r1
                  have HBx := hide ((hBW2.setCell (p := ⟨w.heap.size + 1 + 1, 0, none⟩) (show w.heap.size ≤ w.heap.size + 1 + 1 by omega) (.int .i64 0)).setCell (p := ⟨w.heap.size + 1 + 1, 1, none⟩) (show w.heap.size ≤ w.heap.size + 1 + 1 by omega) (.slice none 0 0))
                  go_wp2
                  refine bodyPost_ret (v := .tuple #[lgV 0 (.slice none 0 0), lkV 5]) (by simp [results, Tryz.f21, go_sem, r0, r1, lgV, lkV]) rfl ?_
                  exact HP.out _ _ (AoPost.bad (by rw [Hap.out]) (by decide) HBx.out)
                · have Hap := hide (Hgoo.out hp)
                  have hPd := Hpf2.out hp
                  have i0 := kF2.cell 0
                  have i1 := kF2.cell 1
                  simp only [List.getElem?_cons_zero, List.getElem?_cons_succ] at i0 i1
                  have HOk := hide (implLedgerOk_any e (.slice a10 P.length c10) P W2 o2.rd (by have := Hlen.out; have := Hll.out; omega) Hmem.out)
                  rw [hPd, hp] at HOk
                  rw [← hPd] at HOk Hap
                  clear hp hPd
                  go_wp2_with fail
                  refine HOk.out.mono ?_
                  rintro en w11 ⟨rfl, hb11⟩
                  have hB11 := hBW2.trans (hb11.mono hBW2.size)
                  have kR11 := kR2.below hb11 kR2.lt
                  have kF11 := kF2.below hb11 kF2.lt
                  have o11 := o2.below hb11 (Nat.le_refl _)
                  have zW := KR1.out.lt
                  clear i0 i1 kR2 kF2 o2
                  have r0 := kR11.cell 0
                  have r1 := kR11.cell 1
                  have g0 := kR11.frozen 0
                  have g1 := kR11.frozen 1
                  have i0 := kF11.cell 0
                  have i1 := kF11.cell 1
                  simp only [List.getElem?_cons_zero, List.getElem?_cons_succ] at r0 r1 i0 i1
                  have HBx := hide ((hB11.setCell (p := ⟨w.heap.size + 1 + 1, 0, none⟩) (show w.heap.size ≤ w.heap.size + 1 + 1 by omega) (.int .i64 e)).setCell (p := ⟨w.heap.size + 1 + 1, 1, none⟩) (show w.heap.size ≤ w.heap.size + 1 + 1 by omega) (.slice a10 P.length c10))
                  have HOx := hide (((o11.older (g := w.heap.size + 1 + 1) (by omega) 0 (.int .i64 e)).older (g := w.heap.size + 1 + 1) (by omega) 1 (.slice a10 P.length c10)).mono (show w.heap.size ≤ _ by omega))
                  go_wp2
                  refine bodyPost_ret (v := .tuple #[lgV e (.slice a10 P.length c10), .nilIface]) (by simp [results, Tryz.f21, go_sem, r0, r1, lgV]) rfl ?_
                  exact HP.out _ _ (AoPost.good Hap.out HOx.out HBx.out)
              · have Hdo : Hid (doA e (2, fm, to, am, nc) l k = l.set k (gvA e (2, fm, to, am, nc) l[k])) := hide (by unfold doA; rw [if_neg (show ¬ (2 : Int) = 1 by decide), getD_at l k hk])
                have Hful := hide (apA_full (t := (2, fm, to, am, nc)) H2.out Hat.out (by rw [Hgd.out]; exact Hn.out) (by rw [Hgd.out]; exact Hs.out))
                have Hgoo := hide (apA_good (t := (2, fm, to, am, nc)) H2.out Hat.out (by rw [Hgd.out]; exact Hn.out) (by rw [Hgd.out]; exact Hs.out))
                rw [Hdo.out] at Hful Hgoo
                go_wp2_with fail
                refine (implLedgerOk_any e _ (l.set k (gvA e (2, fm, to, am, nc) l[k])) _ Ho1.out.rd (by have := Hll.out; omega) Hal.out).mono ?_
                rintro en w10 ⟨rfl, hb10⟩
                have hB10 := HBW1.out.trans (hb10.mono HBW1.out.size)
                have kR10 := KR1.out.below hb10 KR1.out.lt
                have kF10 := KF1.out.below hb10 KF1.out.lt
                have o10 := Ho1.out.below hb10 (Nat.le_refl _)
                clear f0 f1 n0 n1 n2 n3 n4 c0 c1 c2 c3 c4 q0 q1 q2 q3 q4 t0 t2 t3 i0 i1
                cases hp : lgB e (l.set k (gvA e (2, fm, to, am, nc) l[k]))
                · have Hap := hide (Hful.out hp)
                  clear hp
                  have r0 := kR10.cell 0
                  have r1 := kR10.cell 1
                  have g0 := kR10.frozen 0
                  have g1 := kR10.frozen 1
                  simp only [List.getElem?_cons_zero, List.getElem?_cons_succ] at r0 r1
                  have HBx := hide ((hB10.setCell (p := ⟨w.heap.size + 1 + 1, 0, none⟩) (show w.heap.size ≤ w.heap.size + 1 + 1 by omega) (.int .i64 0)).setCell (p := ⟨w.heap.size + 1 + 1, 1, none⟩) (show w.heap.size ≤ w.heap.size + 1 + 1 by omega) (.slice none 0 0))
                  go_wp2
                  refine bodyPost_ret (v := .tuple #[lgV 0 (.slice none 0 0), lkV 5]) (by simp [results, Tryz.f21, go_sem, r0, r1, lgV, lkV]) rfl ?_
                  exact HP.out _ _ (AoPost.bad (by rw [Hap.out]) (by decide) HBx.out)
                · have Hap := hide (Hgoo.out hp)
                  clear hp
                  have r0 := kR10.cell 0
                  have r1 := kR10.cell 1
                  have g0 := kR10.frozen 0
                  have g1 := kR10.frozen 1
                  have i0 := kF10.cell 0
                  have i1 := kF10.cell 1
                  simp only [List.getElem?_cons_zero, List.getElem?_cons_succ] at r0 r1 i0 i1
                  have HBx := hide ((hB10.setCell (p := ⟨w.heap.size + 1 + 1, 0, none⟩) (show w.heap.size ≤ w.heap.size + 1 + 1 by omega) (.int .i64 e)).setCell (p := ⟨w.heap.size + 1 + 1, 1, none⟩) (show w.heap.size ≤ w.heap.size + 1 + 1 by omega) (.slice (some ⟨g, 0, none⟩) l.length cap))
                  have HOx := hide (((o10.older (g := w.heap.size + 1 + 1) (by omega) 0 (.int .i64 e)).older (g := w.heap.size + 1 + 1) (by omega) 1 (.slice (some ⟨g, 0, none⟩) l.length cap)).mono (show w.heap.size ≤ _ by omega))
                  go_wp2
                  refine bodyPost_ret (v := .tuple #[lgV e (.slice (some ⟨g, 0, none⟩) l.length cap), .nilIface]) (by simp [results, Tryz.f21, go_sem, r0, r1, lgV]) rfl ?_
                  exact HP.out _ _ (AoPost.good Hap.out HOx.out HBx.out)
              · have Hdo : Hid (doA e (3, fm, to, am, nc) l k = l.set k (gvA e (3, fm, to, am, nc) l[k])) := hide (by unfold doA; rw [if_neg (show ¬ (3 : Int) = 1 by decide), getD_at l k hk])
                have Hful := hide (apA_full (t := (3, fm, to, am, nc)) H2.out Hat.out (by rw [Hgd.out]; exact Hn.out) (by rw [Hgd.out]; exact Hs.out))
                have Hgoo := hide (apA_good (t := (3, fm, to, am, nc)) H2.out Hat.out (by rw [Hgd.out]; exact Hn.out) (by rw [Hgd.out]; exact Hs.out))
                rw [Hdo.out] at Hful Hgoo
                go_wp2_with fail
                refine (implLedgerOk_any e _ (l.set k (gvA e (3, fm, to, am, nc) l[k])) _ Ho1.out.rd (by have := Hll.out; omega) Hal.out).mono ?_
                rintro en w10 ⟨rfl, hb10⟩
                have hB10 := HBW1.out.trans (hb10.mono HBW1.out.size)
                have kR10 := KR1.out.below hb10 KR1.out.lt
                have kF10 := KF1.out.below hb10 KF1.out.lt
                have o10 := Ho1.out.below hb10 (Nat.le_refl _)
                clear f0 f1 n0 n1 n2 n3 n4 c0 c1 c2 c3 c4 q0 q1 q2 q3 q4 t0 t2 t3 i0 i1
                cases hp : lgB e (l.set k (gvA e (3, fm, to, am, nc) l[k]))
                · have Hap := hide (Hful.out hp)
                  clear hp
                  have r0 := kR10.cell 0
                  have r1 := kR10.cell 1
                  have g0 := kR10.frozen 0
                  have g1 := kR10.frozen 1
                  simp only [List.getElem?_cons_zero, List.getElem?_cons_succ] at r0 r1
                  have HBx := hide ((hB10.setCell (p := ⟨w.heap.size + 1 + 1, 0, none⟩) (show w.heap.size ≤ w.heap.size + 1 + 1 by omega) (.int .i64 0)).setCell (p := ⟨w.heap.size + 1 + 1, 1, none⟩) (show w.heap.size ≤ w.heap.size + 1 + 1 by omega) (.slice none 0 0))
                  go_wp2
                  refine bodyPost_ret (v := .tuple #[lgV 0 (.slice none 0 0), lkV 5]) (by simp [results, Tryz.f21, go_sem, r0, r1, lgV, lkV]) rfl ?_
                  exact HP.out _ _ (AoPost.bad (by rw [Hap.out]) (by decide) HBx.out)
                · have Hap := hide (Hgoo.out hp)
                  clear hp
                  have r0 := kR10.cell 0
                  have r1 := kR10.cell 1
                  have g0 := kR10.frozen 0
                  have g1 := kR10.frozen 1
                  have i0 := kF10.cell 0
                  have i1 := kF10.cell 1
                  simp only [List.getElem?_cons_zero, List.getElem?_cons_succ] at r0 r1 i0 i1
                  have HBx := hide ((hB10.setCell (p := ⟨w.heap.size + 1 + 1, 0, none⟩) (show w.heap.size ≤ w.heap.size + 1 + 1 by omega) (.int .i64 e)).setCell (p := ⟨w.heap.size + 1 + 1, 1, none⟩) (show w.heap.size ≤ w.heap.size + 1 + 1 by omega) (.slice (some ⟨g, 0, none⟩) l.length cap))
                  have HOx := hide (((o10.older (g := w.heap.size + 1 + 1) (by omega) 0 (.int .i64 e)).older (g := w.heap.size + 1 + 1) (by omega) 1 (.slice (some ⟨g, 0, none⟩) l.length cap)).mono (show w.heap.size ≤ _ by omega))
                  go_wp2
                  refine bodyPost_ret (v := .tuple #[lgV e (.slice (some ⟨g, 0, none⟩) l.length cap), .nilIface]) (by simp [results, Tryz.f21, go_sem, r0, r1, lgV]) rfl ?_
                  exact HP.out _ _ (AoPost.good Hap.out HOx.out HBx.out)
          · have Hap := hide (apA_nonce (t := (kd, fm, to, am, nc)) H2.out Hat.out (by rw [Hgd.out]; exact hn))
            obtain rfl := HOut.out.1 hn
            have HBx := hide ((hBW.setCell (p := ⟨w.heap.size + 1 + 1, 0, none⟩) (show w.heap.size ≤ w.heap.size + 1 + 1 by omega) (.int .i64 0)).setCell (p := ⟨w.heap.size + 1 + 1, 1, none⟩) (show w.heap.size ≤ w.heap.size + 1 + 1 by omega) (.slice none 0 0))
            unfold lkV
            clear hn HOut hG kT kF
            go_wp2
            refine bodyPost_ret (v := .tuple #[lgV 0 (.slice none 0 0), lkV 3]) (by simp [results, Tryz.f21, go_sem, r0, r1, lgV, lkV]) rfl ?_
            exact HP.out _ _ (AoPost.bad (by rw [Hap.out]) (by decide) HBx.out)
end Go.Proofs.YtdelegamcebflaaGreatDoor
