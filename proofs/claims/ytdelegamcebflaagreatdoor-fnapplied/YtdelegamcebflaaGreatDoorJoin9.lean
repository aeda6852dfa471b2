/- The landed code's ledgers that are right, and copies of them. The model's orders: which are right, which is less. The landed code's orders that are right. What the next epoch makes of accounts, and what leaves with one more as the landed code puts it (plain facts). Plain facts on what the ledger's functions answer: how many marks they take. -/
import Derived.Test.YtdelegamcebflaaGreatDoorJoin5
import Derived.Test.YtdelegamcebflaaGreatDoorAcImpl2
import Derived.Test.YtdelegamcebflaaGreatDoorJoin7
import Derived.Test.YtdelegamcebflaaGreatDoorJoin1
import Derived.Lib.QuietBelow
import Derived.Deep.QuietTactic
import Derived.BigQuiet
import Derived.Test.YtdelegamcebflaaGreatDoorJoin8
namespace Go.Proofs.YtdelegamcebflaaGreatDoor
open Go.RowKit
set_option linter.unusedVariables false

set_option maxRecDepth 20000 in
set_option maxHeartbeats 1000000 in
theorem implLedgerOk_any (e : Int) (v : Value) (l : List Ac) (w : World) (hr : RdA w v l) (hl : l.length ≤ 4000000) (hall : ∀ a ∈ l, a.1.size ≤ maxLen ∧ a.2.2.2.2.length ≤ 4000000) :
    Calls Tryz.prog 11 #[lgV e v] w fun en w' => en = .returned (.bool (lgB e l)) ∧ Below w.heap.size w w' := by
  obtain ⟨a1, cv1, rfl⟩ := hr.shape
  simp only [lgV] at *
  have hb3 : Below w.heap.size w (w.alloc (.cells #[.int .i64 e, .slice a1 l.length cv1] 26)) := (Below.refl _ w).alloc (Nat.le_refl _) _
  have HE := hide (implAcctsOk_any _ l _ (hr.below hb3 (Nat.le_refl _)) hl hall)
  have Hb3 := hide hb3
  have Hx : Hid (lgB e l = (inB e 0 900 && acsB l)) := hide rfl
  clear hb3 hr hall
  generalize lgB e l = X at Hx
  generalize acsB l = A at Hx HE
  cases h0 : inB e 0 900
  · rw [h0, Bool.false_and] at Hx
    go_enter Tryz.func11, Tryz.ntmps11
    go_wp2_with (go_at_call 29; refine (implWithin_any _ _ _ _).mono ?_; rintro en w1 ⟨rfl, rfl⟩)
    go_ret
    exact ⟨ret_bool Hx.out.symm, Hb3.out⟩
  · rw [h0, Bool.true_and] at Hx
    go_enter Tryz.func11, Tryz.ntmps11
    go_wp2_with (first
      | (go_at_call 29; refine (implWithin_any _ _ _ _).mono ?_; rintro en w1 ⟨rfl, rfl⟩)
      | (go_at_call 30; refine HE.out.mono ?_; rintro en w2 ⟨rfl, hb2⟩))
    go_ret
    exact ⟨ret_bool Hx.out.symm, Hb3.out.trans (hb2.mono Hb3.out.size)⟩
set_option maxRecDepth 20000 in
set_option maxHeartbeats 1000000 in
theorem implCopiedLg_any (e : Int) (v : Value) (l : List Ac) (w : World) (hr : RdA w v l) (hl : l.length ≤ 4000000) (hall : ∀ a ∈ l, a.2.2.2.2.length ≤ 4000000) :
    Calls Tryz.prog 23 #[lgV e v] w fun en w' => ∃ v', en = .returned (lgV e v') ∧ OwnA w.heap.size w' v' l ∧ Below w.heap.size w w' := by
  obtain ⟨a1, cv1, rfl⟩ := hr.shape
  simp only [lgV] at *
  obtain ⟨w2, hw2⟩ : ∃ w2, (w.alloc (.cells #[.int .i64 e, .slice a1 l.length cv1] 26)).alloc (.cells #[.int .i64 0, .slice none 0 0] 26) = w2 := ⟨_, rfl⟩
  have hb2 : Below w.heap.size w w2.drew := by rw [← hw2]; exact (((Below.refl _ w).alloc (Nat.le_refl _) _).alloc (by simp) _).drew
  have hs2 : w2.heap.size = w.heap.size + 2 := by rw [← hw2]; simp
  have kA : Blk w2 w.heap.size 26 [.int .i64 e, .slice a1 l.length cv1] := by
    rw [← hw2]
    exact (Blk.new w 26 [.int .i64 e, .slice a1 l.length cv1]).below ((Below.refl (w.heap.size + 1) _).alloc (by simp) _) (by omega)
  have kR : Blk w2 (w.heap.size + 1) 26 [.int .i64 0, .slice none 0 0] := by
    rw [← hw2]
    have h := Blk.new (w.alloc (.cells #[.int .i64 e, .slice a1 l.length cv1] 26)) 26 [.int .i64 0, .slice none 0 0]
    simp only [World.size_alloc] at h
    exact h
  have HC := hide (implCopiedS_any _ l w2.drew (hr.below hb2 (Nat.le_refl _)) hl hall)
  have hS2 : w2.drew.cell? ⟨w.heap.size, 0, none⟩ = some (.int .i64 e) ∧ w2.drew.cell? ⟨w.heap.size, 1, none⟩ = some (.slice a1 l.length cv1) := ⟨kA.cell 0, kA.cell 1⟩
  have Hb2 := hide hb2
  have KA : Hid (Blk w2.drew w.heap.size 26 [.int .i64 e, .slice a1 l.length cv1]) := hide kA
  have KR : Hid (Blk w2.drew (w.heap.size + 1) 26 [.int .i64 0, .slice none 0 0]) := hide kR
  have hs3 : w2.drew.heap.size = w.heap.size + 2 := hs2
  clear hr hb2 kA kR
  go_enter Tryz.func23, Tryz.ntmps23
  go_wp2
  go_region_held_law (fun w' => w'.cell? ⟨w.heap.size, 0, none⟩ = some (.int .i64 e) ∧ w'.cell? ⟨w.heap.size, 1, none⟩ = some (.slice a1 l.length cv1)) (first | exact hS2 | exact hS4 | exact keep2 hS4 (by omega)) ((go_at_call 48; refine HC.out.mono ?_; rintro en w4 ⟨v4, rfl, ho4, hb4⟩; have KA4 := KA.out.below hb4 (by omega); have KR4 := KR.out.below hb4 (by omega); have hS4 : w4.cell? ⟨w.heap.size, 0, none⟩ = some (.int .i64 e) ∧ w4.cell? ⟨w.heap.size, 1, none⟩ = some (.slice a1 l.length cv1) := ⟨KA4.cell 0, KA4.cell 1⟩; have r0 : w4.cell? ⟨w.heap.size + 1, 0, none⟩ = some (.int .i64 0) := KR4.cell 0; have r1 : w4.cell? ⟨w.heap.size + 1, 1, none⟩ = some (.slice none 0 0) := KR4.cell 1; have q0 := KR4.frozen 0; have q1 := KR4.frozen 1; have hsh := ho4.rd.shape; obtain ⟨a4, cv4, hv4⟩ := hsh; subst hv4))
  have Ho := hide (((ho4.older (g := w.heap.size + 1) (by omega) 0 (.int .i64 e)).older (g := w.heap.size + 1) (by omega) 1 (.slice a4 l.length cv4)).mono (show w.heap.size ≤ _ by omega))
  have HB := hide (((Hb2.out.trans (hb4.mono Hb2.out.size)).setCell (p := ⟨w.heap.size + 1, 0, none⟩) (show w.heap.size ≤ w.heap.size + 1 by omega) (.int .i64 e)).setCell (p := ⟨w.heap.size + 1, 1, none⟩) (show w.heap.size ≤ w.heap.size + 1 by omega) (.slice a4 l.length cv4))
  clear ho4 hb4 KA4
  go_wp2
  refine bodyPost_ret (v := .agg #[.int .i64 e, .slice a4 l.length cv4]) (by simp [results, Tryz.f23, go_sem, r0, r1]) rfl ?_
  exact ⟨_, rfl, Ho.out, HB.out⟩
end Go.Proofs.YtdelegamcebflaaGreatDoor

namespace Go.Proofs.YtdelegamcebflaaGreatDoor
open Go.RowKit
set_option linter.unusedVariables false

theorem toList_inj5 {t : ByteArray} (h : t.toList = []) : t = ByteArray.empty := by
  rw [ByteArray.toList_eq] at h
  exact ByteArray.ext (Array.toList_inj.1 h)
set_option maxRecDepth 20000 in
set_option maxHeartbeats 2000000 in
theorem specTxOk_any (t : Tx5) (w : World) (hf : t.2.1.size ≤ maxLen) (ht : t.2.2.1.size ≤ maxLen) :
    Calls Tryz.prog 26 #[txV t] w fun e w' => e = .returned (.bool (txB t)) ∧ Below w.heap.size w w' := by
  obtain ⟨k, f, to, am, no⟩ := t
  simp only [txV] at *
  obtain ⟨w0, hw0⟩ : ∃ w0, w.alloc (.cells #[.int .i64 k, .string f, .string to, .int .i64 am, .int .i64 no] 28) = w0 := ⟨_, rfl⟩
  have HB : Hid (Below w.heap.size w w0) := hide (by rw [← hw0]; exact (Below.refl _ w).alloc (Nat.le_refl _) _)
  have hk : w0.heap[w.heap.size]? = some (.cells #[.int .i64 k, .string f, .string to, .int .i64 am, .int .i64 no] 28 (0, 0)) := by rw [← hw0]; exact heap_alloc_new w _
  have k0 : w0.cell? ⟨w.heap.size, 0, none⟩ = some (.int .i64 k) := by simp [World.cell?, hk]
  have k1 : w0.cell? ⟨w.heap.size, 1, none⟩ = some (.string f) := by simp [World.cell?, hk]
  have k2 : w0.cell? ⟨w.heap.size, 2, none⟩ = some (.string to) := by simp [World.cell?, hk]
  have k3 : w0.cell? ⟨w.heap.size, 3, none⟩ = some (.int .i64 am) := by simp [World.cell?, hk]
  have k4 : w0.cell? ⟨w.heap.size, 4, none⟩ = some (.int .i64 no) := by simp [World.cell?, hk]
  clear hk
  have Hx : Hid (txB (k, f, to, am, no) = (nmB f && (inB am 1 1000000 && (inB no 0 10000 && (if k = 1 then nmB to else (inB k 2 3 && decide (to = ByteArray.empty))))))) := hide rfl
  generalize txB (k, f, to, am, no) = X at Hx
  cases e0 : nmB f
  · rw [e0, Bool.false_and] at Hx
    go_enter Tryz.func26, Tryz.ntmps26
    go_wp2_with (first
      | (go_at_call 52; refine (specNameOk_any _ _ (by assumption)).mono ?_; rintro e w0 ⟨rfl, rfl⟩)
      | (go_at_call 50; refine (l1In_any _ _ _ _).mono ?_; rintro e w0 ⟨rfl, rfl⟩))
    go_ret
    exact ⟨ret_bool Hx.out.symm, HB.out⟩
  · cases e1 : inB am 1 1000000
    · rw [e0, e1, Bool.true_and, Bool.false_and] at Hx
      go_enter Tryz.func26, Tryz.ntmps26
      go_wp2_with (first
        | (go_at_call 52; refine (specNameOk_any _ _ (by assumption)).mono ?_; rintro e w0 ⟨rfl, rfl⟩)
        | (go_at_call 50; refine (l1In_any _ _ _ _).mono ?_; rintro e w0 ⟨rfl, rfl⟩))
      go_ret
      exact ⟨ret_bool Hx.out.symm, HB.out⟩
    · cases e2 : inB no 0 10000
      · rw [e0, e1, e2, Bool.true_and, Bool.true_and, Bool.false_and] at Hx
        go_enter Tryz.func26, Tryz.ntmps26
        go_wp2_with (first
          | (go_at_call 52; refine (specNameOk_any _ _ (by assumption)).mono ?_; rintro e w0 ⟨rfl, rfl⟩)
          | (go_at_call 50; refine (l1In_any _ _ _ _).mono ?_; rintro e w0 ⟨rfl, rfl⟩))
        go_ret
        exact ⟨ret_bool Hx.out.symm, HB.out⟩
      · rw [e0, e1, e2, Bool.true_and, Bool.true_and, Bool.true_and] at Hx
        by_cases hk1 : k = 1
        · rw [if_pos hk1] at Hx
          subst hk1
          go_enter Tryz.func26, Tryz.ntmps26
          go_wp2_with (first
            | (go_at_call 52; refine (specNameOk_any _ _ (by assumption)).mono ?_; rintro e w0 ⟨rfl, rfl⟩)
            | (go_at_call 50; refine (l1In_any _ _ _ _).mono ?_; rintro e w0 ⟨rfl, rfl⟩))
          go_ret
          exact ⟨ret_bool Hx.out.symm, HB.out⟩
        · rw [if_neg hk1] at Hx
          have hkb : (k == 1) = false := by rw [beq_eq_false_iff_ne]; exact hk1
          clear hk1
          cases e3 : inB k 2 3
          · rw [e3, Bool.false_and] at Hx
            go_enter Tryz.func26, Tryz.ntmps26
            go_wp2_with (first
              | (go_at_call 52; refine (specNameOk_any _ _ (by assumption)).mono ?_; rintro e w0 ⟨rfl, rfl⟩)
              | (go_at_call 50; refine (l1In_any _ _ _ _).mono ?_; rintro e w0 ⟨rfl, rfl⟩))
            go_ret
            exact ⟨ret_bool Hx.out.symm, HB.out⟩
          · by_cases e4 : to = ByteArray.empty
            · rw [e3, decide_eq_true e4, Bool.true_and] at Hx
              subst e4
              go_enter Tryz.func26, Tryz.ntmps26
              go_wp2_with (first
                | (go_at_call 52; refine (specNameOk_any _ _ (by assumption)).mono ?_; rintro e w0 ⟨rfl, rfl⟩)
                | (go_at_call 50; refine (l1In_any _ _ _ _).mono ?_; rintro e w0 ⟨rfl, rfl⟩))
              go_ret
              exact ⟨ret_bool Hx.out.symm, HB.out⟩
            · rw [e3, decide_eq_false e4, Bool.true_and] at Hx
              have hne : to.toList.isEmpty = false := by
                cases h : to.toList.isEmpty
                · rfl
                · exact absurd (toList_inj5 (List.isEmpty_iff.1 h)) e4
              clear e4
              go_enter Tryz.func26, Tryz.ntmps26
              go_wp2_with (first
                | (go_at_call 52; refine (specNameOk_any _ _ (by assumption)).mono ?_; rintro e w0 ⟨rfl, rfl⟩)
                | (go_at_call 50; refine (l1In_any _ _ _ _).mono ?_; rintro e w0 ⟨rfl, rfl⟩))
              go_ret
              exact ⟨ret_bool Hx.out.symm, HB.out⟩
end Go.Proofs.YtdelegamcebflaaGreatDoor

namespace Go.Proofs.YtdelegamcebflaaGreatDoor
open Go.RowKit
open Go.RowKit Go.Sort
set_option linter.unusedVariables false

theorem same_regrown {P : Program} {f : FuncId} {args : Array Value} {w : World} {d : Nat} {os : Array Obj} {v : Value}
    (h : Calls P f args (grow (redrawn w d) os) fun e w' => e = .returned v ∧ w' = grow (redrawn w d) os) : Calls P f args (grow (redrawn w d) os) fun e w'' => e = .returned v ∧ ∃ p : Regrown, w'' = grow (redrawn w p.d) p.os :=
  h.mono fun _ _ ⟨he, hw⟩ => ⟨he, ⟨⟨d, os⟩, hw⟩⟩
theorem implWithinT_any (x a b : Int) (w : World) :
    Calls Tryz.prog 29 #[.int .i64 x, .int .i64 a, .int .i64 b] w fun e w' => e = .returned (.bool (inB x a b)) ∧ w' = w := by
  by_cases h1 : a ≤ x
  · by_cases h2 : x ≤ b
    · have e : Hid (inB x a b = true) := hide (by simp [inB, h1, h2])
      go_enter Tryz.func29, Tryz.ntmps29
      go_wp2
      go_ret
      rw [e.out]; exact ⟨rfl, rfl⟩
    · have e : Hid (inB x a b = false) := hide (by simp [inB, h1, h2])
      go_enter Tryz.func29, Tryz.ntmps29
      go_wp2
      go_ret
      rw [e.out]; exact ⟨rfl, rfl⟩
  · have e : Hid (inB x a b = false) := hide (by simp [inB, h1])
    go_enter Tryz.func29, Tryz.ntmps29
    go_wp2
    go_ret
    rw [e.out]; exact ⟨rfl, rfl⟩
set_option maxRecDepth 20000 in
set_option maxHeartbeats 1000000 in
theorem implOnly_any (k am no : Int) (f to : ByteArray) (w : World) :
    Calls Tryz.prog 68 #[.agg #[.int .i64 k, .string f, .string to, .int .i64 am, .int .i64 no]] w fun e w' => e = .returned (.agg #[.int .i64 k, .string f, .string (if k = 1 then to else { data := #[] }), .int .i64 am, .int .i64 no]) ∧ Below w.heap.size w w' := by
  by_cases h1 : k = 1
  · rw [if_pos h1]
    subst h1
    go_enter Tryz.func68, Tryz.ntmps68
    go_wp2
    refine bodyPost_ret (v := .agg #[.int .i64 1, .string f, .string to, .int .i64 am, .int .i64 no]) (by simp [results, Tryz.f68, go_sem]) rfl ?_
    exact ⟨rfl, ((Below.refl _ w).alloc (Nat.le_refl _) _).alloc (by simp) _⟩
  · rw [if_neg h1]
    have hq : (k == 1) = false := by rw [beq_eq_false_iff_ne]; exact h1
    clear h1
    go_enter Tryz.func68, Tryz.ntmps68
    go_wp2
    refine bodyPost_ret (v := .agg #[.int .i64 k, .string f, .string { data := #[] }, .int .i64 am, .int .i64 no]) (by simp [results, Tryz.f68, go_sem]) rfl ?_
    exact ⟨rfl, ((Below.refl _ w).alloc (Nat.le_refl _) _).alloc (by simp) _⟩
theorem txB_is (k am no : Int) (f to : ByteArray) : txB (k, f, to, am, no) = (inB k 1 3 && ((decide (k = 1) || decide (to = ByteArray.empty)) && ((!decide (k = 1) || nmB to) && (nmB f && (inB am 1 1000000 && inB no 0 10000))))) := by
  simp only [txB]
  by_cases h : k = 1
  · subst h
    simp only [if_pos, inB]
    cases nmB f <;> cases nmB to <;> simp
  · rw [if_neg h]
    have e : inB k 2 3 = inB k 1 3 := by
      rw [Bool.eq_iff_iff]
      simp only [inB, decide_eq_true_eq]
      omega
    rw [e]
    cases inB k 1 3 <;> cases nmB f <;> cases inB am 1 1000000 <;> cases inB no 0 10000 <;> simp [h]
set_option maxRecDepth 20000 in
set_option maxHeartbeats 4000000 in
theorem implTxOk_any (t : Tx5) (w : World) (hf : t.2.1.size ≤ maxLen) (ht : t.2.2.1.size ≤ maxLen) :
    Calls Tryz.prog 41 #[txV t] w fun e w' => e = .returned (.bool (txB t)) ∧ Below w.heap.size w w' := by
  obtain ⟨k, f, to, am, no⟩ := t
  simp only [txV] at *
  obtain ⟨w0, hw0⟩ : ∃ w0, w.alloc (.cells #[.int .i64 k, .string f, .string to, .int .i64 am, .int .i64 no] 28) = w0 := ⟨_, rfl⟩
  have HB : Hid (Below w.heap.size w w0) := hide (by rw [← hw0]; exact (Below.refl _ w).alloc (Nat.le_refl _) _)
  have hk : Blk w0 w.heap.size 28 [.int .i64 k, .string f, .string to, .int .i64 am, .int .i64 no] := by rw [← hw0]; exact heap_alloc_new w _
  have k0 := hk.cell 0
  have k1 := hk.cell 1
  have k2 := hk.cell 2
  have k3 := hk.cell 3
  have k4 := hk.cell 4
  simp only [List.getElem?_cons_zero, List.getElem?_cons_succ] at k0 k1 k2 k3 k4
  have g0 := cell_regrown k0
  have g1 := cell_regrown k1
  have g2 := cell_regrown k2
  have g3 := cell_regrown k3
  have g4 := cell_regrown k4
  clear hk
  have Hx := hide (txB_is k am no f to)
  generalize txB (k, f, to, am, no) = X at Hx
  have HO := hide (fun (d : Nat) (os : Array Obj) => Calls.regrown_of (implOnly_any k am no f to (grow (redrawn w0 d) os)))
  cases e0 : inB k 1 3
  · rw [e0, Bool.false_and] at Hx
    clear HO
    go_enter Tryz.func41, Tryz.ntmps41
    go_wp2
    clear k0 k1 k2 k3 k4
    refine wp_region_quiet_below (by kernel_rfl) (by kernel_rfl) ?_
    repeat (go_big_quiet_step ((first
          | (go_at_call 29; exact same_regrown (implWithinT_any _ _ _ _))
          | (go_at_call 68; exact HO.out _ _)
          | (go_at_call 69; exact same_regrown (implNameOk_any _ _ (by assumption))))))
    refine wpQuiet_nil ?_
    intro _ hw'
    obtain ⟨⟨dq, osq⟩, hw''⟩ := hw'
    subst hw''
    go_wp2
    go_ret
    exact ⟨ret_bool Hx.out.symm, HB.out.trans ((below_regrown w0 dq osq).mono HB.out.size)⟩
  · rw [e0, Bool.true_and] at Hx
    by_cases hk1 : k = 1
    · rw [if_pos hk1] at HO
      rw [decide_eq_true hk1, Bool.true_or, Bool.true_and, Bool.not_true, Bool.false_or] at Hx
      subst hk1
      cases e2 : nmB to
      · rw [e2, Bool.false_and] at Hx
        go_enter Tryz.func41, Tryz.ntmps41
        go_wp2
        clear k0 k1 k2 k3 k4
        refine wp_region_quiet_below (by kernel_rfl) (by kernel_rfl) ?_
        repeat (go_big_quiet_step ((first
          | (go_at_call 29; exact same_regrown (implWithinT_any _ _ _ _))
          | (go_at_call 68; exact HO.out _ _)
          | (go_at_call 69; exact same_regrown (implNameOk_any _ _ (by assumption))))))
        refine wpQuiet_nil ?_
        intro _ hw'
        obtain ⟨⟨dq, osq⟩, hw''⟩ := hw'
        subst hw''
        go_wp2
        go_ret
        exact ⟨ret_bool Hx.out.symm, HB.out.trans ((below_regrown w0 dq osq).mono HB.out.size)⟩
      · rw [e2, Bool.true_and] at Hx
        go_enter Tryz.func41, Tryz.ntmps41
        go_wp2
        clear k0 k1 k2 k3 k4
        refine wp_region_quiet_below (by kernel_rfl) (by kernel_rfl) ?_
        repeat (go_big_quiet_step ((first
          | (go_at_call 29; exact same_regrown (implWithinT_any _ _ _ _))
          | (go_at_call 68; exact HO.out _ _)
          | (go_at_call 69; exact same_regrown (implNameOk_any _ _ (by assumption))))))
        refine wpQuiet_nil ?_
        intro _ hw'
        obtain ⟨⟨dq, osq⟩, hw''⟩ := hw'
        subst hw''
        have HB1 : Hid (Below w.heap.size w (grow (redrawn w0 dq) osq)) := hide (HB.out.trans ((below_regrown w0 dq osq).mono HB.out.size))
        have k1 := g1 dq osq
        have k3 := g3 dq osq
        have k4 := g4 dq osq
        clear g0 g1 g2 g3 g4 HB HO
        generalize grow (redrawn w0 dq) osq = w1 at *
        cases e3 : nmB f <;> cases e4 : inB am 1 1000000 <;> simp only [e3, e4, Bool.true_and, Bool.false_and] at Hx
        all_goals
          go_wp2_with (first
            | (go_at_call 69; refine (implNameOk_any _ _ (by assumption)).mono ?_; rintro e w1 ⟨rfl, rfl⟩)
            | (go_at_call 29; refine (implWithinT_any _ _ _ _).mono ?_; rintro e w1 ⟨rfl, rfl⟩))
          go_ret
          exact ⟨ret_bool Hx.out.symm, HB1.out⟩
    · rw [if_neg hk1] at HO
      rw [decide_eq_false hk1, Bool.false_or, Bool.not_false, Bool.true_or, Bool.true_and] at Hx
      have hkb : (k == 1) = false := by rw [beq_eq_false_iff_ne]; exact hk1
      clear hk1
      by_cases e2 : to = ByteArray.empty
      · rw [decide_eq_true e2, Bool.true_and] at Hx
        subst e2
        go_enter Tryz.func41, Tryz.ntmps41
        go_wp2
        clear k0 k1 k2 k3 k4
        refine wp_region_quiet_below (by kernel_rfl) (by kernel_rfl) ?_
        repeat (go_big_quiet_step ((first
          | (go_at_call 29; exact same_regrown (implWithinT_any _ _ _ _))
          | (go_at_call 68; exact HO.out _ _)
          | (go_at_call 69; exact same_regrown (implNameOk_any _ _ (by assumption))))))
        refine wpQuiet_nil ?_
        intro _ hw'
        obtain ⟨⟨dq, osq⟩, hw''⟩ := hw'
        subst hw''
        have HB1 : Hid (Below w.heap.size w (grow (redrawn w0 dq) osq)) := hide (HB.out.trans ((below_regrown w0 dq osq).mono HB.out.size))
        have k1 := g1 dq osq
        have k3 := g3 dq osq
        have k4 := g4 dq osq
        clear g0 g1 g2 g3 g4 HB HO
        generalize grow (redrawn w0 dq) osq = w1 at *
        cases e3 : nmB f <;> cases e4 : inB am 1 1000000 <;> simp only [e3, e4, Bool.true_and, Bool.false_and] at Hx
        all_goals
          go_wp2_with (first
            | (go_at_call 69; refine (implNameOk_any _ _ (by assumption)).mono ?_; rintro e w1 ⟨rfl, rfl⟩)
            | (go_at_call 29; refine (implWithinT_any _ _ _ _).mono ?_; rintro e w1 ⟨rfl, rfl⟩))
          go_ret
          exact ⟨ret_bool Hx.out.symm, HB1.out⟩
      · rw [decide_eq_false e2, Bool.false_and] at Hx
        have hne : to.toList.isEmpty = false := by
          cases h : to.toList.isEmpty
          · rfl
          · exact absurd (toList_inj5 (List.isEmpty_iff.1 h)) e2
        clear e2
        go_enter Tryz.func41, Tryz.ntmps41
        go_wp2
        clear k0 k1 k2 k3 k4
        refine wp_region_quiet_below (by kernel_rfl) (by kernel_rfl) ?_
        repeat (go_big_quiet_step ((first
          | (go_at_call 29; exact same_regrown (implWithinT_any _ _ _ _))
          | (go_at_call 68; exact HO.out _ _)
          | (go_at_call 69; exact same_regrown (implNameOk_any _ _ (by assumption))))))
        refine wpQuiet_nil ?_
        intro _ hw'
        obtain ⟨⟨dq, osq⟩, hw''⟩ := hw'
        subst hw''
        go_wp2
        go_ret
        exact ⟨ret_bool Hx.out.symm, HB.out.trans ((below_regrown w0 dq osq).mono HB.out.size)⟩
end Go.Proofs.YtdelegamcebflaaGreatDoor

namespace Go.Proofs.YtdelegamcebflaaGreatDoor
open Go.RowKit
set_option linter.unusedVariables false

/-- What is free of what leaves, at the epoch e, beside z. -/
def frF (e z : Int) (l : List (Int × Int)) : Int := l.foldl (fun s x => if x.2 ≤ e then wrap64 (s + x.1) else s) z
/-- What still leaves. -/
def stL (e : Int) (l : List (Int × Int)) : List (Int × Int) := l.filter (fun x => decide (e < x.2))
theorem frF_snoc (e z : Int) (l : List (Int × Int)) (k : Nat) (h : k < l.length) : frF e z (l.take (k + 1)) = if l[k].2 ≤ e then wrap64 (frF e z (l.take k) + l[k].1) else frF e z (l.take k) := by
  unfold frF
  rw [List.take_succ_eq_append_getElem h, List.foldl_append]
  rfl
theorem stL_snoc (e : Int) (l : List (Int × Int)) (k : Nat) (h : k < l.length) : stL e (l.take (k + 1)) = if l[k].2 ≤ e then stL e (l.take k) else stL e (l.take k) ++ [l[k]] := by
  unfold stL
  rw [List.take_succ_eq_append_getElem h, List.filter_append]
  by_cases hh : l[k].2 ≤ e
  · rw [if_pos hh, List.filter_cons_of_neg (by simp; omega), List.filter_nil, List.append_nil]
  · rw [if_neg hh, List.filter_cons_of_pos (by simp; omega), List.filter_nil]
theorem stL_len (e : Int) (l : List (Int × Int)) : (stL e l).length ≤ l.length := List.length_filter_le _ _
/-- An account in the epoch e. -/
def frA (e : Int) (a : Ac) : Ac := (a.1, frF e a.2.1 a.2.2.2.2, a.2.2.1, a.2.2.2.1, stL e a.2.2.2.2)
/-- What NextEpoch answers. -/
def neA (e : Int) (l : List Ac) : Int × List Ac := if (lgB e l && lgB (wrap64 (e + 1)) (l.map (frA (wrap64 (e + 1))))) = true then (wrap64 (e + 1), l.map (frA (wrap64 (e + 1)))) else (e, l)
theorem neA_old {e : Int} {l : List Ac} (h : lgB e l = false) : neA e l = (e, l) := by unfold neA; rw [h]; rfl
theorem neA_new {e : Int} {l : List Ac} (h : lgB (wrap64 (e + 1)) (l.map (frA (wrap64 (e + 1)))) = false) : neA e l = (e, l) := by unfold neA; rw [h, Bool.and_false]; rfl
theorem neA_yes {e : Int} {l : List Ac} (h : lgB e l = true) (h' : lgB (wrap64 (e + 1)) (l.map (frA (wrap64 (e + 1)))) = true) : neA e l = (wrap64 (e + 1), l.map (frA (wrap64 (e + 1)))) := by unfold neA; rw [h, h']; rfl
theorem frA_name (e : Int) (a : Ac) : (frA e a).1 = a.1 := rfl
theorem frA_len (e : Int) (a : Ac) : (frA e a).2.2.2.2.length ≤ a.2.2.2.2.length := stL_len _ _
theorem fr_all (e : Int) (l : List Ac) (h : ∀ a ∈ l, a.1.size ≤ maxLen ∧ a.2.2.2.2.length ≤ 4000000) : ∀ a ∈ l.map (frA e), a.1.size ≤ maxLen ∧ a.2.2.2.2.length ≤ 4000000 := by
  intro a ha
  obtain ⟨b, hb, rfl⟩ := List.mem_map.1 ha
  exact ⟨(h b hb).1, Nat.le_trans (frA_len e b) (h b hb).2⟩
/-- The first k accounts are in the epoch e already. -/
def frK (e : Int) (l : List Ac) (k : Nat) : List Ac := (l.take k).map (frA e) ++ l.drop k
theorem frK_zero (e : Int) (l : List Ac) : frK e l 0 = l := by simp [frK]
theorem frK_all (e : Int) (l : List Ac) : frK e l l.length = l.map (frA e) := by simp [frK]
theorem frK_len (e : Int) (l : List Ac) (k : Nat) : (frK e l k).length = l.length := by simp [frK]; omega
theorem frK_at (e : Int) (l : List Ac) (k : Nat) (h : k < l.length) : (frK e l k)[k]'(by rw [frK_len]; exact h) = l[k] := by
  unfold frK
  rw [List.getElem_append_right (by simp; omega), List.getElem_drop]
  congr 1
  simp
  omega
theorem frK_next (e : Int) (l : List Ac) (k : Nat) (h : k < l.length) : (frK e l k).set k (frA e l[k]) = frK e l (k + 1) := by
  unfold frK
  rw [List.take_succ_eq_append_getElem h, List.map_append, List.append_assoc, List.set_append_right _ _ (by simp; omega), show k - ((l.take k).map (frA e)).length = 0 from by simp; omega, List.drop_eq_getElem_cons h]
  rfl
end Go.Proofs.YtdelegamcebflaaGreatDoor

namespace Go.Proofs.YtdelegamcebflaaGreatDoor
open Go.RowKit
set_option linter.unusedVariables false

theorem nxs_four : ∀ (k : Nat) (l : List Ac), (∀ a ∈ l, a.2.2.2.2.length ≤ 4) → nxs k l ≤ k + 12 * l.length
  | k, [], _ => by simp [nxs]
  | k, a :: t, h => by
    have h' := nxs_four (nx k a) t (fun b hb => h b (List.mem_cons_of_mem _ hb))
    have e := h a List.mem_cons_self
    unfold nx at h'
    simp only [nxs, nx, List.length_cons]
    omega
theorem acs_four {l : List Ac} (h : acsB l = true) : ∀ a ∈ l, a.2.2.2.2.length ≤ 4 := by
  intro a ha
  obtain ⟨j, hj, rfl⟩ := List.mem_iff_getElem.1 ha
  unfold acsB at h
  rw [Bool.and_eq_true, List.all_eq_true] at h
  have := h.1 j (List.mem_range.2 hj)
  rw [acAt_eq l j l[j] hj rfl, Bool.and_eq_true] at this
  have h2 := this.1
  unfold acB at h2
  simp only [Bool.and_eq_true, decide_eq_true_eq] at h2
  exact h2.2.2.2.2.1
theorem acs_len' {l : List Ac} (h : acsB l = true) : l.length ≤ 12 := by
  unfold acsB at h
  simp only [Bool.and_eq_true, decide_eq_true_eq] at h
  exact h.2.1
theorem lg_acs {e : Int} {l : List Ac} (h : lgB e l = true) : acsB l = true := by unfold lgB at h; rw [Bool.and_eq_true] at h; exact h.2
theorem neA_is (e : Int) (l : List Ac) : (neA e l).2 = l ∨ acsB (neA e l).2 = true := by
  unfold neA
  split
  · rename_i h
    rw [Bool.and_eq_true] at h
    exact .inr (lg_acs h.2)
  · exact .inl rfl
theorem Blk.btw {W V : World} {B lo hi : Nat} {t : TypeId} {cs : List Value} (h : Blk W B t cs) (hb : Btw lo hi W V) (hd : B < lo ∨ hi ≤ B) : Blk V B t cs := (hb.block B h.lt hd).trans h
theorem RdA.len {w : World} {v : Value} {l : List Ac} {n : Nat} (h : RdA w v l) (hn : l.length = n) : ∃ a cap, v = .slice a n cap := by subst hn; exact h.shape
end Go.Proofs.YtdelegamcebflaaGreatDoor
