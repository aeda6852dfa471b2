/- The laws' marks on lists of accounts: written, and found again. The laws' marks on accounts are found again. A ledger by value: made, held against another, its size, marked and looked at again. The model's ledgers that are right, and copies of them. The landed code's contracts of chapter 4: what is within, what leaves, an account. The landed code's contracts of chapter 4: places, all that accounts have together, accounts that are right. The landed code's ledgers that are right, and copies of them. A row of accounts at one place, written into account by account. -/
import Derived.Test.YtdelegamcebflaaDoorAcMark
import Derived.Deep.RegionWith
import Derived.Test.YtdelegamcebflaaDoorJoin2
import Derived.Test.YtdelegamcebflaaDoorAcsOk
import Derived.Test.YtdelegamcebflaaDoorJoin3
import Derived.Deep.RegionHeldLaw
import Derived.Lib.QuietBelow
import Derived.BigQuiet
namespace Go.Proofs.YtdelegamcebflaaDoor
open Go.RowKit
set_option linter.unusedVariables false

theorem flat_put4 {α : Type} (L : List (List α)) (i : Nat) (a b c d a0 b0 c0 d0 e : α) (hi : i < L.length) (h : ∀ x ∈ L, x.length = 5) (hx : L[i] = [a0, b0, c0, d0, e]) : (((L.flatten.set (i * 5) a).set (i * 5 + 1) b).set (i * 5 + 2) c).set (i * 5 + 3) d = (L.set i [a, b, c, d, e]).flatten := by
  have h5 := flat_put5 L i a b c d e hi h
  rw [← h5]
  have hself : ∀ (X : List α) (m : Nat) (u : α), X[m]? = some u → X.set m u = X := fun X m u hu => by
    obtain ⟨h1, rfl⟩ := List.getElem?_eq_some_iff.1 hu
    simp
  symm
  apply hself
  rw [List.getElem?_set_ne (by omega), List.getElem?_set_ne (by omega), List.getElem?_set_ne (by omega), List.getElem?_set_ne (by omega), flat_get 5 L i 4 hi h (by omega), hx]
  rfl
theorem Lvs.mark {base : Nat} {w w' : World} {g : Nat} {P : List (Ac × Value)} (h : Lvs base w g P) {j : Nat} (hj : j < P.length) (q : Ac × Value) (hq : q.2 = P[j].2) (ho : OwnL base w' P[j].2 q.1.2.2.2.2) (hg : w.grownBy w' P[j].2.ownBlock) : Lvs base w' g (P.set j q) := by
  have hat : ∀ i (hi : i < (P.set j q).length), (P.set j q)[i].2 = (P[i]'(by simpa using hi)).2 := fun i hi => by
    rw [List.getElem_set]
    split
    · rename_i e; subst e; exact hq
    · rfl
  refine ⟨fun i hi => ?_, fun i hi => ?_, fun i i' hi hi' hne => ?_⟩
  · by_cases e : i = j
    · subst e
      have e2 : (P.set i q)[i] = q := by simp
      rw [e2, hq]; exact ho
    · have e2 : (P.set j q)[i] = P[i]'(by simpa using hi) := by rw [List.getElem_set_ne (by omega)]
      rw [e2]
      refine (h.own i (by simpa using hi)).kept hg ?_
      cases hb : (P[i]'(by simpa using hi)).2.ownBlock with
      | none => exact .inl rfl
      | some k => exact .inr (fun e' => h.apart i j (by simpa using hi) hj e k hb e'.symm)
  · rw [hat i hi]; exact h.far i (by simpa using hi)
  · rw [hat i hi, hat i' hi']; exact h.apart i i' (by simpa using hi) (by simpa using hi') hne
theorem Btw.set {lo hi : Nat} {w w' : World} (h : Btw lo hi w w') {g : Nat} (h1 : lo ≤ g) (h2 : g < hi) (j : Nat) (u : Value) : Btw lo hi w (w'.setCell ⟨g, j, none⟩ u) :=
  h.trans (Btw.of_grown (grown_set w' g j u) (fun k e => by cases e; exact ⟨h1, h2⟩))

end Go.Proofs.YtdelegamcebflaaDoor

namespace Go.Proofs.YtdelegamcebflaaDoor
open Go.RowKit
set_option linter.unusedVariables false

end Go.Proofs.YtdelegamcebflaaDoor

namespace Go.Proofs.YtdelegamcebflaaDoor
open Go.RowKit
set_option linter.unusedVariables false

/-- A ledger's value: its epoch, its accounts being v. -/
def lgV (e : Int) (v : Value) : Value := .agg #[.int .i64 e, v]
/-- A write into an older block leaves what the call owns. -/
theorem OwnA.older {base : Nat} {w : World} {v : Value} {l : List Ac} (h : OwnA base w v l) {g : Nat} (hg : g < base) (j : Nat) (u : Value) : OwnA base (w.setCell ⟨g, j, none⟩ u) v l :=
  (h.ox.btw (Btw.of_grown (lo := 0) (hi := base) (grown_set w g j u) (fun k hk => ⟨Nat.zero_le _, by cases hk; exact hg⟩)) (.inr (Nat.le_refl _))).own

end Go.Proofs.YtdelegamcebflaaDoor

namespace Go.Proofs.YtdelegamcebflaaDoor
open Go.RowKit
set_option linter.unusedVariables false

/-- Whether a ledger is right. -/
def lgB (e : Int) (l : List Ac) : Bool := inB e 0 900 && acsB l
set_option maxRecDepth 20000 in
set_option maxHeartbeats 1000000 in
theorem specLedgerOk_any (e : Int) (v : Value) (l : List Ac) (w : World) (hr : RdA w v l) (hl : l.length ≤ 4000000) (hall : ∀ a ∈ l, a.1.size ≤ maxLen ∧ a.2.2.2.2.length ≤ 4000000) :
    Calls Tryd.prog 7 #[lgV e v] w fun en w' => en = .returned (.bool (lgB e l)) ∧ Below w.heap.size w w' := by
  obtain ⟨a1, cv1, rfl⟩ := hr.shape
  simp only [lgV] at *
  have hb3 : Below w.heap.size w (w.alloc (.cells #[.int .i64 e, .slice a1 l.length cv1] 26)) := (Below.refl _ w).alloc (Nat.le_refl _) _
  have HE := hide (specAcctsOk_any _ l _ (hr.below hb3 (Nat.le_refl _)) hl hall)
  have Hb3 := hide hb3
  have Hx : Hid (lgB e l = (inB e 0 900 && acsB l)) := hide rfl
  clear hb3 hr hall
  generalize lgB e l = X at Hx
  generalize acsB l = A at Hx HE
  cases h0 : inB e 0 900
  · rw [h0, Bool.false_and] at Hx
    go_enter Tryd.func7, Tryd.ntmps7
    go_wp2_with (go_at_call 17; refine (l1In_any _ _ _ _).mono ?_; rintro en w1 ⟨rfl, rfl⟩)
    go_ret
    exact ⟨ret_bool Hx.out.symm, Hb3.out⟩
  · rw [h0, Bool.true_and] at Hx
    go_enter Tryd.func7, Tryd.ntmps7
    go_wp2_with (first
      | (go_at_call 17; refine (l1In_any _ _ _ _).mono ?_; rintro en w1 ⟨rfl, rfl⟩)
      | (go_at_call 18; refine HE.out.mono ?_; rintro en w2 ⟨rfl, hb2⟩))
    go_ret
    exact ⟨ret_bool Hx.out.symm, Hb3.out.trans (hb2.mono Hb3.out.size)⟩
theorem keep2 {W : World} {B G : Nat} {x y u v : Value} (h : W.cell? ⟨B, 0, none⟩ = some x ∧ W.cell? ⟨B, 1, none⟩ = some y) (hne : B ≠ G) : ((W.setCell ⟨G, 0, none⟩ u).setCell ⟨G, 1, none⟩ v).cell? ⟨B, 0, none⟩ = some x ∧ ((W.setCell ⟨G, 0, none⟩ u).setCell ⟨G, 1, none⟩ v).cell? ⟨B, 1, none⟩ = some y := by
  have e : ((W.setCell ⟨G, 0, none⟩ u).setCell ⟨G, 1, none⟩ v).heap[B]? = W.heap[B]? := by
    rw [heap_setCell_other _ ⟨G, 1, none⟩ B _ hne, heap_setCell_other _ ⟨G, 0, none⟩ B _ hne]
  exact ⟨(World.cell?_of_block e).trans h.1, (World.cell?_of_block e).trans h.2⟩
end Go.Proofs.YtdelegamcebflaaDoor

namespace Go.Proofs.YtdelegamcebflaaDoor
open Go.RowKit
set_option linter.unusedVariables false

theorem implWithin_any (x a b : Int) (w : World) :
    Calls Tryd.prog 19 #[.int .i64 x, .int .i64 a, .int .i64 b] w fun e w' => e = .returned (.bool (inB x a b)) ∧ w' = w := by
  by_cases h1 : a ≤ x
  · by_cases h2 : x ≤ b
    · have e : Hid (inB x a b = true) := hide (by simp [inB, h1, h2])
      go_enter Tryd.func19, Tryd.ntmps19
      go_wp2
      go_ret
      rw [e.out]; exact ⟨rfl, rfl⟩
    · have e : Hid (inB x a b = false) := hide (by simp [inB, h1, h2])
      go_enter Tryd.func19, Tryd.ntmps19
      go_wp2
      go_ret
      rw [e.out]; exact ⟨rfl, rfl⟩
  · have e : Hid (inB x a b = false) := hide (by simp [inB, h1])
    go_enter Tryd.func19, Tryd.ntmps19
    go_wp2
    go_ret
    rw [e.out]; exact ⟨rfl, rfl⟩
set_option maxRecDepth 20000 in
set_option maxHeartbeats 2000000 in
theorem implLeavesOk_any (lv : Value) (ls : List (Int × Int)) (w : World) (hr : RdL w lv ls) (hl : ls.length ≤ 4000000) :
    Calls Tryd.prog 54 #[lv] w fun e w' => e = .returned (.bool (decide (ls.length ≤ 4) && lvsB ls)) ∧ Below w.heap.size w w' := by
  have Hr' := hide hr
  obtain ⟨av, cv, rfl⟩ := hr.shape
  clear hr
  by_cases e4 : ls.length ≤ 4
  · have Hac : Hid ((decide (ls.length ≤ 4) && lvsB ls) = lvsB ls) := hide (by rw [decide_eq_true e4, Bool.true_and])
    have e4i : (ls.length : Int) ≤ 4 := by omega
    go_enter Tryd.func54, Tryd.ntmps54
    go_wp2
    go_loopw [10] (fun i wr => ∃ k : Nat, k ≤ ls.length ∧ i = .int .i64 k ∧ (∀ j, j < k → lvAt ls j = true) ∧ Below w.heap.size w wr) (fun i _ => ls.length - (intOf i).toNat)
    case atStart => exact ⟨0, Nat.zero_le _, rfl, fun j hj => by omega, Below.refl _ _⟩
    case round =>
      obtain ⟨k, hkl, rfl, hok, hb⟩ := hrel
      have Hok := hide hok
      clear hok
      by_cases hlt : k < ls.length
      · have hrr := Hr'.out
        rcases hrr with ⟨_, _, _, e, _⟩ | ⟨b, off, cap, h0, hv, h1, h2, h3, h4⟩
        · subst e; simp at hlt
        injection hv with ha _ hcap
        subst ha hcap
        have hc1 := (hb.cell (p := ⟨b, off + k * 2, none⟩) h3).trans (h4 k hlt).1
        have hc2 := (hb.cell (p := ⟨b, off + k * 2 + 1, none⟩) h3).trans (h4 k hlt).2
        have hli : (k : Int) < (ls.length : Int) := by omega
        have hbb : b < wr.heap.size := Nat.lt_of_lt_of_le h3 hb.size
        have Hno := hide (lvs_no ls k hlt)
        have Hnx : Hid (lvAt ls k = true → ∀ j, j < k + 1 → lvAt ls j = true) := hide (fun h j hj => by
          by_cases e : j = k
          · subst e; exact h
          · exact Hok.out j (by omega))
        have Hat : Hid (lvAt ls k = (inB ls[k].1 1 1000000 && (inB ls[k].2 0 1000 && (decide (k = 0) || decide ((ls.getD (k - 1) (0, 0)).2 < ls[k].2))))) := hide (by unfold lvAt; rw [List.getD_eq_getElem?_getD, List.getElem?_eq_getElem hlt]; rfl)
        have Hpr : Hid (0 < k → wr.cell? ⟨b, off + (k - 1) * 2 + 1, none⟩ = some (.int .i64 (ls.getD (k - 1) (0, 0)).2)) := hide (fun h => by
          have := (hb.cell (p := ⟨b, off + (k - 1) * 2 + 1, none⟩) h3).trans (h4 (k - 1) (by omega)).2
          rw [List.getD_eq_getElem?_getD, List.getElem?_eq_getElem (show k - 1 < ls.length by omega)]
          exact this)
        clear h4 Hok
        generalize ls[k] = p at hc1 hc2 Hat
        obtain ⟨x, y⟩ := p
        simp only at hc1 hc2 Hat
        by_cases q1 : inB x 1 1000000 = true
        · by_cases q2 : inB y 0 1000 = true
          · rw [q1, q2, Bool.true_and, Bool.true_and] at Hat
            cases k with
            | zero =>
              rw [show decide (0 = 0) = true from rfl, Bool.true_or] at Hat
              rw [Nat.zero_mul, Nat.add_zero] at hc1 hc2
              have Hnx := hide (Hnx.out Hat.out)
              clear Hat Hno Hpr
              go_wp2
              go_quiet ((go_at_call 19; exact Calls.quiet_of_same (implWithin_any _ _ _ _)))
              go_wp2
              go_roundw
              case rel => exact ⟨0 + 1, by omega, by go_num, Hnx.out, below_drewN (hb.alloc hb.size _) _⟩
              case measure => simp [intOf]; omega
            | succ j =>
              rw [show decide (j + 1 = 0) = false from rfl, Bool.false_or] at Hat
              have hpr := Hpr.out (by omega)
              rw [show j + 1 - 1 = j from by omega] at hpr Hat
              generalize (ls.getD j (0, 0)).2 = z at hpr Hat
              by_cases q3 : z < y
              · rw [decide_eq_true q3] at Hat
                have Hnx := hide (Hnx.out Hat.out)
                clear Hat Hno Hpr
                go_wp2
                go_quiet ((go_at_call 19; exact Calls.quiet_of_same (implWithin_any _ _ _ _)))
                go_wp2
                go_roundw
                case rel => exact ⟨j + 1 + 1, by omega, by go_num, Hnx.out, below_drewN (hb.alloc hb.size _) _⟩
                case measure => simp [intOf]; omega
              · rw [decide_eq_false q3] at Hat
                have Hno := hide (Hac.out.trans (Hno.out Hat.out))
                clear Hat Hnx Hpr
                go_wp2
                go_quiet ((go_at_call 19; exact Calls.quiet_of_same (implWithin_any _ _ _ _)))
                go_wp2
                go_ret
                exact ⟨ret_bool Hno.out.symm, below_drewN (hb.alloc hb.size _) _⟩
          · have q2 : inB y 0 1000 = false := by simpa using q2
            rw [q1, q2, Bool.true_and, Bool.false_and] at Hat
            have Hno := hide (Hac.out.trans (Hno.out Hat.out))
            clear Hat Hnx Hpr
            go_wp2
            go_quiet ((go_at_call 19; exact Calls.quiet_of_same (implWithin_any _ _ _ _)))
            go_wp2
            go_ret
            exact ⟨ret_bool Hno.out.symm, below_drewN (hb.alloc hb.size _) _⟩
        · have q1 : inB x 1 1000000 = false := by simpa using q1
          rw [q1, Bool.false_and] at Hat
          have Hno := hide (Hac.out.trans (Hno.out Hat.out))
          clear Hat Hnx Hpr
          go_wp2
          go_quiet ((go_at_call 19; exact Calls.quiet_of_same (implWithin_any _ _ _ _)))
          go_wp2
          go_ret
          exact ⟨ret_bool Hno.out.symm, below_drewN (hb.alloc hb.size _) _⟩
      · have Hy := hide (Hac.out.trans (lvs_yes ls (fun j hj => Hok.out j (by omega))))
        go_wp2
        go_ret
        exact ⟨ret_bool Hy.out.symm, hb⟩
  · have Hac : Hid ((decide (ls.length ≤ 4) && lvsB ls) = false) := hide (by rw [decide_eq_false e4, Bool.false_and])
    have e4i : (4 : Int) < (ls.length : Int) := by omega
    clear e4
    go_enter Tryd.func54, Tryd.ntmps54
    go_wp2
    go_ret
    exact ⟨ret_bool Hac.out.symm, Below.refl _ _⟩
set_option maxRecDepth 20000 in
set_option maxHeartbeats 2000000 in
theorem implAcctOk_any (a : Ac) (lv : Value) (w : World) (hr : RdL w lv a.2.2.2.2) (hn : a.1.size ≤ maxLen) (hl : a.2.2.2.2.length ≤ 4000000) :
    Calls Tryd.prog 36 #[acV a lv] w fun e w' => e = .returned (.bool (acB a)) ∧ Below w.heap.size w w' := by
  obtain ⟨nm, fr, no, st, ls⟩ := a
  have HB := hide ((Below.refl _ w).alloc (Nat.le_refl _) (.cells #[.string nm, .int .i64 fr, .int .i64 no, .int .i64 st, lv] 33))
  have hk := Blk.new w 33 [.string nm, .int .i64 fr, .int .i64 no, .int .i64 st, lv]
  have Hr := hide (hr.below HB.out (Nat.le_refl _))
  obtain ⟨av, cv, rfl⟩ := hr.shape
  clear hr
  simp only [acV] at *
  obtain ⟨w0, hw0⟩ : ∃ w0, w.alloc (.cells #[.string nm, .int .i64 fr, .int .i64 no, .int .i64 st, .slice av ls.length cv] 33) = w0 := ⟨_, rfl⟩
  have hk' : Blk w0 w.heap.size 33 [.string nm, .int .i64 fr, .int .i64 no, .int .i64 st, .slice av ls.length cv] := by rw [← hw0]; exact hk
  have HB' : Hid (Below w.heap.size w w0) := hide (by rw [← hw0]; exact HB.out)
  have HL : Hid (Calls Tryd.prog 54 #[.slice av ls.length cv] w0 fun e w' => e = .returned (.bool (decide (ls.length ≤ 4) && lvsB ls)) ∧ Below w0.heap.size w0 w') := hide (implLeavesOk_any _ ls w0 (by rw [← hw0]; exact Hr.out) hl)
  have hlt0 := hk'.lt
  have k0 := hk'.cell 0
  have k1 := hk'.cell 1
  have k2 := hk'.cell 2
  have k3 := hk'.cell 3
  have k4 := hk'.cell 4
  simp only [List.getElem?_cons_zero, List.getElem?_cons_succ] at k0 k1 k2 k3 k4
  clear hk HB Hr
  have Hac : Hid (acB (nm, fr, no, st, ls) = (nmB nm && (inB fr 0 1000000 && (inB no 0 10000 && (inB st 0 1000000 && (decide (ls.length ≤ 4) && lvsB ls)))))) := hide rfl
  generalize (decide (ls.length ≤ 4) && lvsB ls) = L at HL Hac
  generalize acB (nm, fr, no, st, ls) = X at Hac
  by_cases e0 : nmB nm = true
  · by_cases e1 : inB fr 0 1000000 = true
    · by_cases e2 : inB no 0 10000 = true
      · by_cases e3 : inB st 0 1000000 = true
        · rw [e0, e1, e2, e3] at Hac
          simp only [Bool.true_and] at Hac
          go_enter Tryd.func36, Tryd.ntmps36
          go_wp2_with (first
            | (go_at_call 53; refine (implNameOk_any nm _ hn).mono ?_; rintro e w0 ⟨rfl, rfl⟩)
            | (go_at_call 19; refine (implWithin_any _ _ _ _).mono ?_; rintro e w0 ⟨rfl, rfl⟩)
            | (go_at_call 54; refine HL.out.mono ?_; rintro e w2 ⟨rfl, hb2⟩))
          go_ret
          exact ⟨ret_bool Hac.out.symm, HB'.out.trans (hb2.mono HB'.out.size)⟩
        · have e3 : inB st 0 1000000 = false := by simpa using e3
          rw [e0, e1, e2, e3] at Hac
          simp only [Bool.true_and, Bool.false_and] at Hac
          go_enter Tryd.func36, Tryd.ntmps36
          go_wp2_with (first
            | (go_at_call 53; refine (implNameOk_any nm _ hn).mono ?_; rintro e w0 ⟨rfl, rfl⟩)
            | (go_at_call 19; refine (implWithin_any _ _ _ _).mono ?_; rintro e w0 ⟨rfl, rfl⟩))
          go_ret
          exact ⟨ret_bool Hac.out.symm, HB'.out⟩
      · have e2 : inB no 0 10000 = false := by simpa using e2
        rw [e0, e1, e2] at Hac
        simp only [Bool.true_and, Bool.false_and] at Hac
        go_enter Tryd.func36, Tryd.ntmps36
        go_wp2_with (first
          | (go_at_call 53; refine (implNameOk_any nm _ hn).mono ?_; rintro e w0 ⟨rfl, rfl⟩)
          | (go_at_call 19; refine (implWithin_any _ _ _ _).mono ?_; rintro e w0 ⟨rfl, rfl⟩))
        go_ret
        exact ⟨ret_bool Hac.out.symm, HB'.out⟩
    · have e1 : inB fr 0 1000000 = false := by simpa using e1
      rw [e0, e1] at Hac
      simp only [Bool.true_and, Bool.false_and] at Hac
      go_enter Tryd.func36, Tryd.ntmps36
      go_wp2_with (first
        | (go_at_call 53; refine (implNameOk_any nm _ hn).mono ?_; rintro e w0 ⟨rfl, rfl⟩)
        | (go_at_call 19; refine (implWithin_any _ _ _ _).mono ?_; rintro e w0 ⟨rfl, rfl⟩))
      go_ret
      exact ⟨ret_bool Hac.out.symm, HB'.out⟩
  · have e0 : nmB nm = false := by simpa using e0
    rw [e0] at Hac
    simp only [Bool.false_and] at Hac
    go_enter Tryd.func36, Tryd.ntmps36
    go_wp2_with (first
      | (go_at_call 53; refine (implNameOk_any nm _ hn).mono ?_; rintro e w0 ⟨rfl, rfl⟩)
      | (go_at_call 19; refine (implWithin_any _ _ _ _).mono ?_; rintro e w0 ⟨rfl, rfl⟩))
    go_ret
    exact ⟨ret_bool Hac.out.symm, HB'.out⟩
end Go.Proofs.YtdelegamcebflaaDoor

namespace Go.Proofs.YtdelegamcebflaaDoor
open Go.RowKit Go.Sort
set_option linter.unusedVariables false


theorem wrap64_add (a b : Int) : wrap64 (a + wrap64 b) = wrap64 (a + b) := by unfold wrap64; omega
theorem wrap64_add' (a b : Int) : wrap64 (wrap64 a + b) = wrap64 (a + b) := by unfold wrap64; omega
theorem fold_shift (s : Int) : ∀ (l : List (Int × Int)) (z : Int), wrap64 (s + l.foldl (fun s p => wrap64 (s + p.1)) (wrap64 z)) = l.foldl (fun s p => wrap64 (s + p.1)) (wrap64 (s + wrap64 z))
  | [], z => rfl
  | p :: l, z => by
    have e := fold_shift s l (wrap64 z + p.1)
    rw [List.foldl_cons, List.foldl_cons, e]
    congr 1
    rw [wrap64_add, wrap64_add', ← Int.add_assoc]

set_option maxRecDepth 20000 in
set_option maxHeartbeats 2000000 in
theorem implWealth_any (v : Value) (l : List Ac) (w : World) (hr : RdA w v l) (hl : l.length ≤ 4000000) (hall : ∀ a ∈ l, a.2.2.2.2.length ≤ 4000000) :
    Calls Tryd.prog 37 #[v] w fun e w' => e = .returned (.int .i64 (wealthA l)) ∧ Below w.heap.size w w' := by
  rcases hr with ⟨a, cap, rfl, rfl, -⟩ | ⟨b, off, cap, h0, rfl, h1, h2, h3, h4⟩
  · go_enter Tryd.func37, Tryd.ntmps37
    go_wp2
    refine wp_loop_rounds 1 ?_
    rw [rounds_succ]
    go_wp2
    go_ret
    exact ⟨rfl, Below.refl _ _⟩
  · have H4 := hide h4
    have Hall := hide hall
    clear h4 hall
    go_enter Tryd.func37, Tryd.ntmps37
    go_wp2
    go_loopw [3, 10] (fun nv iv wr => ∃ k : Nat, k ≤ l.length ∧ iv = .int .i64 k ∧ nv = .int .i64 ((l.take k).foldl (fun s a => wrap64 (s + ofA a)) 0) ∧ Below w.heap.size w wr) (fun _ iv _ => l.length - (intOf iv).toNat)
    case atStart => exact ⟨0, Nat.zero_le _, rfl, rfl, Below.refl _ _⟩
    case round =>
      obtain ⟨k, hkl, rfl, rfl, hb⟩ := hrel
      by_cases hlt : k < l.length
      · obtain ⟨lv, hat, hrl⟩ := H4.out k hlt
        obtain ⟨c0, c1, c2, c3, c4⟩ := hat.below hb h3
        have hli : (k : Int) < (l.length : Int) := by omega
        have hbb : b < wr.heap.size := Nat.lt_of_lt_of_le h3 hb.size
        have Hf := hide (fold_snoc (fun s (a : Ac) => wrap64 (s + ofA a)) 0 l k hlt)
        have Hrl := hide (hrl.below hb (Nat.le_refl _))
        have hls := Hall.out l[k] (List.getElem_mem _)
        have hshape := hrl.shape
        clear hat hrl
        generalize (l.take k).foldl (fun s (a : Ac) => wrap64 (s + ofA a)) 0 = acc at Hf
        generalize l[k] = ak at c0 c1 c2 c3 Hf Hrl hshape hls
        obtain ⟨nm, fr, no, st, ls⟩ := ak
        obtain ⟨av, cv, rfl⟩ := hshape
        simp only at c0 c1 c2 c3 Hrl hls
        have Hof : Hid (wrap64 (acc + ofA (nm, fr, no, st, ls)) = ls.foldl (fun s p => wrap64 (s + p.1)) (wrap64 (acc + wrap64 (fr + st)))) := hide (fold_shift acc ls (fr + st))
        go_wp2
        obtain ⟨w1, hw1⟩ : ∃ w1, wr.alloc (.cells #[.string nm, .int .i64 fr, .int .i64 no, .int .i64 st, .slice av ls.length cv] 33) = w1 := ⟨_, rfl⟩
        have HB1 : Hid (Below w.heap.size w w1) := hide (by rw [← hw1]; exact hb.alloc hb.size _)
        have HL1 : Hid (RdL w1 (.slice av ls.length cv) ls) := hide (by rw [← hw1]; exact Hrl.out.below ((Below.refl _ wr).alloc (Nat.le_refl _) _) (Nat.le_refl _))
        rw [hw1]
        go_loopw [3, 24] (fun nv iv wq => ∃ j : Nat, j ≤ ls.length ∧ iv = .int .i64 j ∧ nv = .int .i64 ((ls.take j).foldl (fun s p => wrap64 (s + p.1)) (wrap64 (acc + wrap64 (fr + st)))) ∧ Below w1.heap.size w1 wq) (fun _ iv _ => ls.length - (intOf iv).toNat)
        case atStart => exact ⟨0, Nat.zero_le _, rfl, rfl, Below.refl _ _⟩
        case round =>
          obtain ⟨j, hjl, rfl, rfl, hq⟩ := hrel
          by_cases hjt : j < ls.length
          · have hrr := HL1.out
            rcases hrr with ⟨_, _, _, e, _⟩ | ⟨b', off', cap', g0, hv, g1, g2, g3, g4⟩
            · subst e; simp at hjt
            injection hv with ha _ hcap
            subst ha hcap
            have d1 := (hq.cell (p := ⟨b', off' + j * 2, none⟩) g3).trans (g4 j hjt).1
            have d2 := (hq.cell (p := ⟨b', off' + j * 2 + 1, none⟩) g3).trans (g4 j hjt).2
            have hji : (j : Int) < (ls.length : Int) := by omega
            have hbq : b' < wr.heap.size := Nat.lt_of_lt_of_le g3 hq.size
            have Hg := hide (fold_snoc (fun s (p : Int × Int) => wrap64 (s + p.1)) (wrap64 (acc + wrap64 (fr + st))) ls j hjt)
            clear g4
            generalize ls[j] = p at d1 d2 Hg
            obtain ⟨x, y⟩ := p
            simp only at d1 d2 Hg
            generalize (ls.take j).foldl (fun s (p : Int × Int) => wrap64 (s + p.1)) (wrap64 (acc + wrap64 (fr + st))) = acc2 at Hg
            go_wp2
            go_roundw
            case rel => exact ⟨j + 1, by omega, by go_num, by rw [Hg.out], hq.alloc hq.size _⟩
            case measure => simp [intOf]; omega
          · have Hg : Hid (wrap64 (acc + ofA (nm, fr, no, st, ls)) = (ls.take j).foldl (fun s p => wrap64 (s + p.1)) (wrap64 (acc + wrap64 (fr + st)))) := hide (by rw [Hof.out, List.take_of_length_le (by omega)])
            generalize (ls.take j).foldl (fun s (p : Int × Int) => wrap64 (s + p.1)) (wrap64 (acc + wrap64 (fr + st))) = acc2 at Hg
            go_wp2
            go_roundw
            case rel => exact ⟨k + 1, by omega, by go_num, by rw [Hf.out, Hg.out], HB1.out.trans (hq.mono HB1.out.size)⟩
            case measure => simp [intOf]; omega
      · have Hf : Hid (wealthA l = (l.take k).foldl (fun s a => wrap64 (s + ofA a)) 0) := hide (by unfold wealthA; rw [List.take_of_length_le (by omega)])
        generalize (l.take k).foldl (fun s (a : Ac) => wrap64 (s + ofA a)) 0 = acc at Hf
        go_wp2
        go_ret
        exact ⟨ret_int Hf.out.symm, hb⟩
set_option maxRecDepth 20000 in
set_option maxHeartbeats 2000000 in
theorem implAcctsOk_any (v : Value) (l : List Ac) (w : World) (hr : RdA w v l) (hl : l.length ≤ 4000000) (hall : ∀ a ∈ l, a.1.size ≤ maxLen ∧ a.2.2.2.2.length ≤ 4000000) :
    Calls Tryd.prog 20 #[v] w fun e w' => e = .returned (.bool (acsB l)) ∧ Below w.heap.size w w' := by
  have HW := hide (fun w h => implWealth_any v l w h hl (fun a ha => (hall a ha).2))
  have Hr := hide hr
  rcases hr with ⟨a, cap, rfl, rfl, -⟩ | ⟨b, off, cap, h0, rfl, h1, h2, h3, h4⟩
  · go_enter Tryd.func20, Tryd.ntmps20
    go_wp2
    refine wp_loop_rounds 1 ?_
    rw [rounds_succ]
    go_wp2_with fail
    refine (HW.out _ Hr.out).mono ?_
    rintro e w2 ⟨rfl, hb2⟩
    go_wp2
    go_ret
    exact ⟨rfl, hb2⟩
  · have H4 := hide h4
    have Hs := hide hall
    clear h4 hall
    by_cases h12 : l.length ≤ 12
    · have h12i : (l.length : Int) ≤ 12 := by omega
      go_enter Tryd.func20, Tryd.ntmps20
      go_wp2
      go_loopw [10] (fun i wr => ∃ k : Nat, k ≤ l.length ∧ i = .int .i64 k ∧ (∀ j, j < k → acAt l j = true) ∧ Below w.heap.size w wr) (fun i _ => l.length - (intOf i).toNat)
      case atStart => exact ⟨0, Nat.zero_le _, rfl, fun j hj => by omega, Below.refl _ _⟩
      case round =>
        obtain ⟨k, hk, rfl, hok, hb⟩ := hrel
        have Hall := hide hok
        clear hok
        by_cases hlt : k < l.length
        · obtain ⟨lv, hat, hrl⟩ := H4.out k hlt
          obtain ⟨c0, c1, c2, c3, c4⟩ := hat.below hb h3
          have hsz := Hs.out l[k] (List.getElem_mem hlt)
          have Hok := hide (acAt_eq l k l[k] hlt rfl)
          have Hno := hide (acs_no l k hlt)
          have hli : (k : Int) < (l.length : Int) := by omega
          have hbb : b < wr.heap.size := Nat.lt_of_lt_of_le h3 hb.size
          have Hnx : Hid (acAt l k = true → ∀ j, j < k + 1 → acAt l j = true) := hide (fun h j hj => by
            by_cases e : j = k
            · subst e; exact h
            · exact Hall.out j (by omega))
          have hprev : Hid (k ≥ 1 → wr.cell? ⟨b, off + (k - 1) * 5, none⟩ = some (.string (l.getD (k - 1) ac0).1)) := hide (fun hk1 => by
            obtain ⟨lv2, hat2, _⟩ := H4.out (k - 1) (by omega)
            rw [List.getD_eq_getElem?_getD, List.getElem?_eq_getElem (show k - 1 < l.length by omega)]
            exact (hat2.below hb h3).c0)
          have hshape := hrl.shape
          have Hrl := hide (hrl.below hb (Nat.le_refl _))
          clear hat hrl
          generalize l[k] = ak at c0 c1 c2 c3 Hok hshape Hrl hsz
          generalize (l.getD (k - 1) ac0).1 = pn at hprev Hok
          obtain ⟨nm, fr, no, st, ls⟩ := ak
          obtain ⟨av, cv, rfl⟩ := hshape
          simp only at c0 c1 c2 c3 Hok Hrl hsz
          obtain ⟨w1, hw1⟩ : ∃ w1, wr.alloc (.cells #[.string nm, .int .i64 fr, .int .i64 no, .int .i64 st, .slice av ls.length cv] 33) = w1 := ⟨_, rfl⟩
          have hA : Below wr.heap.size wr w1 := by rw [← hw1]; exact (Below.refl _ wr).alloc (Nat.le_refl _) _
          have HB1 : Hid (Below w.heap.size w w1) := hide (hb.trans (hA.mono hb.size))
          have hk1 : Blk w1 wr.heap.size 33 [.string nm, .int .i64 fr, .int .i64 no, .int .i64 st, .slice av ls.length cv] := by rw [← hw1]; exact Blk.new wr _ _
          have HQ := hide (fun (d : Nat) (os : Array Obj) => Calls.regrown_of (implAcctOk_any (nm, fr, no, st, ls) (.slice av ls.length cv) (grow (redrawn w1 d) os) ((Hrl.out.below hA (Nat.le_refl _)).below (below_regrown w1 d os) (Nat.le_refl _)) hsz.1 hsz.2))
          simp only [acV] at HQ
          have e0 := hk1.cell 0
          have e1 := hk1.cell 1
          have e2 := hk1.cell 2
          have e3 := hk1.cell 3
          have e4 := hk1.cell 4
          simp only [List.getElem?_cons_zero, List.getElem?_cons_succ] at e0 e1 e2 e3 e4
          have g0 := cell_regrown e0
          have g1 := cell_regrown e1
          have g2 := cell_regrown e2
          have g3 := cell_regrown e3
          have g4 := cell_regrown e4
          have hprev1 : Hid (k ≥ 1 → w1.cell? ⟨b, off + (k - 1) * 5, none⟩ = some (.string pn)) := hide (fun h => (hA.cell (p := ⟨b, off + (k - 1) * 5, none⟩) hbb).trans (hprev.out h))
          clear e0 e1 e2 e3 e4 hprev hsz Hrl hk1 hA
          cases hn : acB (nm, fr, no, st, ls)
          · have hf := hide (Hno.out (by rw [Hok.out, hn]; rfl))
            rw [hn] at HQ
            clear hn hprev1 Hnx
            go_wp2
            clear c0 c1 c2 c3 c4
            refine wp_region_quiet_below (by kernel_rfl) (by kernel_rfl) ?_
            repeat (go_big_quiet_step ((go_at_call 36; exact HQ.out _ _)))
            refine wpQuiet_nil ?_
            intro _ hw'
            obtain ⟨⟨dq, osq⟩, hw''⟩ := hw'
            subst hw''
            go_wp2
            go_ret
            exact ⟨ret_bool hf.out.symm, HB1.out.trans ((below_regrown w1 dq osq).mono HB1.out.size)⟩
          · rw [hn] at HQ
            by_cases hk1 : k < 1
            · have hd : decide (0 < k) = false := by simp; omega
              have hd2 : decide ((0 : Int) < (k : Int)) = false := by simp; omega
              have Hnx := hide (Hnx.out (by rw [Hok.out, hn, show k = 0 from by omega]; rfl))
              clear hn hprev1
              go_wp2
              clear c0 c1 c2 c3 c4
              refine wp_region_quiet_below (by kernel_rfl) (by kernel_rfl) ?_
              repeat (go_big_quiet_step ((go_at_call 36; exact HQ.out _ _)))
              refine wpQuiet_nil ?_
              intro _ hw'
              obtain ⟨⟨dq, osq⟩, hw''⟩ := hw'
              subst hw''
              go_wp2
              go_roundw
              case rel => exact ⟨k + 1, by omega, by go_num, Hnx.out, HB1.out.trans ((below_regrown w1 dq osq).mono HB1.out.size)⟩
              case measure => simp [intOf]; omega
            · have hcp := cell_regrown (hprev1.out (by omega))
              clear hprev1
              have hpos : (0 : Int) < (k : Int) := by omega
              have hposN : 0 < k := by omega
              have hd1 : decide (0 < k) = true := by simp; omega
              have hix : ((k : Int) - 1).toNat = k - 1 := by omega
              have hix1 : (0 : Int) ≤ (k : Int) - 1 := by omega
              have hix2 : (k : Int) - 1 < (l.length : Int) := by omega
              cases hless : Op.bytesLess pn.toList nm.toList
              · have hf := hide (Hno.out (by rw [Hok.out, hn, hless]; simp; omega))
                clear hn Hnx
                go_wp2
                clear c0 c1 c2 c3 c4
                refine wp_region_quiet_below (by kernel_rfl) (by kernel_rfl) ?_
                repeat (go_big_quiet_step ((go_at_call 36; exact HQ.out _ _)))
                refine wpQuiet_nil ?_
                intro _ hw'
                obtain ⟨⟨dq, osq⟩, hw''⟩ := hw'
                subst hw''
                go_wp2
                go_ret
                exact ⟨ret_bool hf.out.symm, HB1.out.trans ((below_regrown w1 dq osq).mono HB1.out.size)⟩
              · have Hnx := hide (Hnx.out (by rw [Hok.out, hn, hless]; simp))
                clear hn
                go_wp2
                clear c0 c1 c2 c3 c4
                refine wp_region_quiet_below (by kernel_rfl) (by kernel_rfl) ?_
                repeat (go_big_quiet_step ((go_at_call 36; exact HQ.out _ _)))
                refine wpQuiet_nil ?_
                intro _ hw'
                obtain ⟨⟨dq, osq⟩, hw''⟩ := hw'
                subst hw''
                go_wp2
                go_roundw
                case rel => exact ⟨k + 1, by omega, by go_num, Hnx.out, HB1.out.trans ((below_regrown w1 dq osq).mono HB1.out.size)⟩
                case measure => simp [intOf]; omega
        · have hf := hide (acs_yes l (fun j hj => Hall.out j (by omega)))
          have HW2 := hide (HW.out _ (Hr.out.below hb (Nat.le_refl _)))
          rw [decide_eq_true h12, Bool.true_and] at hf
          generalize wealthA l = W at hf HW2
          go_wp2_with fail
          refine HW2.out.mono ?_
          rintro e w2 ⟨rfl, hb2⟩
          go_wp2
          go_ret
          exact ⟨ret_bool hf.out.symm, hb.trans (hb2.mono hb.size)⟩
    · have h12i : (12 : Int) < (l.length : Int) := by omega
      have hf : Hid (acsB l = false) := hide (by unfold acsB; rw [decide_eq_false h12, Bool.false_and, Bool.and_false])
      clear h12
      go_enter Tryd.func20, Tryd.ntmps20
      go_wp2
      go_ret
      exact ⟨ret_bool hf.out.symm, Below.refl _ _⟩
end Go.Proofs.YtdelegamcebflaaDoor

namespace Go.Proofs.YtdelegamcebflaaDoor
open Go.RowKit
set_option linter.unusedVariables false

set_option maxRecDepth 20000 in
set_option maxHeartbeats 1000000 in
theorem implLedgerOk_any (e : Int) (v : Value) (l : List Ac) (w : World) (hr : RdA w v l) (hl : l.length ≤ 4000000) (hall : ∀ a ∈ l, a.1.size ≤ maxLen ∧ a.2.2.2.2.length ≤ 4000000) :
    Calls Tryd.prog 8 #[lgV e v] w fun en w' => en = .returned (.bool (lgB e l)) ∧ Below w.heap.size w w' := by
  obtain ⟨a1, cv1, rfl⟩ := hr.shape
  simp only [lgV] at *
  have hb3 : Below w.heap.size w (w.alloc (.cells #[.int .i64 e, .slice a1 l.length cv1] 26)) := (Below.refl _ w).alloc (Nat.le_refl _) _
  have HE := hide (implAcctsOk_any _ l _ (hr.below hb3 (Nat.le_refl _)) hl hall)
  have Hb3 := hide hb3
  have Hx : Hid (lgB e l = (inB e 0 900 && acsB l)) := hide rfl
  clear hb3 hr hall
  generalize lgB e l = X at Hx
  generalize acsB l = A at Hx HE
  cases h0 : inB e 0 900
  · rw [h0, Bool.false_and] at Hx
    go_enter Tryd.func8, Tryd.ntmps8
    go_wp2_with (go_at_call 19; refine (implWithin_any _ _ _ _).mono ?_; rintro en w1 ⟨rfl, rfl⟩)
    go_ret
    exact ⟨ret_bool Hx.out.symm, Hb3.out⟩
  · rw [h0, Bool.true_and] at Hx
    go_enter Tryd.func8, Tryd.ntmps8
    go_wp2_with (first
      | (go_at_call 19; refine (implWithin_any _ _ _ _).mono ?_; rintro en w1 ⟨rfl, rfl⟩)
      | (go_at_call 20; refine HE.out.mono ?_; rintro en w2 ⟨rfl, hb2⟩))
    go_ret
    exact ⟨ret_bool Hx.out.symm, Hb3.out.trans (hb2.mono Hb3.out.size)⟩
end Go.Proofs.YtdelegamcebflaaDoor

namespace Go.Proofs.YtdelegamcebflaaDoor
open Go.RowKit
set_option linter.unusedVariables false

/-- The block g holds the accounts of Z, of the call's own from block 'base' on; each one's list is its own, too, and no two share a block. -/
structure RowG (base : Nat) (w : World) (g n cap : Nat) (Z : List (Ac × Value)) : Prop where
  len : Z.length = n
  row : w.ownsRow base 33 5 (.slice (some ⟨g, 0, none⟩) n cap) n (Z.map acC).flatten
  lvs : Lvs base w g Z
theorem RowG.own {base : Nat} {w : World} {g n cap : Nat} {Z : List (Ac × Value)} (h : RowG base w g n cap Z) : OwnA base w (.slice (some ⟨g, 0, none⟩) n cap) (Z.map (·.1)) :=
  ⟨g, cap, Z, rfl, by simp [h.len], by simpa [h.len] using h.row, h.lvs⟩
theorem OwnA.rowG {base : Nat} {w : World} {v : Value} {l : List Ac} (h : OwnA base w v l) : ∃ g cap Z, v = .slice (some ⟨g, 0, none⟩) l.length cap ∧ Z.map (·.1) = l ∧ RowG base w g l.length cap Z := by
  obtain ⟨g, cap, Z, hZ, rfl, ho, hl⟩ := h
  exact ⟨g, cap, Z, rfl, hZ, by rw [← hZ]; simp, ho, hl⟩
theorem RowG.lt {base : Nat} {w : World} {g n cap : Nat} {Z : List (Ac × Value)} (h : RowG base w g n cap Z) : base ≤ g ∧ g < w.heap.size := World.ownsRow.lt h.row g rfl
theorem RowG.below {B base : Nat} {w w' : World} {g n cap : Nat} {Z : List (Ac × Value)} (h : RowG base w g n cap Z) (hb : Below B w w') (hB : w.heap.size ≤ B) : RowG base w' g n cap Z :=
  ⟨h.len, row_below h.row hb hB, h.lvs.below hb hB⟩
/-- What turns one other block leaves it. -/
theorem RowG.kept {base : Nat} {w w' : World} {g n cap : Nat} {Z : List (Ac × Value)} {row : Option Nat} (h : RowG base w g n cap Z) (hg : w.grownBy w' row) (h1 : row ≠ some g) (h2 : ∀ i (hi : i < Z.length) k, Z[i].2.ownBlock = some k → row ≠ some k) : RowG base w' g n cap Z := by
  refine ⟨h.len, World.ownsRow.kept h.row hg (.inr (fun e => h1 e.symm)), ⟨fun i hi => World.ownsRow.kept (h.lvs.own i hi) hg ?_, h.lvs.far, h.lvs.apart⟩⟩
  cases hb : Z[i].2.ownBlock with
  | none => exact .inl rfl
  | some k => exact .inr (fun e => h2 i hi k hb e.symm)
theorem RowG.other {base : Nat} {w : World} {g n cap : Nat} {Z : List (Ac × Value)} (h : RowG base w g n cap Z) (b j : Nat) (u : Value) (h1 : b ≠ g) (h2 : ∀ i (hi : i < Z.length) k, Z[i].2.ownBlock = some k → b ≠ k) : RowG base (w.setCell ⟨b, j, none⟩ u) g n cap Z :=
  h.kept (grown_set w b j u) (fun e => h1 (by injection e)) (fun i hi k hk e => h2 i hi k hk (by injection e))
theorem RowG.old {base : Nat} {w : World} {g n cap : Nat} {Z : List (Ac × Value)} (h : RowG base w g n cap Z) (b j : Nat) (u : Value) (hb : b < base) : RowG base (w.setCell ⟨b, j, none⟩ u) g n cap Z :=
  h.other b j u (by have := h.lt; omega) (fun i hi k hk e => by have := (h.lvs.own i hi).ge k hk; omega)
theorem RowG.cell {base : Nat} {w : World} {g n cap : Nat} {Z : List (Ac × Value)} (h : RowG base w g n cap Z) (k : Nat) (hk : k < Z.length) (j : Nat) (hj : j < 5) : w.cell? ⟨g, k * 5 + j, none⟩ = (acC Z[k])[j]? := by
  rw [h.row.cellAt (k * 5 + j) (by have := h.len; omega), flat_get 5 (Z.map acC) k j (by simpa using hk) (acM_sz Z) hj]
  simp
theorem RowG.at {base : Nat} {w : World} {g n cap : Nat} {Z : List (Ac × Value)} (h : RowG base w g n cap Z) (k : Nat) (hk : k < Z.length) : AcAt w g (k * 5) Z[k].1 Z[k].2 :=
  ⟨by have := h.cell k hk 0 (by omega); simpa [acC] using this, by have := h.cell k hk 1 (by omega); simpa [acC] using this, by have := h.cell k hk 2 (by omega); simpa [acC] using this, by have := h.cell k hk 3 (by omega); simpa [acC] using this, by have := h.cell k hk 4 (by omega); simpa [acC] using this⟩
theorem RowG.frozen {base : Nat} {w : World} {g n cap : Nat} {Z : List (Ac × Value)} (h : RowG base w g n cap Z) (j : Nat) : w.frozen? ⟨g, j, none⟩ = false := h.row.frozenAt j
theorem RowG.caps {base : Nat} {w : World} {g n cap : Nat} {Z : List (Ac × Value)} (h : RowG base w g n cap Z) : n ≤ cap ∧ cap ≤ maxLen := by
  rcases h.row.2 with ⟨hv, _⟩ | ⟨g', cap', cur, hv, hb, hg, hnc, hcm, hcs, ht⟩
  · cases hv
  · simp only [Value.slice.injEq, Option.some.injEq, Addr.mk.injEq, and_true, true_and] at hv
    obtain ⟨rfl, rfl⟩ := hv
    exact ⟨hnc, hcm⟩
theorem tl_set (Z : List (Ac × Value)) (k : Nat) (q : Ac × Value) (hk : k < Z.length) (h : tlZ q = tlZ Z[k]) : (Z.set k q).map tlZ = Z.map tlZ := by
  apply List.ext_getElem (by simp)
  intro i h1 h2
  simp only [List.getElem_map, List.getElem_set]
  by_cases e : k = i
  · subst e; simp [h]
  · simp [e]
/-- One cell of the k-th account is written, not its list. -/
theorem RowG.put {base : Nat} {w : World} {g n cap : Nat} {Z : List (Ac × Value)} (h : RowG base w g n cap Z) (k : Nat) (hk : k < Z.length) (j : Nat) (hj : j < 5) (u : Value) (q : Ac × Value) (hq : acC q = (acC Z[k]).set j u) (ht : tlZ q = tlZ Z[k]) :
    RowG base (w.setCell ⟨g, k * 5 + j, none⟩ u) g n cap (Z.set k q) := by
  have hst := (h.row.stored (k * 5 + j) u).1
  have e : (Z.map acC).flatten.set (k * 5 + j) u = ((Z.set k q).map acC).flatten := by
    rw [flat_set 5 _ (Z.map acC) k j (by simpa using hk) (acM_sz Z) hj, List.map_set]
    congr 2
    rw [hq]
    simp
  rw [e] at hst
  exact ⟨by simp [h.len], hst, (h.lvs.set _ _).same (tl_set Z k q hk ht)⟩
/-- The lists, where the k-th is another one, of the call's own and of a block of its own. -/
theorem Lvs.putK {base : Nat} {w : World} {g : Nat} {Z : List (Ac × Value)} (h : Lvs base w g Z) (k : Nat) (hk : k < Z.length) (q : Ac × Value) (ho : OwnL base w q.2 q.1.2.2.2.2) (hf : ∀ b, q.2.ownBlock = some b → b ≠ g)
    (hn : ∀ i (hi : i < Z.length), i ≠ k → ∀ b, Z[i].2.ownBlock = some b → q.2.ownBlock ≠ some b) : Lvs base w g (Z.set k q) := by
  refine ⟨fun i hi => ?_, fun i hi b hb => ?_, fun i j hi hj hij b hb => ?_⟩
  · rw [List.getElem_set]
    split
    · exact ho
    · exact h.own i (by simpa using hi)
  · rw [List.getElem_set] at hb
    split at hb
    · exact hf b hb
    · exact h.far i (by simpa using hi) b hb
  · rw [List.getElem_set] at hb ⊢
    split at hb
    · rename_i e1
      rw [if_neg (by omega)]
      exact fun e => hn j (by simpa using hj) (by omega) b e hb
    · rename_i e1
      split
      · exact hn i (by simpa using hi) (by omega) b hb
      · exact h.apart i j (by simpa using hi) (by simpa using hj) hij b hb
/-- The list of the k-th account is another one. -/
theorem RowG.putL {base : Nat} {w : World} {g n cap : Nat} {Z : List (Ac × Value)} (h : RowG base w g n cap Z) (k : Nat) (hk : k < Z.length) (q : Ac × Value) (hq : acC q = (acC Z[k]).set 4 q.2) (ho : OwnL base w q.2 q.1.2.2.2.2) (hf : ∀ b, q.2.ownBlock = some b → b ≠ g)
    (hn : ∀ i (hi : i < Z.length), i ≠ k → ∀ b, Z[i].2.ownBlock = some b → q.2.ownBlock ≠ some b) : RowG base (w.setCell ⟨g, k * 5 + 4, none⟩ q.2) g n cap (Z.set k q) := by
  have hst := (h.row.stored (k * 5 + 4) q.2).1
  have e : (Z.map acC).flatten.set (k * 5 + 4) q.2 = ((Z.set k q).map acC).flatten := by
    rw [flat_set 5 _ (Z.map acC) k 4 (by simpa using hk) (acM_sz Z) (by omega), List.map_set]
    congr 2
    rw [hq]
    simp
  rw [e] at hst
  exact ⟨by simp [h.len], hst, ((h.lvs.putK k hk q ho hf hn).set _ _)⟩
/-- The whole k-th account is written. -/
theorem RowG.put5 {base : Nat} {w : World} {g n cap : Nat} {Z : List (Ac × Value)} (h : RowG base w g n cap Z) (k : Nat) (hk : k < Z.length) (q : Ac × Value) (ho : OwnL base w q.2 q.1.2.2.2.2) (hf : ∀ b, q.2.ownBlock = some b → b ≠ g)
    (hn : ∀ i (hi : i < Z.length), i ≠ k → ∀ b, Z[i].2.ownBlock = some b → q.2.ownBlock ≠ some b) :
    RowG base (((((w.setCell ⟨g, k * 5, none⟩ (.string q.1.1)).setCell ⟨g, k * 5 + 1, none⟩ (.int .i64 q.1.2.1)).setCell ⟨g, k * 5 + 2, none⟩ (.int .i64 q.1.2.2.1)).setCell ⟨g, k * 5 + 3, none⟩ (.int .i64 q.1.2.2.2.1)).setCell ⟨g, k * 5 + 4, none⟩ q.2) g n cap (Z.set k q) := by
  have s1 := (h.row.stored (k * 5) (.string q.1.1)).1
  have s2 := (s1.stored (k * 5 + 1) (.int .i64 q.1.2.1)).1
  have s3 := (s2.stored (k * 5 + 2) (.int .i64 q.1.2.2.1)).1
  have s4 := (s3.stored (k * 5 + 3) (.int .i64 q.1.2.2.2.1)).1
  have s5 := (s4.stored (k * 5 + 4) q.2).1
  rw [flat_put5 _ k _ _ _ _ _ (by simpa using hk) (acM_sz Z), show [Value.string q.1.1, .int .i64 q.1.2.1, .int .i64 q.1.2.2.1, .int .i64 q.1.2.2.2.1, q.2] = acC q from rfl, ← List.map_set] at s5
  exact ⟨by simp [h.len], s5, (((((h.lvs.putK k hk q ho hf hn).set _ _).set _ _).set _ _).set _ _).set _ _⟩
theorem fst_set (Z : List (Ac × Value)) (k : Nat) (q : Ac × Value) : (Z.set k q).map (·.1) = (Z.map (·.1)).set k q.1 := by rw [List.map_set]
theorem fst_get {Z : List (Ac × Value)} {L : List Ac} (hZ : Z.map (·.1) = L) (k : Nat) (hk : k < Z.length) (hk' : k < L.length) : Z[k].1 = L[k] := by subst hZ; simp
theorem set_get (Z : List (Ac × Value)) (k : Nat) (q : Ac × Value) (hk : k < (Z.set k q).length) : (Z.set k q)[k] = q := by simp
theorem Blk.set {W : World} {B : Nat} {t : TypeId} {cs : List Value} (h : Blk W B t cs) (j : Nat) (u : Value) : Blk (W.setCell ⟨B, j, none⟩ u) B t (cs.set j u) := by
  have e := heap_setCell_same W B j cs.toArray t u h
  rw [List.setIfInBounds_toArray] at e
  exact e
theorem Blk.other {W : World} {B : Nat} {t : TypeId} {cs : List Value} (h : Blk W B t cs) (b j : Nat) (u : Value) (hne : B ≠ b) : Blk (W.setCell ⟨b, j, none⟩ u) B t cs := (heap_setCell_other W ⟨b, j, none⟩ B u hne).trans h
/-- Five cells of another block are written. -/
theorem Blk.other5 {W : World} {B : Nat} {t : TypeId} {cs : List Value} (h : Blk W B t cs) (b o : Nat) (y0 y1 y2 y3 y4 : Value) (hne : B ≠ b) :
    Blk (((((W.setCell ⟨b, o, none⟩ y0).setCell ⟨b, o + 1, none⟩ y1).setCell ⟨b, o + 2, none⟩ y2).setCell ⟨b, o + 3, none⟩ y3).setCell ⟨b, o + 4, none⟩ y4) B t cs :=
  ((((h.other b o y0 hne).other b (o + 1) y1 hne).other b (o + 2) y2 hne).other b (o + 3) y3 hne).other b (o + 4) y4 hne
theorem below_set5 {B : Nat} {a W : World} (h : Below B a W) (b o : Nat) (y0 y1 y2 y3 y4 : Value) (hb : B ≤ b) :
    Below B a (((((W.setCell ⟨b, o, none⟩ y0).setCell ⟨b, o + 1, none⟩ y1).setCell ⟨b, o + 2, none⟩ y2).setCell ⟨b, o + 3, none⟩ y3).setCell ⟨b, o + 4, none⟩ y4) :=
  ((((h.setCell (p := ⟨b, o, none⟩) hb y0).setCell (p := ⟨b, o + 1, none⟩) hb y1).setCell (p := ⟨b, o + 2, none⟩) hb y2).setCell (p := ⟨b, o + 3, none⟩) hb y3).setCell (p := ⟨b, o + 4, none⟩) hb y4
theorem Blk.alloc {W : World} {B : Nat} {t : TypeId} {cs : List Value} (h : Blk W B t cs) (o : Obj) : Blk (W.alloc o) B t cs := h.below ((Below.refl W.heap.size W).alloc (Nat.le_refl _) o) h.lt
end Go.Proofs.YtdelegamcebflaaDoor
