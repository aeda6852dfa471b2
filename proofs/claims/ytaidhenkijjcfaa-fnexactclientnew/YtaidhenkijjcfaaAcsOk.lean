/- The model's AcctsOk. -/
import Derived.Test.YtaidhenkijjcfaaAcOk
import Derived.Lib.QuietBelow
import Derived.BigQuiet
namespace Go.Proofs.Ytaidhenkijjcfaa
open Go.RowKit Go.Sort
set_option linter.unusedVariables false

def ac0 : Ac := (ByteArray.empty, 0, 0, 0, [])
/-- What the i-th account must be. -/
def acAt (l : List Ac) (i : Nat) : Bool := acB (l.getD i ac0) && (decide (i = 0) || Op.bytesLess (l.getD (i - 1) ac0).1.toList (l.getD i ac0).1.toList)
def acsB (l : List Ac) : Bool := (List.range l.length).all (acAt l) && (decide (l.length ≤ 12) && decide (wealthA l ≤ 1000000))
theorem acs_no (l : List Ac) (k : Nat) (h : k < l.length) (hk : acAt l k = false) : acsB l = false := by
  unfold acsB
  have : (List.range l.length).all (acAt l) = false := by
    rw [List.all_eq_false]
    exact ⟨k, List.mem_range.2 h, by simp [hk]⟩
  rw [this, Bool.false_and]
theorem acs_yes (l : List Ac) (h : ∀ j, j < l.length → acAt l j = true) : acsB l = (decide (l.length ≤ 12) && decide (wealthA l ≤ 1000000)) := by
  unfold acsB
  have : (List.range l.length).all (acAt l) = true := by
    rw [List.all_eq_true]
    exact fun j hj => h j (List.mem_range.1 hj)
  rw [this, Bool.true_and]
theorem acAt_eq (l : List Ac) (k : Nat) (a : Ac) (h : k < l.length) (ha : l[k] = a) : acAt l k = (acB a && (decide (k = 0) || Op.bytesLess (l.getD (k - 1) ac0).1.toList a.1.toList)) := by
  have : l.getD k ac0 = a := by rw [List.getD_eq_getElem?_getD, List.getElem?_eq_getElem h, ← ha]; rfl
  unfold acAt; rw [this]

set_option maxRecDepth 20000 in
set_option maxHeartbeats 2000000 in
theorem specAcctsOk_any (v : Value) (l : List Ac) (w : World) (hr : RdA w v l) (hl : l.length ≤ 4000000) (hall : ∀ a ∈ l, a.1.size ≤ maxLen ∧ a.2.2.2.2.length ≤ 4000000) :
    Calls Try.prog 26 #[v] w fun e w' => e = .returned (.bool (acsB l)) ∧ Below w.heap.size w w' := by
  have HW := hide (fun w h => specWealth_any v l w h hl (fun a ha => (hall a ha).2))
  have Hr := hide hr
  rcases hr with ⟨a, cap, rfl, rfl, -⟩ | ⟨b, off, cap, h0, rfl, h1, h2, h3, h4⟩
  · go_enter Try.func26, Try.ntmps26
    go_wp2
    refine wp_loop_rounds 1 ?_
    rw [rounds_succ]
    go_wp2_with fail
    refine (HW.out _ Hr.out).mono ?_
    rintro e w2 ⟨rfl, hb2⟩
    go_wp2
    go_ret
    exact ⟨rfl, hb2⟩
  · have H4 := hide h4
    have Hs := hide hall
    clear h4 hall
    go_enter Try.func26, Try.ntmps26
    go_wp2
    go_loopw [3] (fun i wr => ∃ k : Nat, k ≤ l.length ∧ i = .int .i64 k ∧ (∀ j, j < k → acAt l j = true) ∧ Below w.heap.size w wr) (fun i _ => l.length - (intOf i).toNat)
    case atStart => exact ⟨0, Nat.zero_le _, rfl, fun j hj => by omega, Below.refl _ _⟩
    case round =>
      obtain ⟨k, hk, rfl, hok, hb⟩ := hrel
      have Hall := hide hok
      clear hok
      by_cases hlt : k < l.length
      · obtain ⟨lv, hat, hrl⟩ := H4.out k hlt
        obtain ⟨c0, c1, c2, c3, c4⟩ := hat.below hb h3
        have hsz := Hs.out l[k] (List.getElem_mem hlt)
        have Hok := hide (acAt_eq l k l[k] hlt rfl)
        have Hno := hide (acs_no l k hlt)
        have hli : (k : Int) < (l.length : Int) := by omega
        have Hnx : Hid (acAt l k = true → ∀ j, j < k + 1 → acAt l j = true) := hide (fun h j hj => by
          by_cases e : j = k
          · subst e; exact h
          · exact Hall.out j (by omega))
        have HQ := hide (fun (d : Nat) (os : Array Obj) => Calls.regrown_of (specAcctOk_any l[k] lv (grow (redrawn wr d) os) ((hrl.below hb (Nat.le_refl _)).below (below_regrown wr d os) (Nat.le_refl _)) hsz.1 hsz.2))
        have hprev : Hid (k ≥ 1 → wr.cell? ⟨b, off + (k - 1) * 5, none⟩ = some (.string (l.getD (k - 1) ac0).1)) := hide (fun hk1 => by
          obtain ⟨lv2, hat2, _⟩ := H4.out (k - 1) (by omega)
          rw [List.getD_eq_getElem?_getD, List.getElem?_eq_getElem (show k - 1 < l.length by omega)]
          exact (hat2.below hb h3).c0)
        have hshape := hrl.shape
        clear hat hrl hsz
        generalize l[k] = ak at c0 c1 c2 c3 HQ Hok hshape
        generalize (l.getD (k - 1) ac0).1 = pn at hprev Hok
        obtain ⟨nm, fr, no, st, ls⟩ := ak
        obtain ⟨av, cv, rfl⟩ := hshape
        simp only [acV] at c0 c1 c2 c3 HQ Hok
        have g0 := cell_regrown c0
        have g1 := cell_regrown c1
        have g2 := cell_regrown c2
        have g3 := cell_regrown c3
        have g4 := cell_regrown c4
        clear c0 c1 c2 c3 c4
        cases hn : acB (nm, fr, no, st, ls)
        · have hf := hide (Hno.out (by rw [Hok.out, hn]; rfl))
          rw [hn] at HQ
          clear hn hprev Hnx
          go_wp2
          refine wp_region_quiet_below (by kernel_rfl) (by kernel_rfl) ?_
          repeat (go_big_quiet_step ((go_at_call 35; exact HQ.out _ _)))
          refine wpQuiet_nil ?_
          intro _ hw'
          obtain ⟨⟨dq, osq⟩, hw''⟩ := hw'
          subst hw''
          go_wp2
          go_ret
          exact ⟨ret_bool hf.out.symm, hb.trans ((below_regrown wr dq osq).mono hb.size)⟩
        · rw [hn] at HQ
          by_cases hk1 : k < 1
          · have hd : decide (0 < k) = false := by simp; omega
            have hd2 : decide ((0 : Int) < (k : Int)) = false := by simp; omega
            have Hnx := hide (Hnx.out (by rw [Hok.out, hn, show k = 0 from by omega]; rfl))
            clear hn hprev
            go_wp2
            refine wp_region_quiet_below (by kernel_rfl) (by kernel_rfl) ?_
            repeat (go_big_quiet_step ((go_at_call 35; exact HQ.out _ _)))
            refine wpQuiet_nil ?_
            intro _ hw'
            obtain ⟨⟨dq, osq⟩, hw''⟩ := hw'
            subst hw''
            go_wp2
            go_roundw
            case rel => exact ⟨k + 1, by omega, by go_num, Hnx.out, hb.trans ((below_regrown wr dq osq).mono hb.size)⟩
            case measure => simp [intOf]; omega
          · have hcp := cell_regrown (hprev.out (by omega))
            clear hprev
            have hpos : (0 : Int) < (k : Int) := by omega
            have hposN : 0 < k := by omega
            have hd1 : decide (0 < k) = true := by simp; omega
            have hix : ((k : Int) - 1).toNat = k - 1 := by omega
            have hix1 : (0 : Int) ≤ (k : Int) - 1 := by omega
            have hix2 : (k : Int) - 1 < (l.length : Int) := by omega
            cases hless : Op.bytesLess pn.toList nm.toList
            · have hf := hide (Hno.out (by rw [Hok.out, hn, hless]; simp; omega))
              clear hn Hnx
              go_wp2
              refine wp_region_quiet_below (by kernel_rfl) (by kernel_rfl) ?_
              repeat (go_big_quiet_step ((go_at_call 35; exact HQ.out _ _)))
              refine wpQuiet_nil ?_
              intro _ hw'
              obtain ⟨⟨dq, osq⟩, hw''⟩ := hw'
              subst hw''
              go_wp2
              go_ret
              exact ⟨ret_bool hf.out.symm, hb.trans ((below_regrown wr dq osq).mono hb.size)⟩
            · have Hnx := hide (Hnx.out (by rw [Hok.out, hn, hless]; simp))
              clear hn
              go_wp2
              refine wp_region_quiet_below (by kernel_rfl) (by kernel_rfl) ?_
              repeat (go_big_quiet_step ((go_at_call 35; exact HQ.out _ _)))
              refine wpQuiet_nil ?_
              intro _ hw'
              obtain ⟨⟨dq, osq⟩, hw''⟩ := hw'
              subst hw''
              go_wp2
              go_roundw
              case rel => exact ⟨k + 1, by omega, by go_num, Hnx.out, hb.trans ((below_regrown wr dq osq).mono hb.size)⟩
              case measure => simp [intOf]; omega
      · have hf := hide (acs_yes l (fun j hj => Hall.out j (by omega)))
        have HW2 := hide (HW.out _ (Hr.out.below hb (Nat.le_refl _)))
        by_cases h12 : l.length ≤ 12
        · have h12i : (l.length : Int) ≤ 12 := by omega
          rw [decide_eq_true h12, Bool.true_and] at hf
          generalize wealthA l = W at hf HW2
          go_wp2_with fail
          refine HW2.out.mono ?_
          rintro e w2 ⟨rfl, hb2⟩
          go_wp2
          go_ret
          exact ⟨ret_bool hf.out.symm, hb.trans (hb2.mono hb.size)⟩
        · have h12i : ¬ (l.length : Int) ≤ 12 := by omega
          rw [decide_eq_false h12, Bool.false_and] at hf
          go_wp2
          go_ret
          exact ⟨ret_bool hf.out.symm, hb⟩
end Go.Proofs.Ytaidhenkijjcfaa
