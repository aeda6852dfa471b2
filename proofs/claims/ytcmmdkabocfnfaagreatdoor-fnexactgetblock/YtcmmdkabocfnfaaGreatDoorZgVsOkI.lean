/- What is read is no longer than the bytes; bytes.Equal. The landed code's SetOk. -/
import Derived.Test.YtcmmdkabocfnfaaGreatDoorZgBkTo
import Derived.Test.YtcmmdkabocfnfaaGreatDoorZgToStr
import Derived.Laws.IdiomStrings
import Derived.Test.YtcmmdkabocfnfaaGreatDoorZgPutPure
namespace Go.Proofs.YtcmmdkabocfnfaaGreatDoor
open Go.RowKit
set_option linter.unusedVariables false

theorem getT_sz (l : List UInt8) (p : Int) : (getT l p).1.length ≤ l.length := by
  unfold getT
  split
  · simp only [List.length_take, List.length_drop]; omega
  · simp
theorem mkB_size (l : List UInt8) : (⟨l.toArray⟩ : ByteArray).size = l.length := by simp [ByteArray.size]
theorem rT_sz (l : List UInt8) (s : St) : (rT l s).size ≤ l.length := by
  cases s with
  | none => show (⟨#[]⟩ : ByteArray).size ≤ _; simp [ByteArray.size]
  | some p => show (⟨(getT l p).1.toArray⟩ : ByteArray).size ≤ _; rw [mkB_size]; exact getT_sz l p
theorem getL_sz (l : List UInt8) : ∀ (n : Nat) (q : Int) (acc a : List ByteArray) (x : Int), (∀ y ∈ acc, y.size ≤ l.length) → getL n l q acc = some (a, x) → ∀ y ∈ a, y.size ≤ l.length := by
  intro n
  induction n with
  | zero => intro q acc a x h e; simp only [getL, Option.some.injEq, Prod.mk.injEq] at e; rw [← e.1]; exact h
  | succ n ih =>
    intro q acc a x h e
    unfold getL at e
    split at e
    · refine ih _ _ _ _ ?_ e
      intro y hy
      rcases List.mem_append.1 hy with hy | hy
      · exact h y hy
      · rw [List.mem_singleton.1 hy, mkB_size]; exact getT_sz l q
    · cases e
theorem rS_sz (l : List UInt8) (s : St) : ∀ y ∈ rS l s, y.size ≤ l.length := by
  cases s with
  | none => intro y hy; cases hy
  | some p =>
    show ∀ y ∈ (getNs l p).1, y.size ≤ l.length
    unfold getNs
    split
    · split
      · intro y hy; cases hy
      · rename_i a q hq
        exact getL_sz l _ _ _ _ _ (fun y hy => by cases hy) hq
    · intro y hy; cases hy
theorem rS_len (l : List UInt8) (s : St) : (rS l s).length ≤ 100 := by
  cases s with
  | none => simp [rS]
  | some p => exact getNs_len l p
theorem rX_sz (l : List UInt8) (s : St) : (rX l s).2.1.size ≤ l.length ∧ (rX l s).2.2.1.size ≤ l.length := by
  cases s with
  | none => exact ⟨Nat.zero_le _, Nat.zero_le _⟩
  | some p =>
    show (getX l p).1.2.1.size ≤ _ ∧ (getX l p).1.2.2.1.size ≤ _
    unfold getX
    split
    · split
      · simp only [mkB_size]
        exact ⟨getT_sz _ _, getT_sz _ _⟩
      · exact ⟨Nat.zero_le _, Nat.zero_le _⟩
    · exact ⟨Nat.zero_le _, Nat.zero_le _⟩
theorem rL_all {α : Type} (r : St → α) (n : St → St) (P : α → Prop) (h : ∀ s, P (r s)) (s : St) : ∀ k, ∀ x ∈ rL r n k s, P x
  | 0, x, hx => by cases hx
  | k + 1, x, hx => by
    rcases List.mem_append.1 hx with hx | hx
    · exact rL_all r n P h s k x hx
    · rw [List.mem_singleton.1 hx]; exact h _
theorem rN_bd (l : List UInt8) (s : St) : -1000000000 ≤ rN l s ∧ rN l s ≤ 1000000000 := by
  cases s with
  | none => simp [rN]
  | some p => exact ⟨(getN_bd l p).1, (getN_bd l p).2.1⟩
theorem cI_few (l : List UInt8) (m : Int) (s : St) (hm : 0 ≤ m) : (cI l m s).toNat ≤ m.toNat := by
  unfold cI inB
  split
  · rename_i h
    simp only [decide_eq_true_eq] at h
    omega
  · simp
theorem few_bI (l : List UInt8) (hl : l.length ≤ 4000000) : FewK (bI l) := by
  have hm : 4000000 ≤ maxLen := by unfold maxLen; omega
  refine ⟨?_, ?_, ?_, ?_, ?_, ?_, ?_, ?_, ?_, ?_, ?_⟩
  · have := rS_len l (y6 l); show (rS l (y6 l)).length ≤ _; omega
  · have := rS_len l (y8 l); show (rS l (y8 l)).length ≤ _; omega
  · have := rS_len l (y8 l); show (rL (rN l) (sN l) (rS l (y8 l)).length (y9 l)).length ≤ _; rw [rL_len]; omega
  · have := cI_few l 4 (y10 l) (by omega); show (rL (rX l) (sX l) (cI l 4 (y10 l)).toNat (i11 l)).length ≤ _; rw [rL_len]; omega
  · have := cI_few l 12 (i13 l) (by omega); show (rL (rV l) (sV l) (cI l 12 (i13 l)).toNat (i14 l)).length ≤ _; rw [rL_len]; omega
  · intro s hs; have := rS_sz l (y6 l) s hs; omega
  · intro s hs; have := rS_sz l (y8 l) s hs; omega
  · intro t ht; have := rL_all (rX l) (sX l) (fun t : Tx5 => t.2.1.size ≤ l.length ∧ t.2.2.1.size ≤ l.length) (rX_sz l) _ _ t ht; omega
  · intro p hp; have := rL_all (rV l) (sV l) (fun p : Vl => p.1.size ≤ l.length) (fun s => rT_sz l s) _ _ p hp; omega
  · have := rT_sz l (y3 l); show (rT l (y3 l)).size ≤ _; omega
  · have := rT_sz l (i15 l); show (rT l (i15 l)).size ≤ _; omega
theorem few_bS (l : List UInt8) (hl : l.length ≤ 4000000) : FewK (bS l) := by
  have hm : 4000000 ≤ maxLen := by unfold maxLen; omega
  refine ⟨?_, ?_, ?_, ?_, ?_, ?_, ?_, ?_, ?_, ?_, ?_⟩
  · have := rS_len l (y6 l); show (rS l (y6 l)).length ≤ _; omega
  · have := rS_len l (y8 l); show (rS l (y8 l)).length ≤ _; omega
  · have := rS_len l (y8 l); show (rL (rN l) (sN l) (rS l (y8 l)).length (y9 l)).length ≤ _; rw [rL_len]; omega
  · show (rL (rX l) (sX l) (few (rN l (y10 l)) 5) (j11 l)).length ≤ _; rw [rL_len]; unfold few; omega
  · show (rL (rV l) (sV l) (few (rN l (j13 l)) 13) (j14 l)).length ≤ _; rw [rL_len]; unfold few; omega
  · intro s hs; have := rS_sz l (y6 l) s hs; omega
  · intro s hs; have := rS_sz l (y8 l) s hs; omega
  · intro t ht; have := rL_all (rX l) (sX l) (fun t : Tx5 => t.2.1.size ≤ l.length ∧ t.2.2.1.size ≤ l.length) (rX_sz l) _ _ t ht; omega
  · intro p hp; have := rL_all (rV l) (sV l) (fun p : Vl => p.1.size ≤ l.length) (fun s => rT_sz l s) _ _ p hp; omega
  · have := rT_sz l (y3 l); show (rT l (y3 l)).size ≤ _; omega
  · have := rT_sz l (j15 l); show (rT l (j15 l)).size ≤ _; omega
theorem Tryz.strNil9 (w : World) : (convert 22 9 (.slice none 0 0)).run Tryz.prog w = .ok (.string ⟨#[]⟩) w := by kernel_rfl
theorem str_any (w : World) (v : Value) (l : List UInt8) (h : RdB w v l) : (convert 22 9 v).run Tryz.prog w = .ok (.string ⟨l.toArray⟩) w := by
  rcases h with ⟨a, cap, rfl, rfl, hn⟩ | ⟨b, off, cap, hne, rfl, h1, h2, h3, h4⟩
  · cases a with
    | none =>
      have hc := hn rfl
      subst hc
      exact Tryz.strNil9 w
    | some ad =>
      have := run_convert_bytes_back (P := Tryz.prog) w 22 9 5 ad cap [] Tryz.underlying22 Tryz.underlying5 Tryz.underlying9 (by intro j hj; simp at hj)
      simpa using this
  · exact run_convert_bytes_back (P := Tryz.prog) w 22 9 5 ⟨b, off, none⟩ cap l Tryz.underlying22 Tryz.underlying5 Tryz.underlying9 (by
      intro j hj
      have ea : (⟨b, off, none⟩ : Addr).add j = ⟨b, off + j, none⟩ := by
        by_cases hz : j = 0
        · subst hz; simp [Addr.add]
        · simp [Addr.add, hz]
      rw [ea, h4 j hj])
set_option maxRecDepth 20000 in
theorem equalB_any (v1 v2 : Value) (l1 l2 : List UInt8) (w : World) (h1 : RdB w v1 l1) (h2 : RdB w v2 l2) :
    Calls Tryz.prog 81 #[v1, v2] w fun e w' => e = .returned (.bool (decide (l1 = l2))) ∧ w' = w := by
  have c1 := str_any w v1 l1 h1
  have c2 := str_any w v2 l2 h2
  by_cases he : l1 = l2
  · subst he
    have Hf : Hid (decide (l1 = l1) = true) := hide (decide_eq_true rfl)
    generalize decide (l1 = l1) = X at Hf ⊢
    go_enter Tryz.func81, Tryz.ntmps81
    go_wp2
    go_ret
    exact ⟨ret_bool Hf.out.symm, rfl⟩
  · have Hf : Hid (decide (l1 = l2) = false) := hide (decide_eq_false he)
    have hq := bytes_ne (a := ⟨l1.toArray⟩) (b := ⟨l2.toArray⟩) (fun e => he (by
      have := congrArg (fun s : ByteArray => s.data.toList) e
      simpa using this))
    generalize decide (l1 = l2) = X at Hf ⊢
    generalize (⟨l1.toArray⟩ : ByteArray) = s1 at c1 hq
    generalize (⟨l2.toArray⟩ : ByteArray) = s2 at c2 hq
    clear he
    go_enter Tryz.func81, Tryz.ntmps81
    go_wp2
    go_ret
    exact ⟨ret_bool Hf.out.symm, rfl⟩
end Go.Proofs.YtcmmdkabocfnfaaGreatDoor

namespace Go.Proofs.YtcmmdkabocfnfaaGreatDoor
open Go.RowKit Go.Sort
set_option linter.unusedVariables false

theorem withinV_any (x a b : Int) (w : World) :
    Calls Tryz.prog 106 #[.int .i64 x, .int .i64 a, .int .i64 b] w fun e w' => e = .returned (.bool (inB x a b)) ∧ w' = w := by
  by_cases h1 : a ≤ x
  · by_cases h2 : x ≤ b
    · have e : Hid (inB x a b = true) := hide (by simp [inB, h1, h2])
      go_enter Tryz.func106, Tryz.ntmps106
      go_wp2
      go_ret
      rw [e.out]; exact ⟨rfl, rfl⟩
    · have e : Hid (inB x a b = false) := hide (by simp [inB, h1, h2])
      go_enter Tryz.func106, Tryz.ntmps106
      go_wp2
      go_ret
      rw [e.out]; exact ⟨rfl, rfl⟩
  · have e : Hid (inB x a b = false) := hide (by simp [inB, h1])
    go_enter Tryz.func106, Tryz.ntmps106
    go_wp2
    go_ret
    rw [e.out]; exact ⟨rfl, rfl⟩
set_option maxRecDepth 20000 in
set_option maxHeartbeats 2000000 in
theorem implSetOk_any (v : Value) (l : List Vl) (w : World) (hr : RdV w v l) (hl : l.length ≤ 4000000) (hall : ∀ a ∈ l, a.1.size ≤ maxLen) :
    Calls Tryz.prog 112 #[v] w fun e w' => e = .returned (.bool (setB l)) ∧ Below w.heap.size w w' := by
  rcases hr with ⟨a, cap, rfl, rfl, -⟩ | ⟨b, off, cap, h0, rfl, h1, h2, h3, h4⟩
  · have HW := hide (fun w => withinV_any 0 1 12 w)
    have h0 : inB 0 1 12 = false := rfl
    rw [h0] at HW
    go_enter Tryz.func112, Tryz.ntmps112
    go_wp2_with fail
    refine (HW.out _).mono ?_
    rintro e w2 ⟨rfl, rfl⟩
    go_wp2
    go_ret
    exact ⟨rfl, Below.refl _ _⟩
  · have H4 := hide h4
    have Hs := hide hall
    clear h4 hall
    have Hset : Hid (setB l = ((List.range l.length).all (vlAt l) && inB l.length 1 12)) := hide rfl
    cases h12 : inB (l.length : Int) 1 12
    · rw [h12, Bool.and_false] at Hset
      have HW := hide (fun w => withinV_any (l.length : Int) 1 12 w)
      rw [h12] at HW
      clear h12
      go_enter Tryz.func112, Tryz.ntmps112
      go_wp2_with fail
      refine (HW.out _).mono ?_
      rintro e w2 ⟨rfl, rfl⟩
      go_wp2
      go_ret
      exact ⟨ret_bool Hset.out.symm, Below.refl _ _⟩
    clear Hset
    have HW := hide (fun w => withinV_any (l.length : Int) 1 12 w)
    rw [h12] at HW
    go_enter Tryz.func112, Tryz.ntmps112
    go_wp2_with fail
    refine (HW.out _).mono ?_
    rintro e w ⟨rfl, rfl⟩
    go_wp2
    go_loopw [11] (fun i wr => ∃ k : Nat, k ≤ l.length ∧ i = .int .i64 k ∧ (∀ j, j < k → vlAt l j = true) ∧ Below w.heap.size w wr) (fun i _ => l.length - (intOf i).toNat)
    case atStart => exact ⟨0, Nat.zero_le _, rfl, fun j hj => by omega, Below.refl _ _⟩
    case round =>
      obtain ⟨k, hk, rfl, hok, hb⟩ := hrel
      have Hall := hide hok
      clear hok
      by_cases hlt : k < l.length
      · obtain ⟨d0, d1⟩ := H4.out k hlt
        have c0 := (hb.cell (p := ⟨b, off + k * 2, none⟩) h3).trans d0
        have c1 := (hb.cell (p := ⟨b, off + k * 2 + 1, none⟩) h3).trans d1
        have hsz := Hs.out l[k] (List.getElem_mem hlt)
        have Hok := hide (vlAt_eq l k l[k] hlt rfl)
        have Hno := hide (set_no l k hlt)
        have hli : (k : Int) < (l.length : Int) := by omega
        have Hnx : Hid (vlAt l k = true → ∀ j, j < k + 1 → vlAt l j = true) := hide (fun h j hj => by
          by_cases e : j = k
          · subst e; exact h
          · exact Hall.out j (by omega))
        have hprev : Hid (k ≥ 1 → wr.cell? ⟨b, off + (k - 1) * 2, none⟩ = some (.string (l.getD (k - 1) vl0).1)) := hide (fun hk1 => by
          rw [List.getD_eq_getElem?_getD, List.getElem?_eq_getElem (show k - 1 < l.length by omega)]
          exact (hb.cell (p := ⟨b, off + (k - 1) * 2, none⟩) h3).trans (H4.out (k - 1) (by omega)).1)
        clear d0 d1
        generalize l[k] = ak at c0 c1 Hok hsz
        generalize (l.getD (k - 1) vl0).1 = pn at hprev Hok
        obtain ⟨nm, wt⟩ := ak
        simp only at c0 c1 Hok hsz
        obtain ⟨w1, hw1⟩ : ∃ w1, wr.alloc (.cells #[.string nm, .int .i64 wt] 56) = w1 := ⟨_, rfl⟩
        have hA : Below wr.heap.size wr w1 := by rw [← hw1]; exact (Below.refl _ wr).alloc (Nat.le_refl _) _
        have hbb : b < wr.heap.size := Nat.lt_of_lt_of_le h3 hb.size
        have HB1 : Hid (Below w.heap.size w w1) := hide (hb.trans (hA.mono hb.size))
        have hk1 : Blk w1 wr.heap.size 56 [.string nm, .int .i64 wt] := by rw [← hw1]; exact Blk.new wr _ _
        have HN := hide (fun (d : Nat) (os : Array Obj) => sameV_regrown (implNameOk_any nm (grow (redrawn w1 d) os) hsz))
        have HI := hide (fun (d : Nat) (os : Array Obj) => sameV_regrown (withinV_any wt 1 1000000 (grow (redrawn w1 d) os)))
        have e0 := hk1.cell 0
        have e1 := hk1.cell 1
        simp only [List.getElem?_cons_zero, List.getElem?_cons_succ] at e0 e1
        have g0 := cell_regrown e0
        have g1 := cell_regrown e1
        have hprev1 : Hid (k ≥ 1 → w1.cell? ⟨b, off + (k - 1) * 2, none⟩ = some (.string pn)) := hide (fun h => (hA.cell (p := ⟨b, off + (k - 1) * 2, none⟩) hbb).trans (hprev.out h))
        clear e0 e1 hprev hsz hk1 hA
        cases hn : nmB nm
        · have hf := hide (Hno.out (by rw [Hok.out, hn]; rfl))
          rw [hn] at HN
          clear hn hprev1 Hnx
          go_wp2
          clear c0 c1
          refine wp_region_quiet_below (by kernel_rfl) (by kernel_rfl) ?_
          repeat (go_big_quiet_step ((first | (go_at_call 107; exact HN.out _ _) | (go_at_call 106; exact HI.out _ _))))
          refine wpQuiet_nil ?_
          intro _ hw'
          obtain ⟨⟨dq, osq⟩, hw''⟩ := hw'
          subst hw''
          go_wp2
          go_ret
          exact ⟨ret_bool hf.out.symm, HB1.out.trans ((below_regrown w1 dq osq).mono HB1.out.size)⟩
        · rw [hn] at HN
          cases hi : inB wt 1 1000000
          · have hf := hide (Hno.out (by rw [Hok.out, hn, hi]; rfl))
            rw [hi] at HI
            clear hn hi hprev1 Hnx
            go_wp2
            clear c0 c1
            refine wp_region_quiet_below (by kernel_rfl) (by kernel_rfl) ?_
            repeat (go_big_quiet_step ((first | (go_at_call 107; exact HN.out _ _) | (go_at_call 106; exact HI.out _ _))))
            refine wpQuiet_nil ?_
            intro _ hw'
            obtain ⟨⟨dq, osq⟩, hw''⟩ := hw'
            subst hw''
            go_wp2
            go_ret
            exact ⟨ret_bool hf.out.symm, HB1.out.trans ((below_regrown w1 dq osq).mono HB1.out.size)⟩
          · rw [hi] at HI
            by_cases hk1 : k < 1
            · have hd : decide (0 < k) = false := by simp; omega
              have hd2 : decide ((0 : Int) < (k : Int)) = false := by simp; omega
              have Hnx := hide (Hnx.out (by rw [Hok.out, hn, hi, show k = 0 from by omega]; rfl))
              clear hn hi hprev1
              go_wp2
              clear c0 c1
              refine wp_region_quiet_below (by kernel_rfl) (by kernel_rfl) ?_
              repeat (go_big_quiet_step ((first | (go_at_call 107; exact HN.out _ _) | (go_at_call 106; exact HI.out _ _))))
              refine wpQuiet_nil ?_
              intro _ hw'
              obtain ⟨⟨dq, osq⟩, hw''⟩ := hw'
              subst hw''
              go_wp2
              go_roundw
              case rel => exact ⟨k + 1, by omega, by go_num, Hnx.out, HB1.out.trans ((below_regrown w1 dq osq).mono HB1.out.size)⟩
              case measure => simp [intOf]; omega
            · have hcp := cell_regrown (hprev1.out (by omega))
              clear hprev1
              have hpos : (0 : Int) < (k : Int) := by omega
              have hposN : 0 < k := by omega
              have hd1 : decide (0 < k) = true := by simp; omega
              have hix : ((k : Int) - 1).toNat = k - 1 := by omega
              have hix1 : (0 : Int) ≤ (k : Int) - 1 := by omega
              have hix2 : (k : Int) - 1 < (l.length : Int) := by omega
              cases hless : Op.bytesLess pn.toList nm.toList
              · have hf := hide (Hno.out (by rw [Hok.out, hn, hi, hless]; simp; omega))
                clear hn hi Hnx
                go_wp2
                clear c0 c1
                refine wp_region_quiet_below (by kernel_rfl) (by kernel_rfl) ?_
                repeat (go_big_quiet_step ((first | (go_at_call 107; exact HN.out _ _) | (go_at_call 106; exact HI.out _ _))))
                refine wpQuiet_nil ?_
                intro _ hw'
                obtain ⟨⟨dq, osq⟩, hw''⟩ := hw'
                subst hw''
                go_wp2
                go_ret
                exact ⟨ret_bool hf.out.symm, HB1.out.trans ((below_regrown w1 dq osq).mono HB1.out.size)⟩
              · have Hnx := hide (Hnx.out (by rw [Hok.out, hn, hi, hless]; simp))
                clear hn hi
                go_wp2
                clear c0 c1
                refine wp_region_quiet_below (by kernel_rfl) (by kernel_rfl) ?_
                repeat (go_big_quiet_step ((first | (go_at_call 107; exact HN.out _ _) | (go_at_call 106; exact HI.out _ _))))
                refine wpQuiet_nil ?_
                intro _ hw'
                obtain ⟨⟨dq, osq⟩, hw''⟩ := hw'
                subst hw''
                go_wp2
                go_roundw
                case rel => exact ⟨k + 1, by omega, by go_num, Hnx.out, HB1.out.trans ((below_regrown w1 dq osq).mono HB1.out.size)⟩
                case measure => simp [intOf]; omega
      · have hf := hide (set_yes l (fun j hj => Hall.out j (by omega)))
        rw [h12] at hf
        go_wp2
        go_ret
        exact ⟨ret_bool hf.out.symm, hb⟩
end Go.Proofs.YtcmmdkabocfnfaaGreatDoor
