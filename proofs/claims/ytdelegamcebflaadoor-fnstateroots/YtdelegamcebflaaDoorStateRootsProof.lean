/- Whatever ledger is drawn, its root is one of 32 bytes, and each account's text has its path to it; of one that is not right there is none: the law FnStateRoots returns true at every code, with no condition but that the two package-level tables read as the program's text lays them. -/
import Derived.Test.YtdelegamcebflaaDoorRows
import Derived.Test.YtdelegamcebflaaDoorTie
import Derived.Test.YtdelegamcebflaaDoorCards
import Derived.Test.YtdelegamcebflaaDoorJoin1
import Derived.Test.YtdelegamcebflaaDoorLgRoot
import Derived.Test.YtdelegamcebflaaDoorMerkPathI
import Derived.Test.YtdelegamcebflaaDoorJoin13
import Derived.Test.YtdelegamcebflaaDoorJoin15
import Derived.Test.YtdelegamcebflaaDoorDoorLaid
import Derived.WalkKit
import Derived.ProofKit
import Derived.OpenShut
import Derived.ShutString
import Derived.ChangeOld
import Derived.Below
import Derived.SliceStrings
import Derived.OpenVars
import Derived.SevenTiedAt
namespace Go.Proofs.YtdelegamcebflaaDoor
open Go.ChangeShapes Go.WideShapes Go.ChangeAt Go.RowKit
open Go.ChangeMaps (open_string shut_string)
set_option linter.unusedVariables false

theorem fnStateRoots_own : ownKnob Tryd.prog.godebug = none := by kernel_rfl
theorem fnStateRoots_laidOut : laidOutB Tryd.prog = true := by kernel_rfl

theorem pathB_szS : ∀ (n : Nat) (l : List ByteArray) (i : Nat), l.length ≤ n → ∀ s ∈ pathB l i, s.size = 32
  | 0, l, i, h, s, hs => by rw [pathB_few l i (by omega)] at hs; simp at hs
  | n + 1, l, i, h, s, hs => by
    by_cases h2 : l.length < 2
    · rw [pathB_few l i h2] at hs; simp at hs
    · have hh := half_lt l.length (by omega)
      by_cases hi : i < half l.length
      · rw [pathB_left l i (by omega) hi] at hs
        rcases List.mem_append.1 hs with hs | hs
        · exact pathB_szS n _ _ (by simp; omega) s hs
        · simp at hs; subst hs; exact rootB_size _
      · rw [pathB_right l i (by omega) hi] at hs
        rcases List.mem_append.1 hs with hs | hs
        · exact pathB_szS n _ _ (by simp; omega) s hs
        · simp at hs; subst hs; exact rootB_size _
theorem check_rightS (ls : List ByteArray) (x : Nat) (hx : x < ls.length) (hl : ls.length ≤ 64) : checkB ls[x] (x : Int) (ls.length : Int) (pathB ls x) (rootB ls) = true := by
  rw [checkB_in _ x ls.length _ _ (by omega), up_path ls.length ls x ls.length ls[x] rfl (Nat.le_refl _) (List.getElem?_eq_getElem hx)]
  simp
theorem RdS.atS {w : World} {v : Value} {l : List ByteArray} {k : Nat} (h : RdS w v l) (hk : k < l.length) :
    ∃ b off cap, v = .slice (some ⟨b, off, none⟩) l.length cap ∧ l.length ≤ cap ∧ cap ≤ maxLen ∧ b < w.heap.size ∧ w.cell? ⟨b, off + k, none⟩ = some (.string l[k]) := by
  rcases h with ⟨a', cap', e, rfl, -⟩ | ⟨b, off, cap', h0, e, h1, h2, h3, h4⟩
  · simp at hk
  · exact ⟨b, off, cap', e, h1, h2, h3, h4 k hk⟩
set_option maxRecDepth 20000 in
set_option maxHeartbeats 8000000 in
theorem fnStateRoots_walk (a0 : Option Addr) (len0 cap0 : Nat) (z0 : List Int) (w : World) (hgl : Gl w) (w0 : IsRow .u8 w a0 len0 cap0 z0) :
    Calls Tryd.prog 3 #[.slice a0 len0 cap0] w fun e w' => e = .returned (.bool true) ∧ Below w.heap.size w w' := by
  obtain ⟨cd, rfl, hr⟩ := w0.rd
  clear w0
  have hcap : cd.length ≤ 9223372036854775807 := by
    rcases hr with ⟨_, _, _, e, _⟩ | ⟨_, _, cap, _, _, h1, h2, _⟩
    · subst e; simp
    · unfold maxLen at h2; omega
  have Hbig := hide (big_any _ cd w hr hcap)
  by_cases hbig : 1048576 < cd.length
  · rw [decide_eq_true hbig] at Hbig
    clear hr hgl
    go_enter Tryd.func3, Tryd.ntmps3
    go_wp2_with fail
    refine Hbig.out.mono ?_
    rintro e w ⟨rfl, rfl⟩
    go_wp2
    go_ret
    exact ⟨rfl, Below.refl _ _⟩
  rw [decide_eq_false hbig] at Hbig
  have Hd := hide (drawStateRoot_any w _ cd hr (by omega))
  have Hgl := hide hgl
  clear hr hgl
  go_enter Tryd.func3, Tryd.ntmps3
  go_wp2_with fail
  refine Hbig.out.mono ?_
  rintro e w ⟨rfl, rfl⟩
  go_wp2_with fail
  refine Hd.out.mono ?_
  rintro en w2 ⟨ep, v, l, rfl, hr2, hl6, hsm6, hB2⟩
  obtain ⟨av, cv, rfl⟩ := hr2.shape
  simp only [lgV]
  have hall : ∀ a ∈ l, a.1.size ≤ maxLen ∧ a.2.2.2.2.length ≤ 4000000 := fun a ha => by have := hsm6 a ha; unfold maxLen; omega
  obtain ⟨w3, hw3⟩ : ∃ x, w2.alloc (.cells #[.int .i64 ep, .slice av l.length cv] 26) = x := ⟨_, rfl⟩
  have hb3 : Below w2.heap.size w2 w3 := by rw [← hw3]; exact (Below.refl _ w2).alloc (Nat.le_refl _) _
  have k3 : Blk w3 w2.heap.size 26 [.int .i64 ep, .slice av l.length cv] := by rw [← hw3]; exact Blk.new w2 _ _
  have hB3 := hB2.trans (hb3.mono hB2.size)
  have hg3 := Hgl.out.below hB3 (Nat.le_refl _)
  have hr3 := hr2.below hb3 (Nat.le_refl _)
  have HSR := hide (implStateRoot_any ep _ l w3 hr3 (by omega) hall hg3)
  have HLO := hide (fun V (hV : Below w3.heap.size w3 V) => specLedgerOk_any ep (.slice av l.length cv) l V (hr3.below hV (Nat.le_refl _)) (by omega) hall)
  have HLI := hide (fun V (hV : Below w3.heap.size w3 V) => implLedgerOk_any ep (.slice av l.length cv) l V (hr3.below hV (Nat.le_refl _)) (by omega) hall)
  simp only [lgV] at HSR HLO HLI
  have c0 := k3.cell 0
  have c1 := k3.cell 1
  simp only [List.getElem?_cons_zero, List.getElem?_cons_succ] at c0 c1
  have K3 := hide k3
  have HB3 := hide hB3
  have Hg3 := hide hg3
  have Hr3 := hide hr3
  clear k3 hB3 hb3 hg3 hr3 hr2 hB2
  cases hx : lgB ep l
  · have hX : srB ep l = ⟨#[]⟩ := by unfold srB; rw [hx, if_neg (by simp)]; rfl
    rw [hX] at HSR
    rw [hx] at HLO HLI
    clear hx hX
    go_wp2_with fail
    refine HSR.out.mono ?_
    rintro en w4 ⟨rfl, hb4⟩
    have k4 := K3.out.below hb4 K3.out.lt
    have d0 := k4.cell 0
    have d1 := k4.cell 1
    simp only [List.getElem?_cons_zero, List.getElem?_cons_succ] at d0 d1
    clear c0 c1 hw3
    go_wp2_with fail
    refine (HLO.out w4 hb4).mono ?_
    rintro en w5 ⟨rfl, hb5⟩
    have hb35 := hb4.trans (hb5.mono hb4.size)
    have k5 := k4.below hb5 k4.lt
    have e0 := k5.cell 0
    have e1 := k5.cell 1
    simp only [List.getElem?_cons_zero, List.getElem?_cons_succ] at e0 e1
    clear d0 d1
    go_wp2_with fail
    refine (HLI.out w5 hb35).mono ?_
    rintro en w6 ⟨rfl, hb6⟩
    have HB6 := hide ((HB3.out.trans (hb35.mono HB3.out.size)).trans (hb6.mono (by have := HB3.out.size; have := hb35.size; omega)))
    clear e0 e1 k4 k5
    go_wp2
    go_ret
    exact ⟨rfl, HB6.out⟩
  · have hX : srB ep l = rootB (l.map acT) := by unfold srB; rw [hx, if_pos rfl, if_neg (by simp; omega)]
    have hsm := lg_small hx
    rw [hX] at HSR
    rw [hx] at HLO HLI
    clear hx hX HLI
    have hTs := acT_all hsm
    have hXs := rootB_size (l.map acT)
    have HT : Hid (∀ j (hj : j < (l.map acT).length), checkB (l.map acT)[j] (j : Int) ((l.map acT).length : Int) (pathB (l.map acT) j) (rootB (l.map acT)) = true) := hide (fun j hj => check_rightS _ j hj (by simp; omega))
    generalize rootB (l.map acT) = X at HSR HT hXs
    have hxs : ((X.size : Int) == 32) = true := by rw [beq_iff_eq]; omega
    go_wp2_with fail
    refine HSR.out.mono ?_
    rintro en w4 ⟨rfl, hb4⟩
    have k4 := K3.out.below hb4 K3.out.lt
    have d0 := k4.cell 0
    have d1 := k4.cell 1
    simp only [List.getElem?_cons_zero, List.getElem?_cons_succ] at d0 d1
    clear c0 c1 hw3
    go_wp2_with fail
    refine (HLO.out w4 hb4).mono ?_
    rintro en w5 ⟨rfl, hb5⟩
    have hb35 := hb4.trans (hb5.mono hb4.size)
    have K5 := hide (k4.below hb5 k4.lt)
    have Hr5 := hide (Hr3.out.below hb35 (Nat.le_refl _))
    have hB5 := HB3.out.trans (hb35.mono HB3.out.size)
    have Hg5 := hide (Hg3.out.below hb35 (Nat.le_refl _))
    have HB5 := hide hB5
    clear d0 d1 k4 hb4 hb5 hb35 hB5 HLO HSR K3 HB3 Hg3 Hr3
    obtain ⟨w6, hw6⟩ : ∃ x, w5.alloc (.cells #[] 9) = x := ⟨_, rfl⟩
    have b6 : Below w5.heap.size w5 w6 := by rw [← hw6]; exact (Below.refl _ w5).alloc (Nat.le_refl _) _
    have h6 : OwnS w5.heap.size w6 (.slice (some ⟨w5.heap.size, 0, none⟩) 0 0) [] := by rw [← hw6]; exact own_nilS w5 _ (Nat.le_refl _)
    go_wp2
    go_loopw [5, 6] (fun tv iv wr => ∃ i : Nat, i ≤ l.length ∧ iv = .int .i64 (i : Int) ∧ OwnS w5.heap.size wr tv ((l.take i).map acT) ∧ Below w5.heap.size w5 wr) (fun _ iv _ => l.length - (intOf iv).toNat)
    case atStart => exact ⟨0, by omega, rfl, by rw [List.take_zero]; exact h6, b6⟩
    case round =>
      obtain ⟨i, hi, rfl, ho, hb⟩ := hrel
      clear h6 hw6 b6
      obtain ⟨wo, rfl⟩ : ∃ x, x = wr := ⟨_, rfl⟩
      have hwo := hb.size
      have kr := K5.out.below hb K5.out.lt
      have c0 := kr.cell 0
      have c1 := kr.cell 1
      simp only [List.getElem?_cons_zero, List.getElem?_cons_succ] at c0 c1
      by_cases hlt : i < l.length
      · obtain ⟨b, off, lv, rfl, hc1, hc2, hbw, hA, hL⟩ := Hr5.out.at6 hlt
        have hA' := hA.below hb hbw
        have hL' := hL.below hb (Nat.le_refl _)
        have sm := hsm l[i] (List.getElem_mem _)
        have Hsn := hide (acT_snoc l i hlt)
        have htl : ((l.take i).map acT).length ≤ 4000000 := by simp; omega
        have HaT : Hid (acT l[i] = ⟨(acP l[i]).toArray⟩) := hide rfl
        generalize (l.take i).map acT = pre at ho Hsn htl
        generalize l[i] = A at hA' hL' sm Hsn HaT
        obtain ⟨nm, fr, no, st, ls⟩ := A
        obtain ⟨q0, q1, q2, q3, q4⟩ := hA'
        obtain ⟨bnm, blv, b1, b2, b3, b4⟩ := sm
        simp only at q0 q1 q2 q3 q4 bnm blv b1 b2 b3 b4
        obtain ⟨al, cl, rfl⟩ := hL'.shape
        have hli : (i : Int) < (l.length : Int) := by omega
        obtain ⟨w7, hw7⟩ : ∃ x, wo.alloc (.cells #[.string nm, .int .i64 fr, .int .i64 no, .int .i64 st, .slice al ls.length cl] 33) = x := ⟨_, rfl⟩
        have HS7 : Hid (w7.heap.size = wo.heap.size + 1) := hide (by rw [← hw7]; simp)
        have hlt7 : wo.heap.size < w7.heap.size := by rw [HS7.out]; omega
        have hb7 : Below wo.heap.size wo w7 := by rw [← hw7]; exact (Below.refl _ wo).alloc (Nat.le_refl _) _
        have k7 : Blk w7 wo.heap.size 33 [.string nm, .int .i64 fr, .int .i64 no, .int .i64 st, .slice al ls.length cl] := by rw [← hw7]; exact Blk.new wo _ _
        have HS : Hid (∀ V, Below w7.heap.size w7 V → (V.cell? ⟨wo.heap.size, 0, none⟩ = some (.string nm) ∧ V.cell? ⟨wo.heap.size, 1, none⟩ = some (.int .i64 fr) ∧ V.cell? ⟨wo.heap.size, 2, none⟩ = some (.int .i64 no) ∧ V.cell? ⟨wo.heap.size, 3, none⟩ = some (.int .i64 st) ∧ V.cell? ⟨wo.heap.size, 4, none⟩ = some (.slice al ls.length cl))) := hide (fun V hb => ⟨(k7.below hb k7.lt).cell 0, (k7.below hb k7.lt).cell 1, (k7.below hb k7.lt).cell 2, (k7.below hb k7.lt).cell 3, (k7.below hb k7.lt).cell 4⟩)
        have bD : Below w7.heap.size w7 w7.drew := (Below.refl _ w7).drew
        have lT := textB_len nm
        have l1 := numB_len fr
        have l2 := numB_len no
        have l3 := numB_len st
        have l4 := numB_len (ls.length : Int)
        have bn : -9223372036854775808 ≤ (ls.length : Int) ∧ (ls.length : Int) ≤ 9223372036854775807 := by omega
        have Hb4 := hide b4
        have Hb7 := hide hb7
        have HrL := hide hL'
        have K7 := hide k7
        have hHl := acHd_len nm fr no st (ls.length : Int)
        have Ho := hide ho
        have Hb := hide hb
        clear b4 hb7 hL' k7 hA hL ho hb kr
        have bE : Below w7.heap.size w7 (w7.alloc (.cells #[] 5)).drew := ((Below.refl _ w7).alloc (Nat.le_refl _) _).drew
        have HPT : Hid (∀ V v, RdB V v [] → Calls Tryd.prog 10 #[v, .string nm] V fun e w' => ∃ v', e = .returned v' ∧ OwnB V.heap.size w' v' (textB nm) ∧ Below V.heap.size V w') := hide (fun V v h => implPutText_any v [] nm V h (by simp) (by omega))
        have HPN : Hid (∀ V v l (n : Int), RdB V v l → l.length ≤ 40000000 → (-9223372036854775808 ≤ n ∧ n ≤ 9223372036854775807) → Calls Tryd.prog 9 #[v, .int .i64 n] V fun e w' => ∃ v', e = .returned v' ∧ OwnB V.heap.size w' v' (l ++ numB n) ∧ Below V.heap.size V w') := hide (fun V v l n h h1 h2 => implPutNum_any v l n V h h1 h2.1 h2.2)
        go_wp2
        clear hw7 q0 q1 q2 q3 q4 c0 c1
        go_region_held_law (fun w' => w'.cell? ⟨wo.heap.size, 0, none⟩ = some (.string nm) ∧ w'.cell? ⟨wo.heap.size, 1, none⟩ = some (.int .i64 fr) ∧ w'.cell? ⟨wo.heap.size, 2, none⟩ = some (.int .i64 no) ∧ w'.cell? ⟨wo.heap.size, 3, none⟩ = some (.int .i64 st) ∧ w'.cell? ⟨wo.heap.size, 4, none⟩ = some (.slice al ls.length cl)) ((refine HS.out _ ?_; repeat (first | with_reducible exact bD | with_reducible exact bE | with_reducible exact c5 | with_reducible exact c4 | with_reducible exact c3 | with_reducible exact c2 | with_reducible exact c1 | with_reducible exact Below.refl _ _ | refine Below.drew ?_ | refine Below.alloc ?_ (by first | omega | (simp; done) | (simp; omega) | (dsimp only; omega)) _))) ((first
          | (go_at_call 9; refine (HPN.out u4 v4 _ (ls.length : Int) o4.rd (by simp only [List.length_append]; omega) bn).mono ?_; rintro e u5 ⟨v5, rfl, o5, hb5⟩; have c5 := c4.trans (hb5.mono c4.size))
          | (go_at_call 9; refine (HPN.out u3 v3 _ st o3.rd (by simp only [List.length_append]; omega) b3).mono ?_; rintro e u4 ⟨v4, rfl, o4, hb4⟩; have c4 := c3.trans (hb4.mono c3.size))
          | (go_at_call 9; refine (HPN.out u2 v2 _ no o2.rd (by simp only [List.length_append]; omega) b2).mono ?_; rintro e u3 ⟨v3, rfl, o3, hb3⟩; have c3 := c2.trans (hb3.mono c2.size))
          | (go_at_call 9; refine (HPN.out u1 v1 _ fr o1.rd (by omega) b1).mono ?_; rintro e u2 ⟨v2, rfl, o2, hb2⟩; have c2 := c1.trans (hb2.mono c1.size))
          | (go_at_call 10; with_reducible refine (HPT.out (w7.alloc (.cells #[] 5)).drew _ (rd6_some _ _ _)).mono ?_; rintro e u1 ⟨v1, rfl, o1, hb1⟩; have c1 := bE.trans (hb1.mono bE.size))))
        rw [acHd_eq nm fr no st (ls.length : Int) ls] at o5
        have O5 := hide (OwnB.mono o5 (show wo.heap.size ≤ u4.heap.size from Nat.le_trans Hb7.out.size c4.size))
        have C5 := hide c5
        have d4 := (K7.out.below c5 K7.out.lt).cell 4
        simp only [List.getElem?_cons_zero, List.getElem?_cons_succ] at d4
        clear o1 o2 o3 o4 o5 hb1 hb2 hb3 hb4 hb5 c1 c2 c3 c4 c5 HS bD bE HPT b1 b2 b3 bn
        go_wp2
        clear d4
        go_loopw [8, 9] (fun bv kv wr => ∃ k : Nat, k ≤ ls.length ∧ kv = .int .i64 (k : Int) ∧ OwnB wo.heap.size wr bv (acHd nm fr no st (ls.length : Int) ++ lvsP (ls.take k)) ∧ Below w7.heap.size w7 wr) (fun _ kv _ => ls.length - (intOf kv).toNat)
        case atStart => exact ⟨0, by omega, rfl, O5.out, C5.out⟩
        case round =>
          obtain ⟨k, hk, rfl, ho, hb⟩ := hrel
          have kr := K7.out.below hb K7.out.lt
          have d4 := kr.cell 4
          simp only [List.getElem?_cons_zero, List.getElem?_cons_succ] at d4
          have hwr := hb.size
          by_cases hlk : k < ls.length
          · obtain ⟨bl, ol, rfl, hk1, hk2, hkw, e0, e1⟩ := HrL.out.at hlk
            have hbw2 : bl < w7.heap.size := by omega
            have hB := Hb7.out.trans (hb.mono Hb7.out.size)
            have f0 := (hB.cell (p := ⟨bl, ol + k * 2, none⟩) hkw).trans e0
            have f1 := (hB.cell (p := ⟨bl, ol + k * 2 + 1, none⟩) hkw).trans e1
            have hbd := Hb4.out ls[k] (List.getElem_mem _)
            have Hsk := hide (lvsP_snoc ls k hlk)
            have hTl := lvsP_take_len ls k
            generalize ls[k] = x at f0 f1 e0 e1 Hsk hbd
            obtain ⟨xa, xt⟩ := x
            simp only at f0 f1 hbd Hsk
            have hlki : (k : Int) < (ls.length : Int) := by omega
            have lx := numB_len xa
            have HS5 : Hid (∀ V, Below wr.heap.size wr V → (V.cell? ⟨wo.heap.size, 4, none⟩ = some (.slice (some ⟨bl, ol, none⟩) ls.length cl) ∧ V.cell? ⟨bl, ol + k * 2, none⟩ = some (.int .i64 xa) ∧ V.cell? ⟨bl, ol + k * 2 + 1, none⟩ = some (.int .i64 xt))) := hide (fun V hv => ⟨(kr.below hv kr.lt).cell 4, (hv.cell (p := ⟨bl, ol + k * 2, none⟩) (show bl < wr.heap.size by omega)).trans f0, (hv.cell (p := ⟨bl, ol + k * 2 + 1, none⟩) (show bl < wr.heap.size by omega)).trans f1⟩)
            have cD : Below wr.heap.size wr wr.drew := (Below.refl _ wr).drew
            have oD := ho.rd.below cD (Nat.le_refl _)
            generalize lvsP (ls.take k) = pr at ho oD Hsk hTl
            generalize acHd nm fr no st (ls.length : Int) = hd at ho oD hHl
            have Hbk := hide hb
            clear O5 C5 e0 e1 ho hb kr f0 f1
            go_wp2
            go_region_held_law (fun w' => w'.cell? ⟨wo.heap.size, 4, none⟩ = some (.slice (some ⟨bl, ol, none⟩) ls.length cl) ∧ w'.cell? ⟨bl, ol + k * 2, none⟩ = some (.int .i64 xa) ∧ w'.cell? ⟨bl, ol + k * 2 + 1, none⟩ = some (.int .i64 xt)) ((refine HS5.out _ ?_; repeat (first | with_reducible exact cD | with_reducible exact c7 | with_reducible exact c6 | with_reducible exact Below.refl _ _ | refine Below.drew ?_))) ((first
              | (go_at_call 9; refine (HPN.out u6 v6 _ xt o6.rd (by simp only [List.length_append]; omega) hbd.2).mono ?_; rintro e u7 ⟨v7, rfl, o7, hb7⟩; have c7 := c6.trans (hb7.mono c6.size))
              | (go_at_call 9; refine (HPN.out wr.drew _ _ xa oD (by simp only [List.length_append]; omega) hbd.1).mono ?_; rintro e u6 ⟨v6, rfl, o6, hb6⟩; have c6 := cD.trans (hb6.mono cD.size))))
            have O7 := hide (OwnB.mono o7 (show wo.heap.size ≤ u6.heap.size from by have := c6.size; omega))
            have C7 := hide (Hbk.out.trans (c7.mono hwr))
            clear o6 o7 hb6 hb7 c6 c7 HS5 cD oD d4
            go_wp2
            go_roundw
            case rel => exact ⟨k + 1, by omega, by go_num, by rw [Hsk.out, ← List.append_assoc, ← List.append_assoc]; exact O7.out, C7.out⟩
            case measure => simp [intOf]; omega
          · have ek : k = ls.length := by omega
            subst ek
            rw [List.take_length] at ho
            have hcv := str_own _ _ _ ho.rd (own_some ho (acHd_pos _ _ _ _ _ _))
            have hbo : Below wo.heap.size wo wr := Hb7.out.trans (hb.mono Hb7.out.size)
            have o8 := Ho.out.below hbo (Nat.le_refl _)
            have HB8 := hide (Hb.out.trans (hbo.mono hwo))
            have Hac : Hid (acP (nm, fr, no, st, ls) = acHd nm fr no st (ls.length : Int) ++ lvsP ls) := hide rfl
            generalize acHd nm fr no st (ls.length : Int) ++ lvsP ls = T at ho hcv Hac
            have HT2 : Hid (acT (nm, fr, no, st, ls) = ⟨T.toArray⟩) := hide (by rw [HaT.out, Hac.out])
            clear ho hb kr O5 C5
            rw [HT2.out] at Hsn
            go_wp2_with (at_builtin; refine app_ownS _ rfl _ _ rfl w5.heap.size _ _ pre [⟨T.toArray⟩] rfl rfl (o8.alloc _) (rd6_one _ _ ⟨T.toArray⟩ (by simp) (c6_at rfl rfl)) (by simp; omega) (by first | omega | (simp; omega)) ?_; intro v1 w9 ho1 hb9)
            have HB := hide ((HB8.out.alloc (by omega) (.cells #[.string ⟨T.toArray⟩] 9)).trans hb9)
            go_roundw
            case rel => exact ⟨i + 1, by omega, by go_num, by rw [Hsn.out]; exact ho1, HB.out⟩
            case measure => simp [intOf]; omega
      · have ei : i = l.length := by omega
        subst ei
        rw [List.take_length] at ho
        have Hro := hide ho.rd
        obtain ⟨av5, cv5, rfl⟩ := ho.rd.shape
        have hln : (l.map acT).length = l.length := by simp
        generalize l.map acT = TS at ho Hro hTs HT hln ⊢
        rw [hln]
        have HBo := hide (HB5.out.trans (hb.mono HB5.out.size))
        have Hgo := hide (Hg5.out.below hb (Nat.le_refl _))
        clear ho hb kr
        go_wp2
        clear c0 c1
        go_loopw [10] (fun jv wr => ∃ j : Nat, j ≤ TS.length ∧ jv = .int .i64 (j : Int) ∧ Below wo.heap.size wo wr) (fun jv _ => TS.length - (intOf jv).toNat)
        case atStart => exact ⟨0, by omega, rfl, Below.refl _ _⟩
        case round =>
          obtain ⟨j, hj, rfl, hb⟩ := hrel
          have hwr := hb.size
          by_cases hlj : j < TS.length
          · obtain ⟨bt, ot, ct, et, ht1, ht2, htw, htc⟩ := Hro.out.atS hlj
            simp only [Value.slice.injEq, true_and] at et
            obtain ⟨rfl, rfl⟩ := et
            have hlji : (j : Int) < (l.length : Int) := by omega
            have hck := HT.out j hlj
            have hpe : pathOfB TS (j : Int) = pathB TS j := by unfold pathOfB; rw [if_pos (by omega), Int.toNat_natCast]
            have hPl := pathB_len TS.length TS j (Nat.le_refl _)
            have hPs := pathB_szS TS.length TS j (Nat.le_refl _)
            have hss := hTs TS[j] (List.getElem_mem _)
            have HP := hide (implPathOf_any TS (j : Int) (.slice (some ⟨bt, ot, none⟩) TS.length cv5) wr.drew (by omega) (by omega) (by omega) ((Hro.out.below hb (Nat.le_refl _)).below (Below.refl _ wr).drew (Nat.le_refl _)) hTs ((Hgo.out.below hb (Nat.le_refl _)).below (Below.refl _ wr).drew (Nat.le_refl _)))
            rw [hpe, hln] at HP
            generalize pathB TS j = P at HP hck hPl hPs
            have hPs1 : ∀ s ∈ P, s.size ≤ 1500000 := fun s hs => by have := hPs s hs; omega
            have C1 := hide (fun v w h hg => implCheck_any TS[j] (j : Int) (TS.length : Int) P X v w (by omega) (by omega) (by omega) (by omega) (by omega) (by omega) h hPs1 hg)
            rw [hck, hln] at C1
            have s0 := (hb.cell (p := ⟨bt, ot + j, none⟩) htw).trans htc
            generalize TS[j] = sx at s0 htc C1 hss
            have HSj : Hid (∀ V, Below wr.heap.size wr V → V.cell? ⟨bt, ot + j, none⟩ = some (.string sx)) := hide (fun V hv => (hv.cell (p := ⟨bt, ot + j, none⟩) (show bt < wr.heap.size by omega)).trans s0)
            have cD : Below wr.heap.size wr wr.drew := (Below.refl _ wr).drew
            have HgD := hide ((Hgo.out.below hb (Nat.le_refl _)).below cD (Nat.le_refl _))
            have Hb := hide hb
            clear hck hpe hPs hPs1 s0 htc hb
            go_wp2
            go_region_held_law (fun w' => w'.cell? ⟨bt, ot + j, none⟩ = some (.string sx)) ((refine HSj.out _ ?_; repeat (first | with_reducible exact cD | with_reducible exact c2 | with_reducible exact c1 | with_reducible exact Below.refl _ _ | refine Below.drew ?_))) ((first
              | (go_at_call 11; refine (C1.out v1 u1 o1.rd (HgD.out.below hb1 (Nat.le_refl _))).mono ?_; rintro e u2 ⟨rfl, hb2⟩; have c2 := c1.trans (hb2.mono c1.size))
              | (go_at_call 12; refine HP.out.mono ?_; rintro e u1 ⟨v1, rfl, o1, hb1⟩; have c1 := cD.trans (hb1.mono cD.size))))
            have C2 := hide (Hb.out.trans (c2.mono hwr))
            clear c1 c2 hb1 hb2 o1 cD
            go_wp2
            go_roundw
            case rel => exact ⟨j + 1, by omega, by go_num, C2.out⟩
            case measure => simp [intOf]; omega
          · have HBe := hide (HBo.out.trans (hb.mono HBo.out.size))
            clear hb
            go_wp2
            go_ret
            exact ⟨rfl, HBe.out⟩

theorem fnStateRoots_doorMet (os : Os) (args : Array Value) : laidMetH Tryd.prog Rows.fnStateRootsRow.laid ((World.doorLaid Tryd.prog 400 os).forCall (fun _ _ => 0) ⟨#[], args, []⟩).memory :=
  laidMetH_of_parts3 (fuel := 8) (laidMet_of_run' 8 (by kernel_rfl) (by kernel_rfl)) (by kernel_rfl) (by kernel_rfl)
theorem fnStateRoots_gl {W : World} (h : laidMetH Tryd.prog Rows.fnStateRootsRow.laid W) : Gl W := by
  rw [MakeChecks.laidMetH_plain _ _ _ (by kernel_rfl)] at h
  exact gl_of_reads (Lib.laidMet.reads h (.head _)) (Lib.laidMet.reads h (.tail _ (.head _)))

set_option maxRecDepth 100000 in
theorem fnStateRoots_lifted (os : Os) (started : os.Started) (H : Type) (enc : TypeId × Value → H) :
    ReturnsInHanded {} Tryd.checked os 3 .any (fun w args => (Rows.fnStateRootsSpec.pre enc Tryd.prog Tryd.f3 [] false w args ∧ laidMetH Tryd.prog Rows.fnStateRootsRow.laid w) ∧ sizedMet enc Tryd.prog Tryd.f3 (OpenSpec.ofChange Rows.fnStateRootsSpec) false w args)
      (Rows.fnStateRootsSpec.post enc Tryd.prog Tryd.f3 false true false false) := by
  refine returnsInHanded_of_change_and (C := Tryd.checked) (X := fun w _ => laidMetH Tryd.prog Rows.fnStateRootsRow.laid w) (fun _ _ _ hh h => h.of_heap hh) fnStateRoots_own started (by kernel_rfl) Tryd.func3
    (ChangeSpec.witness_shaped (enc := enc) (C := Tryd.checked) (os := os) (X := fun w _ => laidMetH Tryd.prog Rows.fnStateRootsRow.laid w) false (World.doorLaid Tryd.prog 400 os) #[.slice none 0 0] 8 rfl (World.shaped_of_RefB (by kernel_rfl) (by kernel_rfl)) (by kernel_rfl) (by kernel_rfl) (by kernel_rfl) (fnStateRoots_doorMet os _)) ?_
  intro W base args ds gs before hval0 hW _ _ hL _
  have hval : ∀ (j : Nat) t v, Tryd.f3.params[j]? = some t → args[j]? = some v → Value.okWide Tryd.prog W .any base t v := hval0
  have hW' := hW
  obtain ⟨p, q, hA0, hV, rfl, hfz, hnd⟩ := hW
  have hV2 := hV
  obtain ⟨_, _, _, _, _, _, _, _, _, _, _, _, rfl, _, _, _, _, _, _, _, _, _⟩ := trodVars_two hV
  have hA : DataW.TrodAll enc Tryd.prog W 0 (fun _ => true) true Tryd.f3.params.toList args.toList ds p := hA0
  rw [Tryd.params3] at hA hval
  obtain ⟨v0, vs0, d0, ds0, p0, q0, hargs, rfl, rfl, h0, r0⟩ := trodAll_cons hA
  obtain ⟨rfl, rfl, rfl⟩ := trodAll_nil r0
  obtain rfl : args = #[v0] := by cases args; simp_all
  obtain ⟨a0, len0, cap0, rfl⟩ := okWide_slice Tryd.underlying22 (hval 0 22 v0 rfl rfl)
  have k0 := h0
  have lt0 : ∀ x ∈ p0, x.block < W.heap.size := by obtain ⟨m, hm⟩ := k0; exact DataW.trod_lt m _ _ _ hm
  obtain ⟨z0, w0⟩ : ∃ zs, IsRow .u8 W a0 len0 cap0 zs := by
    obtain ⟨fuel, hf⟩ := h0
    rcases open_ints Tryd.underlying22 Tryd.underlying5 (by kernel_rfl) hf with ⟨hcs, _⟩ | ⟨x, l, c, zs, hcs, _, hl, hm, hz, _, hcell, hwz⟩
    · simp [Value.cells] at hcs
      obtain ⟨rfl, rfl, rfl⟩ := hcs
      exact ⟨[], .inl ⟨rfl, rfl, rfl, rfl⟩⟩
    · simp [Value.cells] at hcs
      obtain ⟨rfl, rfl, rfl⟩ := hcs
      exact ⟨zs, .inr ⟨_, rfl, hl, hm, by simpa using hz, hcell, hwz⟩⟩
  clear hA0 hval0
  refine (fnStateRoots_walk a0 len0 cap0 z0 W (fnStateRoots_gl hL) w0).mono fun e W' ⟨he, bel⟩ => ?_
  subst he
  exact ⟨_, rfl, _, _, _, [], _, _, hW', trodAll_mk1 (shut_bool Tryd.underlying4 _), (trodAll_cons_mk (Below.trod fnStateRoots_laidOut (by kernel_rfl) (of_decide_eq_true (by kernel_rfl)) k0 bel lt0) trodAll_mk0), Below.trodVars fnStateRoots_laidOut bel (by kernel_rfl) hV2, bel.frame _, fun h => by cases h⟩

theorem fnStateRoots_holds : Rows.FnStateRootsSaid :=
  OpenClaim.holds_of_wide 3 Tryd.f3 rfl rfl rfl rfl rfl rfl rfl ⟨rfl, rfl, rfl, rfl, rfl⟩ rfl rfl rfl rfl rfl (by kernel_rfl) Tryd.func3 (by kernel_rfl)
    (of_decide_eq_true (by kernel_rfl)) (by unfold Func.isWrapper; first | (rw [if_pos (by decide +kernel)]; kernel_rfl) | (rw [if_neg (by decide +kernel)]; exact ⟨rfl, rfl⟩))
    (fun os started H enc _ => fnStateRoots_lifted os started H enc)

/-- The card: the two variables are tied to the program's text by the given tie. -/
theorem fnStateRoots_card : Rows.FnStateRootsCardSaid :=
  Claim7.holds_tied_plain_at .later [] [.data, .data] true Rows.fnStateRootsCard.stood.harness false
    fnStateRoots_holds (fun _ h => by cases h) (by kernel_rfl) (fun _ h => by cases h) fnStateRoots_row_tie rfl ⟨rfl, rfl⟩ (by kernel_rfl) rfl
    (fun f fn hf hfn => by
      obtain rfl : f = 3 := Option.some.inj ((show Tryd.prog.funcNamed Rows.fnStateRootsRow.func = some 3 by kernel_rfl).symm.trans hf) |>.symm
      obtain rfl : fn = Tryd.f3 := (Option.some.inj (Tryd.func3.symm.trans hfn)).symm
      exact ⟨by kernel_rfl, fun j t ht => by
        rw [Tryd.params3] at ht
        have hm : t ∈ [22] := by simpa using Array.mem_of_getElem? ht
        have hall : ([22].all fun u => !Tryd.prog.wantsStandIn u) = true := by kernel_rfl
        exact (show Tryd.prog.wantsStandIn t = false by simpa using List.all_eq_true.1 hall t hm)⟩)
    (by kernel_rfl)

end Go.Proofs.YtdelegamcebflaaDoor
