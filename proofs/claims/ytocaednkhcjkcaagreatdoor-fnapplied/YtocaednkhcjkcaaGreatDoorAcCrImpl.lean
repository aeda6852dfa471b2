/- The landed code's Credit. -/
import Derived.Test.YtocaednkhcjkcaaGreatDoorAcGive
namespace Go.Proofs.YtocaednkhcjkcaaGreatDoor
open Go.RowKit Go.Maps
set_option linter.unusedVariables false

theorem crA_good {l : List Ac} {s : ByteArray} {n : Int} (h : (acsB l && nmB s && inB n 0 1000000) = true) : crA l s n = (leftA l (insA (aftA l s n) l), acsB (insA (aftA l s n) l)) := by
  cases h' : acsB (insA (aftA l s n) l)
  · rw [crA_bad h h', leftA_no h']
  · rw [crA_yes h h', leftA_yes h']
theorem acs_len {l : List Ac} (h : acsB l = true) : l.length ≤ 12 := by
  unfold acsB at h
  simp only [Bool.and_eq_true, decide_eq_true_eq] at h
  exact h.2.1
theorem insA_mem (q : Ac) : ∀ (Z : List Ac) (p : Ac), p ∈ insA q Z → p = q ∨ p ∈ Z
  | [], p, h => by simp [insA] at h; exact .inl h
  | x :: t, p, h => by
    unfold insA at h
    split at h
    · rcases List.mem_cons.1 h with rfl | h
      · exact .inr List.mem_cons_self
      · rcases insA_mem q t p h with h | h
        · exact .inl h
        · exact .inr (List.mem_cons_of_mem _ h)
    · split at h
      · rcases List.mem_cons.1 h with rfl | h
        · exact .inl rfl
        · exact .inr (List.mem_cons_of_mem _ h)
      · rcases List.mem_cons.1 h with rfl | h
        · exact .inl rfl
        · exact .inr h
theorem insA_len (q : Ac) : ∀ Z : List Ac, (insA q Z).length ≤ Z.length + 1
  | [] => by simp [insA]
  | x :: t => by
    have := insA_len q t
    unfold insA
    split
    · simp; omega
    · split <;> simp
theorem aftA_name (l : List Ac) (s : ByteArray) (n : Int) : (aftA l s n).1 = s := by
  unfold aftA
  cases getA s l <;> rfl
theorem leftA_len (l : List Ac) (s : ByteArray) (n : Int) : (leftA l (insA (aftA l s n) l)).length ≤ l.length + 1 := by
  unfold leftA
  split
  · exact insA_len _ _
  · omega
theorem leftA_mem {l : List Ac} {s : ByteArray} {n : Int} {p : Ac} (h : p ∈ leftA l (insA (aftA l s n) l)) : p.1 = s ∨ p ∈ l := by
  unfold leftA at h
  split at h
  · rcases insA_mem _ _ _ h with rfl | h
    · exact .inl (aftA_name l s n)
    · exact .inr h
  · exact .inr h

set_option maxRecDepth 20000 in
set_option maxHeartbeats 2000000 in
theorem implCredit_any (v : Value) (l : List Ac) (s : ByteArray) (n : Int) (w : World) (hr : RdA w v l) (hl : l.length ≤ 3999999) (hall : ∀ a ∈ l, a.1.size ≤ maxLen ∧ a.2.2.2.2.length ≤ 4000000) (hs : s.size ≤ maxLen) :
    Calls Tryz.prog 113 #[v, .string s, .int .i64 n] w fun e w' => ∃ v', e = .returned (.tuple #[v', .bool (crA l s n).2]) ∧ OwnA w.heap.size w' v' (crA l s n).1 ∧ Below w.heap.size w w' := by
  have hall2 : ∀ a ∈ l, a.2.2.2.2.length ≤ 4000000 := fun a ha => (hall a ha).2
  have HOk := hide (implAcctsOk_any v l w hr (by omega) hall)
  have HC := hide (fun w h => implCopiedS_any v l w h (by omega) hall2)
  have Hr := hide hr
  have Hall := hide hall
  clear hr hall hall2
  cases h1 : acsB l
  · have Hcr := hide (crA_no (l := l) (s := s) (n := n) (by rw [h1]; rfl))
    rw [h1] at HOk
    clear h1
    rw [Hcr.out]
    go_enter Tryz.func113, Tryz.ntmps113
    go_wp2_with fail
    refine HOk.out.mono ?_
    rintro e w1 ⟨rfl, hb1⟩
    go_wp2_with fail
    refine (HC.out _ (Hr.out.below hb1 (Nat.le_refl _))).mono ?_
    rintro e w2 ⟨v2, rfl, ho2, hb2⟩
    have Ho2 := hide (OwnA.mono ho2 hb1.size)
    have HB := hide (hb1.trans (hb2.mono hb1.size))
    clear ho2 hb1 hb2
    go_wp2
    go_ret2
    exact ⟨v2, rfl, Ho2.out, HB.out⟩
  · rw [h1] at HOk
    cases h2 : nmB s
    · have Hcr := hide (crA_no (l := l) (s := s) (n := n) (by rw [h1, h2]; rfl))
      clear h1
      rw [Hcr.out]
      go_enter Tryz.func113, Tryz.ntmps113
      go_wp2_with fail
      refine HOk.out.mono ?_
      rintro e w1 ⟨rfl, hb1⟩
      go_wp2_with fail
      refine (implNameOk_any s _ hs).mono ?_
      rintro e w1 ⟨rfl, rfl⟩
      rw [h2]
      go_wp2_with fail
      refine (HC.out _ (Hr.out.below hb1 (Nat.le_refl _))).mono ?_
      rintro e w2 ⟨v2, rfl, ho2, hb2⟩
      have Ho2 := hide (OwnA.mono ho2 hb1.size)
      have HB := hide (hb1.trans (hb2.mono hb1.size))
      clear ho2 hb1 hb2
      go_wp2
      go_ret2
      exact ⟨v2, rfl, Ho2.out, HB.out⟩
    · cases h3 : inB n 0 1000000
      · have Hcr := hide (crA_no (l := l) (s := s) (n := n) (by rw [h1, h2, h3]; rfl))
        clear h1
        rw [Hcr.out]
        go_enter Tryz.func113, Tryz.ntmps113
        go_wp2_with fail
        refine HOk.out.mono ?_
        rintro e w1 ⟨rfl, hb1⟩
        go_wp2_with fail
        refine (implNameOk_any s _ hs).mono ?_
        rintro e w1 ⟨rfl, rfl⟩
        rw [h2]
        go_wp2_with fail
        refine (implWithin_any _ _ _ _).mono ?_
        rintro e w1 ⟨rfl, rfl⟩
        rw [h3]
        go_wp2_with fail
        refine (HC.out _ (Hr.out.below hb1 (Nat.le_refl _))).mono ?_
        rintro e w2 ⟨v2, rfl, ho2, hb2⟩
        have Ho2 := hide (OwnA.mono ho2 hb1.size)
        have HB := hide (hb1.trans (hb2.mono hb1.size))
        clear ho2 hb1 hb2
        go_wp2
        go_ret2
        exact ⟨v2, rfl, Ho2.out, HB.out⟩
      · have hasc := asc_of_ok l h1
        have hl12 := acs_len h1
        rw [crA_good (show (acsB l && nmB s && inB n 0 1000000) = true from by rw [h1, h2, h3]; rfl)]
        have HBk := hide (fun w h => bookOf_any v l w h hasc (by omega) Hall.out)
        have Hlen := hide (leftA_len l s n)
        have Hmem := hide (fun p => leftA_mem (l := l) (s := s) (n := n) (p := p))
        have Hasc := hide hasc
        clear h1 hasc HC
        go_enter Tryz.func113, Tryz.ntmps113
        go_wp2_with fail
        refine HOk.out.mono ?_
        rintro e w1 ⟨rfl, hb1⟩
        go_wp2_with fail
        refine (implNameOk_any s _ hs).mono ?_
        rintro e w1 ⟨rfl, rfl⟩
        rw [h2]
        go_wp2_with fail
        refine (implWithin_any _ _ _ _).mono ?_
        rintro e w1 ⟨rfl, rfl⟩
        rw [h3]
        go_wp2_with fail
        refine (HBk.out _ (Hr.out.below hb1 (Nat.le_refl _))).mono ?_
        rintro e w2 ⟨Z, rfl, hZ, hown2, hlv2, hb2⟩
        have hZl : Z.length = l.length := by rw [← hZ]; simp
        have HG := hide (give_any w1.heap.size l.length Z s n (w1.heap.size + 1) w2 hown2 ((asc_map Z).2 (by rw [hZ]; exact Hasc.out)) hlv2 (by omega) (by omega) (fun q hq => Hall.out q.1 (by rw [← hZ]; exact List.mem_map_of_mem hq)) hs)
        rw [hZ] at HG
        have hB2 : Below w.heap.size w w2 := hb1.trans (hb2.mono hb1.size)
        have hs1 := hb1.size
        have hs2 := hb2.size
        clear hown2 hlv2 hZ hZl hb1 hb2
        go_wp2_with fail
        refine HG.out.mono ?_
        rintro e w3 ⟨Z3, rfl, hown3, hlv3, hasc3, hZ3, hb3⟩
        have hB3 : Below w.heap.size w w3 := hB2.trans (hb3.mono hs1)
        have hlen3 : Z3.length ≤ l.length + 1 := by have := congrArg List.length hZ3; simp at this; rw [this]; exact Hlen.out
        have HLs := hide (listed_any w1.heap.size (l.length + 2) Z3 w3 hown3 hasc3 (by omega) (fun q hq => by
          have hm : q.1 ∈ Z3.map (·.1) := List.mem_map_of_mem hq
          rw [hZ3] at hm
          rcases Hmem.out _ hm with h | h
          · rw [h]; exact hs
          · exact (Hall.out _ h).1) (fun q hq => by
          obtain ⟨i, hi, e⟩ := List.mem_iff_getElem.1 hq
          obtain ⟨a'', c'', e'⟩ := (hlv3.own i hi).rd.shape
          exact ⟨a'', _, c'', by rw [← e]; exact e'⟩))
        have Hlv3 := hide hlv3
        have HZ3 := hide hZ3
        have hs3 := hb3.size
        clear hown3 hlv3 hZ3 hb3 hB2 HG
        go_wp2_with fail
        refine HLs.out.mono ?_
        rintro e w4 ⟨g, cap, rfl, hrow4, hb4⟩
        have hgw : w3.heap.size ≤ g := hrow4.ge g rfl
        have HO := hide (OwnA.of_row (hrow4.mono (show w.heap.size ≤ w3.heap.size by omega)) ((Hlv3.out.mono (show w.heap.size ≤ w1.heap.size + 1 by omega)).to hb4 hgw))
        rw [HZ3.out] at HO
        have HB4 := hide (hB3.trans (hb4.mono (by omega)))
        clear hrow4 hb4 hB3
        go_wp2
        go_ret2
        exact ⟨_, rfl, HO.out, HB4.out⟩
end Go.Proofs.YtocaednkhcjkcaaGreatDoor
