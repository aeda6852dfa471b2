/- The model's roots. -/
import Derived.Test.YtceefkpcjonljaaDoorJoin16
import Derived.Deep.RegionWith
namespace Go.Proofs.YtceefkpcjonljaaDoor
open Go.RowKit
set_option linter.unusedVariables false

set_option maxRecDepth 20000 in
set_option maxHeartbeats 2000000 in
theorem specRoot_at : ∀ (n : Nat) (l : List ByteArray) (v : Value) (w : World), l.length ≤ n → n ≤ 1000000 → RdS w v l → (∀ s ∈ l, s.size ≤ 1500000) →
    Calls Tryd.prog 23 #[v] w fun e w' => e = .returned (.string (rootB l)) ∧ Below w.heap.size w w' := by
  intro n
  induction n with
  | zero =>
    intro l v w hl hn hr hs
    have e : l = [] := List.length_eq_zero_iff.1 (by omega)
    subst e
    obtain ⟨a, cap, rfl⟩ := hr.shape
    clear hr hs
    go_enter Tryd.func23, Tryd.ntmps23
    go_wp2_with fail
    refine (specDig _ [] _ (own_nil w w.heap.size (Nat.le_refl _)).rd (by simp) noneB rfl).mono ?_
    rintro e w2 ⟨rfl, hb2⟩
    go_wp2
    go_ret
    exact ⟨by rw [rootB_nil]; rfl, ((Below.refl w.heap.size w).alloc (Nat.le_refl _) _).trans (hb2.mono (by simp))⟩
  | succ n ih =>
    intro l v w hl hn hr hs
    by_cases h0 : l.length ≤ n
    · exact ih l v w h0 (by omega) hr hs
    · by_cases h1 : l.length = 1
      · obtain ⟨s, rfl⟩ : ∃ s, l = [s] := by
          match l, h1 with
          | [s], _ => exact ⟨s, rfl⟩
        rcases hr with ⟨_, _, _, e, _⟩ | ⟨b, off, cap, _, rfl, hc1, hc2, hb, hcell⟩
        · cases e
        · have hc := hcell 0 (by simp)
          have hsz := hs s (by simp)
          simp only [Nat.add_zero, List.getElem_cons_zero] at hc
          have Hr := hide (rootB_one s)
          clear hcell hs ih
          go_enter Tryd.func23, Tryd.ntmps23
          go_wp2_with fail
          refine (specLeaf_any s _ (by omega)).mono ?_
          rintro e w2 ⟨rfl, hb2⟩
          go_wp2
          go_ret
          exact ⟨by rw [Hr.out]; rfl, hb2⟩
      · have h2 : 2 ≤ l.length := by
          by_cases hz : l.length = 0
          · omega
          · omega
        rcases hr with ⟨_, _, _, e, _⟩ | ⟨b, off, cap, _, rfl, hc1, hc2, hb, hcell⟩
        · subst e; simp at h2
        · have hst : StrAt w b off l := ⟨hb, hcell⟩
          have hh := half_lt l.length h2
          have Hr := hide (rootB_more l h2)
          obtain ⟨K, hK⟩ : ∃ K, half l.length = K := ⟨_, rfl⟩
          obtain ⟨m, hm⟩ : ∃ m, l.length = m := ⟨_, rfl⟩
          have Hhalf := hide (l3Half_any l.length w h2 (by omega))
          rw [hK] at hh Hr Hhalf
          have ht : (l.take K).length = K := by simp; omega
          have hd : (l.drop K).length = m - K := by simp [hm]
          have Ha := hide (fun w (h : StrAt w b off (l.take K)) => ih (l.take K) (.slice (some ⟨b, off, none⟩) K cap) w (by omega) (by omega) (by have := h.rd (cap := cap) (by omega) hc2; rwa [ht] at this) (fun s hsm => hs s (List.mem_of_mem_take hsm)))
          have Hb := hide (fun w (h : StrAt w b (off + K) (l.drop K)) => ih (l.drop K) (.slice (some ⟨b, off + K, none⟩) (m - K) (cap - K)) w (by omega) (by omega) (by have := h.rd (cap := cap - K) (by omega) (by omega); rwa [hd] at this) (fun s hsm => hs s (List.mem_of_mem_drop hsm)))
          have q1 := rootB_size (l.take K)
          have q2 := rootB_size (l.drop K)
          generalize hA : rootB (l.take K) = RA at Hr Ha q1
          generalize hB : rootB (l.drop K) = RB at Hr Hb q2
          rw [hm] at hh hc1 Hhalf ⊢
          have i1 : (K : Int) ≤ (cap : Int) := by omega
          have i2 : (K : Int) ≤ (m : Int) := by omega
          have i3 : K < cap := by omega
          have i4 : ¬ cap = K := by omega
          have i5 : (m : Int) ≤ (cap : Int) := by omega
          have i6 : ((m : Int) == 0) = false := by rw [beq_eq_false_iff_ne]; omega
          have i7 : ((m : Int) == 1) = false := by rw [beq_eq_false_iff_ne]; omega
          have i8 : K ≤ m := by omega
          have i9 : K ≤ cap := by omega
          have i10 : m ≤ cap := by omega
          have Hst := hide hst
          clear hcell hs ih hst hA hB hK hm ht hd h0 h1
          go_enter Tryd.func23, Tryd.ntmps23
          go_wp2_with fail
          refine Hhalf.out.mono ?_
          rintro e w ⟨rfl, rfl⟩
          go_wp2
          go_region_with (first
            | (go_at_call 23; refine (Hb.out _ ((Hst.out.drew.drop K).below hba hb)).mono ?_; rintro e wb ⟨rfl, hbb⟩)
            | (go_at_call 23; refine (Ha.out _ (Hst.out.drew.take K)).mono ?_; rintro e wa ⟨rfl, hba⟩)
            | (go_at_call 40; refine (specNode_any RA RB _ (by omega) (by omega)).mono ?_; rintro e wc ⟨rfl, hbc⟩))
          have s1 : w.heap.size ≤ wa.heap.size := hba.size
          have s2 := hbb.size
          have HB : Hid (Below w.heap.size w wc) := hide ((((Below.refl _ w).drew.trans hba).trans (hbb.mono s1)).trans (hbc.mono (Nat.le_trans s1 s2)))
          go_wp2
          go_ret
          exact ⟨by rw [Hr.out]; rfl, HB.out⟩

theorem specRoot_any (l : List ByteArray) (v : Value) (w : World) (hl : l.length ≤ 1000000) (hr : RdS w v l) (hs : ∀ s ∈ l, s.size ≤ 1500000) :
    Calls Tryd.prog 23 #[v] w fun e w' => e = .returned (.string (rootB l)) ∧ Below w.heap.size w w' := specRoot_at l.length l v w (Nat.le_refl _) hl hr hs

set_option maxRecDepth 20000 in
theorem specRootOf_any (l : List ByteArray) (v : Value) (w : World) (hl : l.length ≤ 9000000000000000000) (hr : RdS w v l) (hs : ∀ s ∈ l, s.size ≤ 1500000) :
    Calls Tryd.prog 12 #[v] w fun e w' => e = .returned (.string (if 64 < l.length then ByteArray.empty else rootB l)) ∧ Below w.heap.size w w' := by
  have Hr := hide hr
  obtain ⟨a, cap, rfl⟩ := hr.shape
  clear hr
  by_cases h : 64 < l.length
  · rw [if_pos h]
    have hi : (64 : Int) < (l.length : Int) := by omega
    clear hs
    go_enter Tryd.func12, Tryd.ntmps12
    go_wp2
    go_ret
    exact ⟨rfl, Below.refl _ _⟩
  · rw [if_neg h]
    have hi : (l.length : Int) ≤ 64 := by omega
    have HS := hide (specRoot_any l _ w (by omega) Hr.out hs)
    clear hs h
    go_enter Tryd.func12, Tryd.ntmps12
    go_wp2_with fail
    refine HS.out.mono ?_
    rintro e w1 ⟨rfl, hb1⟩
    go_wp2
    go_ret
    exact ⟨rfl, hb1⟩
end Go.Proofs.YtceefkpcjonljaaDoor
