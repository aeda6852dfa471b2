/- The model's paths. -/
import Derived.Test.YtknnecmfebnfbakDoorMerkRoot
import Derived.Test.YtknnecmfebnfbakDoorIn
import Derived.Deep.RegionHeldLaw
namespace Go.Proofs.YtknnecmfebnfbakDoor
open Go.RowKit
set_option linter.unusedVariables false

theorem nilS (w : World) (base : Nat) (h : base ≤ w.heap.size) : OwnS base (w.alloc (.cells #[] 9)) (.slice (some ⟨w.heap.size, 0, none⟩) 0 0) [] :=
  World.ownsRow_lit w #[] 0 h (by unfold maxLen; omega) (by simp)
theorem step_app_text {ops : Array Oper} {o : Oper} {a : Act} {w : World} {K : Act → World → Prop} {Q : Exit → Act → World → Prop} {E : Prop} (hgd : o.guard = none) (s x : Operand)
    (ho : o.op = .call { callee := .builtin .append, args := #[s, x], argTypes := #[26, 26] })
    (base g cap : Nat) (v : Value) (l : List ByteArray) (t : ByteArray) (hs : a.eval s = v) (hx : a.eval x = .slice (some ⟨g, 0, none⟩) 1 cap) (hown : OwnS base w v l) (hc : w.cell? ⟨g, 0, none⟩ = some (.string t))
    (hlen : l.length ≤ 10000000) (hbase : base ≤ w.heap.size)
    (h : ∀ v' w', OwnS base w' v' (l ++ [t]) → Below base w w' → K (a.put o.dst v') w') : if Region.wanted o (yielded ops a.tmps) = true then Oper.wp Tryd.prog o a w K Q else E := by
  have hw : Region.wanted o (yielded ops a.tmps) = true := by simp [Region.wanted, hgd]
  rw [if_pos hw]
  obtain ⟨i0, hi, hz0, hz1, hz2⟩ := info_parts Tryd.infoStr
  have hbel : ∀ w', w.grownBy w' v.ownBlock → Below base w w' := fun w' hg => (Below.refl _ _).grown hg hbase (fun k hk => (World.ownsRow.lt hown k hk).1)
  refine wp_append_own w s x 26 ho base 9 i0 (.string ByteArray.empty) 1 16 Tryd.underlying26 hi hz0 hz1 hz2 rfl (by decide) v l.length (l.map Value.string) hs hown ⟨g, 0, none⟩ 1 cap [.string t] hx (by simp) ?_ ?_ (by unfold maxLen; omega) (by omega) hbase ?_
  · intro j u hj
    have hj0 : j = 0 := by have := (List.getElem?_eq_some_iff.1 hj).1; simp at this; omega
    subst hj0
    simp at hj
    rw [show (⟨g, 0, none⟩ : Addr).add 0 = ⟨g, 0, none⟩ from by simp [Addr.add], hc, ← hj]
  · intro u hu
    simp at hu
    subst hu
    rfl
  · intro v' w' ho' hg _
    exact h v' w' (by simpa [OwnS] using ho') (hbel w' hg)
theorem cell_lit (w : World) (t : ByteArray) : (w.alloc (.cells #[.string t] 9)).cell? ⟨w.heap.size, 0, none⟩ = some (.string t) := by
  rw [World.cell?_alloc_at _ _ _ _ rfl]; rfl

set_option maxRecDepth 20000 in
set_option maxHeartbeats 2000000 in
theorem specPath_at : ∀ (n : Nat) (l : List ByteArray) (i : Nat) (v : Value) (w : World), l.length ≤ n → n ≤ 1000000 → i < 1000000 → RdS w v l → (∀ s ∈ l, s.size ≤ 1500000) →
    Calls Tryd.prog 28 #[v, .int .i64 (i : Int)] w fun e w' => ∃ v', e = .returned v' ∧ OwnS w.heap.size w' v' (pathB l i) ∧ Below w.heap.size w w' := by
  intro n
  induction n with
  | zero =>
    intro l i v w hl hn hi hr hs
    have hlen : l.length = 0 := by omega
    obtain ⟨a, cap, rfl⟩ := hr.shape
    have Hp := hide (pathB_few l i (by omega))
    rw [hlen]
    clear hr hs
    go_enter Tryd.func28, Tryd.ntmps28
    go_wp2
    go_ret
    exact ⟨_, rfl, by rw [Hp.out]; exact nilS w w.heap.size (Nat.le_refl _), (Below.refl _ _).alloc (Nat.le_refl _) _⟩
  | succ n ih =>
    intro l i v w hl hn hi hr hs
    by_cases h0 : l.length ≤ n
    · exact ih l i v w h0 (by omega) hi hr hs
    · by_cases h1 : l.length < 2
      · have hlen : l.length ≤ 1 := by omega
        obtain ⟨a, cap, rfl⟩ := hr.shape
        have Hp := hide (pathB_few l i (by omega))
        have hli : (l.length : Int) < 2 := by omega
        clear hr hs ih
        go_enter Tryd.func28, Tryd.ntmps28
        go_wp2
        go_ret
        exact ⟨_, rfl, by rw [Hp.out]; exact nilS w w.heap.size (Nat.le_refl _), (Below.refl _ _).alloc (Nat.le_refl _) _⟩
      · have h2 : 2 ≤ l.length := by omega
        rcases hr with ⟨_, _, _, e, _⟩ | ⟨b, off, cap, _, rfl, hc1, hc2, hb, hcell⟩
        · subst e; simp at h2
        · have hst : StrAt w b off l := ⟨hb, hcell⟩
          have hh := half_lt l.length h2
          have Hl := hide (pathB_left l i h2)
          have Hr := hide (pathB_right l i h2)
          obtain ⟨K, hK⟩ : ∃ K, half l.length = K := ⟨_, rfl⟩
          obtain ⟨m, hm⟩ : ∃ m, l.length = m := ⟨_, rfl⟩
          have Hhalf := hide (l3Half_any l.length w h2 (by omega))
          rw [hK] at hh Hl Hr Hhalf
          have ht : (l.take K).length = K := by simp; omega
          have hd : (l.drop K).length = m - K := by simp [hm]
          have hsA : ∀ s ∈ l.take K, s.size ≤ 1500000 := fun s hsm => hs s (List.mem_of_mem_take hsm)
          have hsB : ∀ s ∈ l.drop K, s.size ≤ 1500000 := fun s hsm => hs s (List.mem_of_mem_drop hsm)
          have hrA : ∀ w, StrAt w b off (l.take K) → RdS w (.slice (some ⟨b, off, none⟩) K cap) (l.take K) := fun w h => by have := h.rd (cap := cap) (by omega) hc2; rwa [ht] at this
          have hrB : ∀ w, StrAt w b (off + K) (l.drop K) → RdS w (.slice (some ⟨b, off + K, none⟩) (m - K) (cap - K)) (l.drop K) := fun w h => by have := h.rd (cap := cap - K) (by omega) (by omega); rwa [hd] at this
          have HRA := hide (fun w h => specRoot_any (l.take K) _ w (by omega) (hrA w h) hsA)
          have HRB := hide (fun w h => specRoot_any (l.drop K) _ w (by omega) (hrB w h) hsB)
          have HPA := hide (fun w h => ih (l.take K) i _ w (by omega) (by omega) (by omega) (hrA w h) hsA)
          have HPB := hide (fun w h => ih (l.drop K) (i - K) _ w (by omega) (by omega) (by omega) (hrB w h) hsB)
          have q1 := pathB_len 1000000 (l.take K) i (by omega)
          have q2 := pathB_len 1000000 (l.drop K) (i - K) (by omega)
          generalize hA : rootB (l.take K) = RA at Hr Hl HRA
          generalize hB : rootB (l.drop K) = RB at Hr Hl HRB
          generalize hPA : pathB (l.take K) i = PA at Hl HPA q1
          generalize hPB : pathB (l.drop K) (i - K) = PB at Hr HPB q2
          rw [hm] at hh hc1 Hhalf ⊢
          have i1 : (K : Int) ≤ (cap : Int) := by omega
          have i2 : (K : Int) ≤ (m : Int) := by omega
          have i3 : K < cap := by omega
          have i4 : ¬ cap = K := by omega
          have i5 : (m : Int) ≤ (cap : Int) := by omega
          have i8 : K ≤ m := by omega
          have i9 : K ≤ cap := by omega
          have i10 : m ≤ cap := by omega
          have i11 : (2 : Int) ≤ (m : Int) := by omega
          have Hst := hide hst
          clear hcell hs ih hst hA hB hPA hPB hK hm ht hd h0 h1 hrA hrB hsA hsB
          by_cases hlt : i < K
          · have hiK : (i : Int) < (K : Int) := by omega
            have Hp := hide (Hl.out hlt)
            clear Hl Hr HPB HRA q2
            go_enter Tryd.func28, Tryd.ntmps28
            go_wp2_with fail
            refine Hhalf.out.mono ?_
            rintro e w ⟨rfl, rfl⟩
            go_wp2
            go_region_held_law (fun w' => True) (trivial) (first
              | (go_at_call 28; refine (HPA.out _ (Hst.out.drew.take K)).mono ?_; rintro e wa ⟨va, rfl, hoa, hba⟩)
              | (go_at_call 25; refine (HRB.out _ ((Hst.out.drew.drop K).below hba hb)).mono ?_; rintro e wb ⟨rfl, hbb⟩; have hob := hoa.below hbb (Nat.le_refl _); have hsb : w.heap.size ≤ wb.heap.size := Nat.le_trans hba.size hbb.size)
              | (refine step_app_text rfl _ _ rfl w.heap.size wb.heap.size 1 va PA RB (by rfl) (by rfl) (World.ownsRow.alloc hob _) (cell_lit wb RB) (by omega) (by simp; omega) ?_; intro v3 w3 ho3 hb3))
            have HB : Hid (Below w.heap.size w w3) := hide (((((Below.refl _ w).drew.trans hba).trans (hbb.mono hba.size)).alloc hsb _).trans hb3)
            go_wp2
            go_ret
            exact ⟨v3, by first | rfl | simp, by rw [Hp.out]; exact ho3, HB.out⟩
          · have hiK : ¬ (i : Int) < (K : Int) := by omega
            have Hp := hide (Hr.out hlt)
            obtain ⟨J, hJ⟩ : ∃ J, i - K = J := ⟨_, rfl⟩
            have hJi : IntKind.i64.wrap ((i : Int) - (K : Int)) = (J : Int) := by rw [IntKind.wrap_i64]; omega
            rw [hJ] at HPB
            clear Hl Hr HPA HRB q1 hJ
            go_enter Tryd.func28, Tryd.ntmps28
            go_wp2_with fail
            refine Hhalf.out.mono ?_
            rintro e w ⟨rfl, rfl⟩
            go_wp2
            go_region_held_law (fun w' => True) (trivial) (first
              | (go_at_call 28; refine (HPB.out _ (Hst.out.drew.drop K)).mono ?_; rintro e wa ⟨va, rfl, hoa, hba⟩)
              | (go_at_call 25; refine (HRA.out _ ((Hst.out.drew.take K).below hba hb)).mono ?_; rintro e wb ⟨rfl, hbb⟩; have hob := hoa.below hbb (Nat.le_refl _); have hsb : w.heap.size ≤ wb.heap.size := Nat.le_trans hba.size hbb.size)
              | (refine step_app_text rfl _ _ rfl w.heap.size wb.heap.size 1 va PB RA (by rfl) (by rfl) (World.ownsRow.alloc hob _) (cell_lit wb RA) (by omega) (by simp; omega) ?_; intro v3 w3 ho3 hb3))
            have HB : Hid (Below w.heap.size w w3) := hide (((((Below.refl _ w).drew.trans hba).trans (hbb.mono hba.size)).alloc hsb _).trans hb3)
            go_wp2
            go_ret
            exact ⟨v3, by first | rfl | simp, by rw [Hp.out]; exact ho3, HB.out⟩

set_option maxRecDepth 20000 in
theorem specPathOf_any (l : List ByteArray) (i : Int) (v : Value) (w : World) (hl : l.length ≤ 9000000000000000000) (h1 : -9223372036854775808 ≤ i) (h2 : i ≤ 9223372036854775807) (hr : RdS w v l) (hs : ∀ s ∈ l, s.size ≤ 1500000) :
    Calls Tryd.prog 17 #[v, .int .i64 i] w fun e w' => ∃ v', e = .returned v' ∧ OwnS w.heap.size w' v' (pathOfB l i) ∧ Below w.heap.size w w' := by
  have Hr := hide hr
  obtain ⟨a, cap, rfl⟩ := hr.shape
  clear hr
  by_cases h : 64 < l.length
  · have Hp : Hid (pathOfB l i = []) := hide (by unfold pathOfB; rw [if_neg (by omega)])
    have hi : (64 : Int) < (l.length : Int) := by omega
    clear hs
    go_enter Tryd.func17, Tryd.ntmps17
    go_wp2
    go_ret
    exact ⟨_, rfl, by rw [Hp.out]; exact nilS w w.heap.size (Nat.le_refl _), (Below.refl _ _).alloc (Nat.le_refl _) _⟩
  · have hi : (l.length : Int) ≤ 64 := by omega
    by_cases hin : 0 ≤ i ∧ i < l.length
    · obtain ⟨I, rfl⟩ := Int.eq_ofNat_of_zero_le hin.1
      have Hp : Hid (pathOfB l (I : Int) = pathB l I) := hide (by unfold pathOfB; rw [if_pos (by omega)]; simp)
      have HS := hide (specPath_at 1000000 l I _ w (by omega) (by omega) (by omega) Hr.out hs)
      have hb : inB (I : Int) 0 ((l.length : Int) - 1) = true := by simp [inB]; omega
      clear hs h
      go_enter Tryd.func17, Tryd.ntmps17
      go_wp2_with fail
      refine (l1In_any _ _ _ _).mono ?_
      rintro e w ⟨rfl, rfl⟩
      go_wp2_with fail
      refine HS.out.mono ?_
      rintro e w1 ⟨v1, rfl, ho1, hb1⟩
      go_wp2
      go_ret
      exact ⟨_, rfl, by rw [Hp.out]; exact ho1, hb1⟩
    · have Hp : Hid (pathOfB l i = []) := hide (by unfold pathOfB; rw [if_neg (by omega)])
      have hb : inB i 0 ((l.length : Int) - 1) = false := by simp [inB]; omega
      clear hs h
      go_enter Tryd.func17, Tryd.ntmps17
      go_wp2_with fail
      refine (l1In_any _ _ _ _).mono ?_
      rintro e w ⟨rfl, rfl⟩
      go_wp2
      go_ret
      exact ⟨_, rfl, by rw [Hp.out]; exact nilS w w.heap.size (Nat.le_refl _), (Below.refl _ _).alloc (Nat.le_refl _) _⟩
end Go.Proofs.YtknnecmfebnfbakDoor
