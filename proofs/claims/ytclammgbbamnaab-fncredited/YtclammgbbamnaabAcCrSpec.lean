/- The model's Credit. -/
import Derived.Test.YtclammgbbamnaabAcWith
namespace Go.Proofs.Ytclammgbbamnaab
open Go.RowKit
set_option linter.unusedVariables false

theorem crA_no {l : List Ac} {s : ByteArray} {n : Int} (h : (acsB l && nmB s && inB n 0 1000000) = false) : crA l s n = (l, false) := by unfold crA; rw [h]; rfl
theorem crA_bad {l : List Ac} {s : ByteArray} {n : Int} (h : (acsB l && nmB s && inB n 0 1000000) = true) (h' : acsB (insA (aftA l s n) l) = false) : crA l s n = (l, false) := by unfold crA; rw [h, h']; rfl
theorem crA_yes {l : List Ac} {s : ByteArray} {n : Int} (h : (acsB l && nmB s && inB n 0 1000000) = true) (h' : acsB (insA (aftA l s n) l) = true) : crA l s n = (insA (aftA l s n) l, true) := by unfold crA; rw [h, h']; rfl
theorem set_tl (Z : List (Ac × Value)) (k : Nat) (q : Ac × Value) (hk : k < Z.length) (h : tlZ q = tlZ Z[k]) : (Z.set k q).map tlZ = Z.map tlZ := by
  apply List.ext_getElem (by simp)
  intro i h1 h2
  simp only [List.getElem_map, List.getElem_set]
  by_cases e : k = i
  · subst e; simp [h]
  · simp [e]
theorem OwnA.mono {base base' : Nat} {w : World} {v : Value} {l : List Ac} (h : OwnA base w v l) (hB : base' ≤ base) : OwnA base' w v l := by
  obtain ⟨g, cap, Z, h1, h2, h3, h4⟩ := h
  refine ⟨g, cap, Z, h1, h2, ⟨h3.1, ?_⟩, h4.mono hB⟩
  rcases h3.2 with h' | ⟨g', cap', cur, hv, hbb, r⟩
  · exact .inl h'
  · exact .inr ⟨g', cap', cur, hv, by omega, r⟩
theorem fst_at {Z : List (Ac × Value)} {L : List Ac} {k : Nat} (hZ : Z.map (·.1) = L) (hk : k < L.length) : (Z[k]'(by rw [← hZ] at hk; simpa using hk)).1 = L[k] := by subst hZ; simp
/-- n more are free at the place k of a row. -/
theorem up_row {base : Nat} {w : World} {g cap : Nat} {Z : List (Ac × Value)} {L : List Ac} {s : ByteArray} {n : Int} {k : Nat} (hZ : Z.map (·.1) = L) (hk : k < L.length) (he : L[k].1 = s) (hn : ∀ j (hj : j < k), (L[j]'(by omega)).1 ≠ s)
    (hrow : w.ownsRow base 37 5 (.slice (some ⟨g, 0, none⟩) L.length cap) L.length (Z.map acC).flatten) (hlv : Lvs base w g Z) :
    OwnA base (w.setCell ⟨g, k * 5 + 1, none⟩ (.int .i64 (wrap64 (L[k].2.1 + n)))) (.slice (some ⟨g, 0, none⟩) L.length cap) (upA s n L) := by
  have hZl : Z.length = L.length := by rw [← hZ]; simp
  have hZk : (Z[k]'(by omega)).1 = L[k] := by subst hZ; simp
  have hst := (hrow.stored (k * 5 + 1) (.int .i64 (wrap64 (L[k].2.1 + n)))).1
  have e : (Z.map acC).flatten.set (k * 5 + 1) (.int .i64 (wrap64 (L[k].2.1 + n))) = ((Z.set k ((L[k].1, wrap64 (L[k].2.1 + n), L[k].2.2), (Z[k]'(by omega)).2)).map acC).flatten := by
    rw [flat_set 5 _ (Z.map acC) k 1 (by simp; omega) (acM_sz Z) (by omega), List.map_set]
    congr 2
    simp [acC, hZk]
  rw [e] at hst
  have hup := upA_set s n L k hk he hn
  have hm : (Z.set k ((L[k].1, wrap64 (L[k].2.1 + n), L[k].2.2), (Z[k]'(by omega)).2)).map (·.1) = upA s n L := by rw [hup, List.map_set, hZ]
  refine ⟨g, cap, _, hm, by rw [upA_len], by rw [upA_len]; exact hst, ((hlv.set _ _).same ?_)⟩
  exact set_tl Z k _ (by omega) (by unfold tlZ; simp [hZk])
set_option maxRecDepth 20000 in
set_option maxHeartbeats 2000000 in
theorem specCredit_any (v : Value) (l : List Ac) (s : ByteArray) (n : Int) (w : World) (hr : RdA w v l) (hl : l.length ≤ 3999999) (hall : ∀ a ∈ l, a.1.size ≤ maxLen ∧ a.2.2.2.2.length ≤ 4000000) (hs : s.size ≤ maxLen) :
    Calls Try.prog 12 #[v, .string s, .int .i64 n] w fun e w' => ∃ v', e = .returned (.tuple #[v', .bool (crA l s n).2]) ∧ OwnA w.heap.size w' v' (crA l s n).1 ∧ Below w.heap.size w w' := by
  have hall2 : ∀ a ∈ l, a.2.2.2.2.length ≤ 4000000 := fun a ha => (hall a ha).2
  have HOk := hide (specAcctsOk_any v l w hr (by omega) hall)
  have HC := hide (fun w h => specCopy_any v l w h (by omega) hall2)
  have HW := hide (fun w h => specWith_any v l s w h (by omega) hall2)
  have Hr := hide hr
  have Hall := hide hall
  clear hr hall hall2
  cases h1 : acsB l
  · have Hcr := hide (crA_no (l := l) (s := s) (n := n) (by rw [h1]; rfl))
    rw [h1] at HOk
    clear HW h1
    rw [Hcr.out]
    go_enter Try.func12, Try.ntmps12
    go_wp2_with fail
    refine HOk.out.mono ?_
    rintro e w1 ⟨rfl, hb1⟩
    go_wp2_with fail
    refine (HC.out _ (Hr.out.below hb1 (Nat.le_refl _))).mono ?_
    rintro e w2 ⟨v2, rfl, ho2, hb2⟩
    have Ho2 := hide (OwnA.mono ho2 hb1.size)
    have HB := hide (hb1.trans (hb2.mono hb1.size))
    clear ho2 hb1 hb2
    go_wp2
    go_ret2
    exact ⟨v2, rfl, Ho2.out, HB.out⟩
  · rw [h1] at HOk
    cases h2 : nmB s
    · have Hcr := hide (crA_no (l := l) (s := s) (n := n) (by rw [h1, h2]; rfl))
      clear HW h1
      rw [Hcr.out]
      go_enter Try.func12, Try.ntmps12
      go_wp2_with fail
      refine HOk.out.mono ?_
      rintro e w1 ⟨rfl, hb1⟩
      go_wp2_with fail
      refine (specNameOk_any s _ hs).mono ?_
      rintro e w1 ⟨rfl, rfl⟩
      rw [h2]
      go_wp2_with fail
      refine (HC.out _ (Hr.out.below hb1 (Nat.le_refl _))).mono ?_
      rintro e w2 ⟨v2, rfl, ho2, hb2⟩
      have Ho2 := hide (OwnA.mono ho2 hb1.size)
      have HB := hide (hb1.trans (hb2.mono hb1.size))
      clear ho2 hb1 hb2
      go_wp2
      go_ret2
      exact ⟨v2, rfl, Ho2.out, HB.out⟩
    · cases h3 : inB n 0 1000000
      · have Hcr := hide (crA_no (l := l) (s := s) (n := n) (by rw [h1, h2, h3]; rfl))
        clear HW h1
        rw [Hcr.out]
        go_enter Try.func12, Try.ntmps12
        go_wp2_with fail
        refine HOk.out.mono ?_
        rintro e w1 ⟨rfl, hb1⟩
        go_wp2_with fail
        refine (specNameOk_any s _ hs).mono ?_
        rintro e w1 ⟨rfl, rfl⟩
        rw [h2]
        go_wp2_with fail
        refine (l1In_any _ _ _ _).mono ?_
        rintro e w1 ⟨rfl, rfl⟩
        rw [h3]
        go_wp2_with fail
        refine (HC.out _ (Hr.out.below hb1 (Nat.le_refl _))).mono ?_
        rintro e w2 ⟨v2, rfl, ho2, hb2⟩
        have Ho2 := hide (OwnA.mono ho2 hb1.size)
        have HB := hide (hb1.trans (hb2.mono hb1.size))
        clear ho2 hb1 hb2
        go_wp2
        go_ret2
        exact ⟨v2, rfl, Ho2.out, HB.out⟩
      · have hasc := asc_of_ok l h1
        have Hgood : Hid ((acsB l && nmB s && inB n 0 1000000) = true) := hide (by rw [h1, h2, h3]; rfl)
        have Hge := hide (give_eq l s n hasc)
        clear h1 hasc
        go_enter Try.func12, Try.ntmps12
        go_wp2_with fail
        refine HOk.out.mono ?_
        rintro e w1 ⟨rfl, hb1⟩
        go_wp2_with fail
        refine (specNameOk_any s _ hs).mono ?_
        rintro e w1 ⟨rfl, rfl⟩
        rw [h2]
        go_wp2_with fail
        refine (l1In_any _ _ _ _).mono ?_
        rintro e w1 ⟨rfl, rfl⟩
        rw [h3]
        go_wp2_with fail
        refine (HW.out _ (Hr.out.below hb1 (Nat.le_refl _))).mono ?_
        rintro e w2 ⟨v2, rfl, ho2, hb2⟩
        have hB2 : Below w.heap.size w w2 := hb1.trans (hb2.mono hb1.size)
        have ho2 := OwnA.mono ho2 hb1.size
        obtain ⟨a, hga⟩ := with_has l s
        obtain ⟨k, hk, hat, hak, has, hbef⟩ := at_get hga
        have hwl : (withA l s).length ≤ 4000000 := by have := withA_len l s; omega
        have HA := hide (specAcctAt_any v2 (withA l s) s w2 ho2.rd hwl)
        rw [hat] at HA
        have Hlim : Hid (∀ y ∈ upA s n (withA l s), y.1.size ≤ maxLen ∧ y.2.2.2.2.length ≤ 4000000) := hide (upA_mem s n _ (fun y => y.1.size ≤ maxLen ∧ y.2.2.2.2.length ≤ 4000000) (fun y hy => by
          rcases withA_mem hy with rfl | hy
          · exact ⟨hs, by simp [newAc]⟩
          · exact Hall.out y hy) (fun y hy => hy))
        have Hbef := hide hbef
        have Hak := hide hak
        have hks : (withA l s)[k].1 = s := by rw [hak]; exact has
        clear hga hat hbef hak has hb1 hb2
        go_wp2_with fail
        refine HA.out.mono ?_
        rintro e w3 ⟨rfl, hb3⟩
        have hB3 : Below w.heap.size w w3 := hB2.trans (hb3.mono hB2.size)
        obtain ⟨g, cap, Z, hZ, rfl, hrow, hlv⟩ := ho2.below hb3 (Nat.le_refl _)
        have hgw : w.heap.size ≤ g := (World.ownsRow.lt hrow g rfl).1
        have Hup := hide (up_row (n := n) hZ hk hks Hbef.out hrow hlv)
        have hZl : Z.length = (withA l s).length := by rw [← hZ]; simp
        have hZk : (Z[k]'(by omega)).1 = (withA l s)[k] := fst_at hZ hk
        have c1 : w3.cell? ⟨g, k * 5 + 1, none⟩ = some (.int .i64 (withA l s)[k].2.1) := by
          rw [hrow.cellAt (k * 5 + 1) (by omega), flat_get 5 (Z.map acC) k 1 (by simp; omega) (acM_sz Z) (by omega)]
          simp [acC, hZk]
        have f1 := hrow.frozenAt (k * 5 + 1)
        have hki : (k : Int) < ((withA l s).length : Int) := by omega
        rw [Hge.out] at Hup Hlim
        have hulen : (insA (aftA l s n) l).length ≤ 4000000 := by rw [← Hge.out, upA_len]; exact hwl
        have Hyes := hide (crA_yes (l := l) (s := s) (n := n) Hgood.out)
        have Hbad := hide (crA_bad (l := l) (s := s) (n := n) Hgood.out)
        have hb3s := hB3.size
        clear hb3 ho2 hZ hrow hlv hZk hZl hks Hbef Hak HA hB2 Hge
        generalize (withA l s)[k].2.1 = fr at c1 Hup
        generalize (withA l s).length = wl at hki Hup hwl hk
        generalize insA (aftA l s n) l = res at *
        go_wp2_with fail
        refine (specAcctsOk_any _ res _ Hup.out.rd hulen Hlim.out).mono ?_
        rintro e w4 ⟨rfl, hb4⟩
        have hB3' := hB3.setCell (p := ⟨g, k * 5 + 1, none⟩) hgw (.int .i64 (wrap64 (fr + n)))
        have HB4 := hide (hB3'.trans (hb4.mono (by simp; omega)))
        have Hup4 := hide (Hup.out.below hb4 (Nat.le_refl _))
        clear hb4 hB3'
        cases h5 : acsB res
        · have Hcr := hide (Hbad.out h5)
          go_wp2_with fail
          refine (HC.out _ (Hr.out.below HB4.out (Nat.le_refl _))).mono ?_
          rintro e w5 ⟨v5, rfl, ho5, hb5⟩
          have Ho5 := hide (OwnA.mono ho5 HB4.out.size)
          have HB5 := hide (HB4.out.trans (hb5.mono HB4.out.size))
          clear ho5 hb5
          go_wp2
          go_ret2
          rw [Hcr.out]
          exact ⟨v5, rfl, Ho5.out, HB5.out⟩
        · have Hcr := hide (Hyes.out h5)
          go_wp2
          go_ret2
          rw [Hcr.out]
          exact ⟨_, rfl, Hup4.out, HB4.out⟩
end Go.Proofs.Ytclammgbbamnaab
