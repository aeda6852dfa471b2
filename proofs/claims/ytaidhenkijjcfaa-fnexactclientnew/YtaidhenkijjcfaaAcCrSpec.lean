/- The model's Credit. -/
import Derived.Test.YtaidhenkijjcfaaAcWith
namespace Go.Proofs.Ytaidhenkijjcfaa
open Go.RowKit
set_option linter.unusedVariables false

theorem crA_no {l : List Ac} {s : ByteArray} {n : Int} (h : (acsB l && nmB s && inB n 0 1000000) = false) : crA l s n = (l, false) := by unfold crA; rw [h]; rfl
theorem crA_bad {l : List Ac} {s : ByteArray} {n : Int} (h : (acsB l && nmB s && inB n 0 1000000) = true) (h' : acsB (insA (aftA l s n) l) = false) : crA l s n = (l, false) := by unfold crA; rw [h, h']; rfl
theorem crA_yes {l : List Ac} {s : ByteArray} {n : Int} (h : (acsB l && nmB s && inB n 0 1000000) = true) (h' : acsB (insA (aftA l s n) l) = true) : crA l s n = (insA (aftA l s n) l, true) := by unfold crA; rw [h, h']; rfl
theorem set_tl (Z : List (Ac × Value)) (k : Nat) (q : Ac × Value) (hk : k < Z.length) (h : tlZ q = tlZ Z[k]) : (Z.set k q).map tlZ = Z.map tlZ := by
  apply List.ext_getElem (by simp)
  intro i h1 h2
  simp only [List.getElem_map, List.getElem_set]
  by_cases e : k = i
  · subst e; simp [h]
  · simp [e]
theorem OwnA.mono {base base' : Nat} {w : World} {v : Value} {l : List Ac} (h : OwnA base w v l) (hB : base' ≤ base) : OwnA base' w v l := by
  obtain ⟨g, cap, Z, h1, h2, h3, h4⟩ := h
  refine ⟨g, cap, Z, h1, h2, ⟨h3.1, ?_⟩, h4.mono hB⟩
  rcases h3.2 with h' | ⟨g', cap', cur, hv, hbb, r⟩
  · exact .inl h'
  · exact .inr ⟨g', cap', cur, hv, by omega, r⟩
theorem fst_at {Z : List (Ac × Value)} {L : List Ac} {k : Nat} (hZ : Z.map (·.1) = L) (hk : k < L.length) : (Z[k]'(by rw [← hZ] at hk; simpa using hk)).1 = L[k] := by subst hZ; simp
/-- n more are free at the place k of a row. -/
theorem up_row {base : Nat} {w : World} {g cap : Nat} {Z : List (Ac × Value)} {L : List Ac} {s : ByteArray} {n : Int} {k : Nat} (hZ : Z.map (·.1) = L) (hk : k < L.length) (he : L[k].1 = s) (hn : ∀ j (hj : j < k), (L[j]'(by omega)).1 ≠ s)
    (hrow : w.ownsRow base 55 5 (.slice (some ⟨g, 0, none⟩) L.length cap) L.length (Z.map acC).flatten) (hlv : Lvs base w g Z) :
    OwnA base (w.setCell ⟨g, k * 5 + 1, none⟩ (.int .i64 (wrap64 (L[k].2.1 + n)))) (.slice (some ⟨g, 0, none⟩) L.length cap) (upA s n L) := by
  have hZl : Z.length = L.length := by rw [← hZ]; simp
  have hZk : (Z[k]'(by omega)).1 = L[k] := by subst hZ; simp
  have hst := (hrow.stored (k * 5 + 1) (.int .i64 (wrap64 (L[k].2.1 + n)))).1
  have e : (Z.map acC).flatten.set (k * 5 + 1) (.int .i64 (wrap64 (L[k].2.1 + n))) = ((Z.set k ((L[k].1, wrap64 (L[k].2.1 + n), L[k].2.2), (Z[k]'(by omega)).2)).map acC).flatten := by
    rw [flat_set 5 _ (Z.map acC) k 1 (by simp; omega) (acM_sz Z) (by omega), List.map_set]
    congr 2
    simp [acC, hZk]
  rw [e] at hst
  have hup := upA_set s n L k hk he hn
  have hm : (Z.set k ((L[k].1, wrap64 (L[k].2.1 + n), L[k].2.2), (Z[k]'(by omega)).2)).map (·.1) = upA s n L := by rw [hup, List.map_set, hZ]
  refine ⟨g, cap, _, hm, by rw [upA_len], by rw [upA_len]; exact hst, ((hlv.set _ _).same ?_)⟩
  exact set_tl Z k _ (by omega) (by unfold tlZ; simp [hZk])
end Go.Proofs.Ytaidhenkijjcfaa
