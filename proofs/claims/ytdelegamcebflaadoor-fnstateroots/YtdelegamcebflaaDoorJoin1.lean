/- A slice of bytes that came in reads as bytes. Whether a code is too long for the laws; the shape of what a call owns. -/
import Derived.Test.YtdelegamcebflaaDoorMem
import Derived.OpenShut
namespace Go.Proofs.YtdelegamcebflaaDoor
open Go.RowKit
set_option linter.unusedVariables false

/-- What is told of a slice of integers that came in: it is nil, or it leads to a row of 'cap' cells, the numbers zs, each fitting its kind. -/
def IsRow (k : IntKind) (w : World) (a : Option Addr) (len cap : Nat) (zs : List Int) : Prop :=
  (a = none ∧ len = 0 ∧ cap = 0 ∧ zs = []) ∨
  ∃ x, a = some x ∧ len ≤ cap ∧ cap ≤ maxLen ∧ zs.length = cap ∧ (∀ i, i < zs.length → w.cell? (x.add i) = some (.int k (zs.getD i 0))) ∧ ∀ n ∈ zs, (Lit.int k n).wf = true

theorem wf_u8 {z : Int} (h : (Lit.int .u8 z).wf = true) : 0 ≤ z ∧ z ≤ 255 := bounds_u8 h
theorem wf_i64 {z : Int} (h : (Lit.int .i64 z).wf = true) : -9223372036854775808 ≤ z ∧ z ≤ 9223372036854775807 := bounds_i64 h

theorem IsRow.rd {w : World} {a : Option Addr} {len cap : Nat} {zs : List Int} (h : IsRow .u8 w a len cap zs) : ∃ l : List UInt8, len = l.length ∧ RdB w (.slice a len cap) l := by
  rcases h with ⟨rfl, rfl, rfl, rfl⟩ | ⟨x, rfl, hlc, hm, hz, hcell, hwf⟩
  · exact ⟨[], rfl, .inl ⟨_, _, rfl, rfl, fun h => by first | rfl | cases h⟩⟩
  · by_cases h0 : len = 0
    · subst h0; exact ⟨[], rfl, .inl ⟨_, _, rfl, rfl, fun h => by first | rfl | cases h⟩⟩
    · obtain ⟨b, off, spot⟩ := x
      have hc0 := hcell 0 (by omega)
      have hspot : spot = none := by simpa [Addr.add] using World.cell?_spot hc0
      subst hspot
      have hlen : ((zs.take len).map (fun z => UInt8.ofNat z.toNat)).length = len := by simp; omega
      refine ⟨(zs.take len).map (fun z => UInt8.ofNat z.toNat), hlen.symm, .inr ⟨b, off, cap, ?_, by rw [hlen], by omega, hm, ?_, ?_⟩⟩
      · intro e; rw [e] at hlen; simp at hlen; omega
      · have := World.block_lt_of_cell? w _ hc0; simpa [Addr.add] using this
      · intro i hi
        rw [hlen] at hi
        have hi' : i < zs.length := by omega
        have hc := hcell i hi'
        have hb := wf_u8 (hwf zs[i] (List.getElem_mem hi'))
        have hg : zs.getD i 0 = zs[i] := by simp [hi']
        rw [hg] at hc
        have hv : ((((zs.take len).map (fun z => UInt8.ofNat z.toNat))[i]'(by rw [hlen]; exact hi)).toNat : Int) = zs[i] := by
          simp only [List.getElem_map, List.getElem_take, UInt8.toNat_ofNat']
          omega
        rw [hv]
        have ea : (⟨b, off, none⟩ : Addr).add i = ⟨b, off + i, none⟩ := by
          by_cases hz : i = 0
          · subst hz; simp [Addr.add]
          · simp [Addr.add, hz]
        rwa [ea] at hc
end Go.Proofs.YtdelegamcebflaaDoor

namespace Go.Proofs.YtdelegamcebflaaDoor
open Go.RowKit
set_option linter.unusedVariables false

set_option maxRecDepth 20000 in
theorem big_any (v : Value) (l : List UInt8) (w : World) (hr : RdB w v l) (hl : l.length ≤ 9223372036854775807) :
    Calls Tryd.prog 4 #[v] w fun e w' => e = .returned (.bool (decide (1048576 < l.length))) ∧ w' = w := by
  obtain ⟨a, cap, rfl⟩ := hr.shape
  clear hr
  by_cases h : 1048576 < l.length
  · have hd := hide (decide_eq_true h)
    go_enter Tryd.func4, Tryd.ntmps4
    go_wp2
    go_ret
    exact ⟨ret_bool (by rw [hd.out]; simp; omega), rfl⟩
  · have hd := hide (decide_eq_false h)
    go_enter Tryd.func4, Tryd.ntmps4
    go_wp2
    go_ret
    exact ⟨ret_bool (by rw [hd.out]; simp; omega), rfl⟩

theorem OwnB.shape {base : Nat} {w : World} {v : Value} {l : List UInt8} (h : OwnB base w v l) (hl : l ≠ []) : ∃ g cap, v = .slice (some ⟨g, 0, none⟩) l.length cap ∧ l.length ≤ cap ∧ cap ≤ 9223372036854775807 := by
  rcases h.2 with ⟨hv, hn⟩ | ⟨g, cap, cur, hv, hb, hg, hnc, hcm, hcs, ht⟩
  · exact absurd (List.length_eq_zero_iff.1 hn) hl
  · exact ⟨g, cap, hv, hnc, by unfold maxLen at hcm; omega⟩

theorem RdB.cut {w : World} {g cap : Nat} {l : List UInt8} (h : RdB w (.slice (some ⟨g, 0, none⟩) l.length cap) l) (k : Nat) (hk : k ≤ l.length) : RdB w (.slice (some ⟨g, 0, none⟩) k cap) (l.take k) := by
  have hlen : (l.take k).length = k := by simp; omega
  rcases h with ⟨a, c, hv, rfl, hn⟩ | ⟨b, off, c, h0, hv, h1, h2, h3, h4⟩
  · have : k = 0 := by simpa using hk
    subst this
    exact .inl ⟨_, _, rfl, by simp, fun h => by cases h⟩
  · simp only [Value.slice.injEq, Option.some.injEq, Addr.mk.injEq, and_true, true_and] at hv
    obtain ⟨⟨rfl, rfl⟩, rfl⟩ := hv
    by_cases hk0 : k = 0
    · subst hk0; exact .inl ⟨_, _, rfl, by simp, fun h => by cases h⟩
    · refine .inr ⟨g, 0, cap, ?_, by rw [hlen], by omega, h2, h3, ?_⟩
      · intro e; rw [e] at hlen; simp at hlen; omega
      · intro i hi
        rw [h4 i (by omega)]
        simp
end Go.Proofs.YtdelegamcebflaaDoor
