/- A certificate of leavings that came in, opened: what it reads as. -/
import Derived.Test.YtbjeonnaannofaaCtVal
import Derived.Deep.SlicePairs
import Derived.Deep.RegionHeldLaw
import Derived.Lib.SmallJoins
import Derived.OpenShut
import Derived.ShutString
import Derived.SliceStrings
import Derived.ChangeOld
import Derived.WideShapes
namespace Go.Proofs.Ytbjeonnaannofaa
open Go.RowKit Go.ChangeShapes Go.WideShapes
set_option linter.unusedVariables false

section
variable {H : Type} {enc : TypeId × Value → H} {w : World} {base : Nat} {spare : Nat → Bool} {held : Bool}
theorem add_plainC (b off i : Nat) : (⟨b, off, none⟩ : Addr).add i = ⟨b, off + i, none⟩ := by
  by_cases hz : i = 0
  · subst hz; simp [Addr.add]
  · simp [Addr.add, hz]
theorem open_strs {fuel : Nat} {cs : List Value} {x : DataW H × List MemPlace} (h : DataW.trod enc Try.prog w base spare held fuel 29 cs = some x) :
    ∃ v ls, cs = [v] ∧ RdS w v ls ∧ ls.length ≤ maxLen ∧ ∀ s ∈ ls, s.size ≤ maxLen := by
  rcases Deep.open_slice Try.underlying29 h with ⟨hcs, _⟩ | ⟨ad, len, cap, m, n, D, Pl, hcs, hb, hl, hm, hmm, hx, hel⟩
  · exact ⟨_, [], hcs, .inl ⟨_, _, rfl, rfl, fun _ => rfl⟩, by simp, by simp⟩
  · have hlm : len ≤ m := by rw [hmm]; split <;> omega
    by_cases h0 : len = 0
    · subst h0; exact ⟨_, [], hcs, .inl ⟨_, _, rfl, rfl, fun h => by cases h⟩, by simp, by simp⟩
    · obtain ⟨b, off, spot⟩ := ad
      rw [show Try.prog.cellsOf 9 = 1 from by kernel_rfl] at hel
      have each : ∀ i, i < m → ∃ q : ByteArray, w.cells? base ((⟨b, off, spot⟩ : Addr).add (i * 1)) 1 = some [.string q] ∧ q.size ≤ maxLen := fun i hi => by
        obtain ⟨cs', h1, h2⟩ := hel i hi
        obtain ⟨s, e, _, hs⟩ := DataW.trod_string Try.underlying9 h2
        subst e
        exact ⟨s, h1, hs⟩
      obtain ⟨q, hq⟩ := Deep.choose_lt each
      have c0 : ∀ i, i < m → ∀ j, j < 1 → w.cell? (((⟨b, off, spot⟩ : Addr).add (i * 1)).add j) = [Value.string (q i)][j]? := fun i hi => (World.cells?_some (hq i hi).1).2.2
      have hc0 := c0 0 (by omega) 0 (by omega)
      have hspot : spot = none := by simpa [Addr.add] using World.cell?_spot hc0
      subst hspot
      have hlen : ((List.range len).map q).length = len := by simp
      refine ⟨_, (List.range len).map q, hcs, .inr ⟨b, off, cap, ?_, by rw [hlen], by omega, hm, ?_, ?_⟩, by omega, ?_⟩
      · intro e; rw [e] at hlen; simp at hlen; omega
      · have := World.block_lt_of_cell? w _ hc0; simpa [Addr.add] using this
      · intro i hi
        rw [hlen] at hi
        have cc := c0 i (by omega) 0 (by omega)
        rw [add_plainC, add_plainC, Nat.mul_one, Nat.add_zero] at cc
        simp only [List.getElem_map, List.getElem_range]
        simpa using cc
      · intro z hz
        obtain ⟨i, hi, rfl⟩ := List.mem_map.1 hz
        exact (hq i (by have := List.mem_range.1 hi; omega)).2
theorem open_intsC {fuel : Nat} {cs : List Value} {x : DataW H × List MemPlace} (h : DataW.trod enc Try.prog w base spare held fuel 27 cs = some x) :
    ∃ v ls, cs = [v] ∧ RdI w v ls ∧ ls.length ≤ maxLen := by
  rcases Deep.open_slice Try.underlying27 h with ⟨hcs, _⟩ | ⟨ad, len, cap, m, n, D, Pl, hcs, hb, hl, hm, hmm, hx, hel⟩
  · exact ⟨_, [], hcs, .inl ⟨_, _, rfl, rfl, fun _ => rfl⟩, by simp⟩
  · have hlm : len ≤ m := by rw [hmm]; split <;> omega
    by_cases h0 : len = 0
    · subst h0; exact ⟨_, [], hcs, .inl ⟨_, _, rfl, rfl, fun h => by cases h⟩, by simp⟩
    · obtain ⟨b, off, spot⟩ := ad
      rw [show Try.prog.cellsOf 3 = 1 from by kernel_rfl] at hel
      have each : ∀ i, i < m → ∃ q : Int, w.cells? base ((⟨b, off, spot⟩ : Addr).add (i * 1)) 1 = some [.int .i64 q] := fun i hi => by
        obtain ⟨cs', h1, h2⟩ := hel i hi
        obtain ⟨s, e, _⟩ := DataW.trod_int Try.underlying3 h2
        subst e
        exact ⟨s, h1⟩
      obtain ⟨q, hq⟩ := Deep.choose_lt each
      have c0 : ∀ i, i < m → ∀ j, j < 1 → w.cell? (((⟨b, off, spot⟩ : Addr).add (i * 1)).add j) = [Value.int .i64 (q i)][j]? := fun i hi => (World.cells?_some (hq i hi)).2.2
      have hc0 := c0 0 (by omega) 0 (by omega)
      have hspot : spot = none := by simpa [Addr.add] using World.cell?_spot hc0
      subst hspot
      have hlen : ((List.range len).map q).length = len := by simp
      refine ⟨_, (List.range len).map q, hcs, .inr ⟨b, off, cap, ?_, by rw [hlen], by omega, hm, ?_, ?_⟩, by omega⟩
      · intro e; rw [e] at hlen; simp at hlen; omega
      · have := World.block_lt_of_cell? w _ hc0; simpa [Addr.add] using this
      · intro i hi
        rw [hlen] at hi
        have cc := c0 i (by omega) 0 (by omega)
        rw [add_plainC, add_plainC, Nat.mul_one, Nat.add_zero] at cc
        simp only [List.getElem_map, List.getElem_range]
        simpa using cc
set_option maxRecDepth 20000 in
theorem open_tc {fuel : Nat} {cs : List Value} {x : DataW H × List MemPlace} (h : DataW.trod enc Try.prog w base spare held fuel 58 cs = some x) :
    ∃ (r : Int) (vw vh : Value) (ws : List ByteArray) (hs : List Int), cs = [.int .i64 r, vw, vh] ∧ RdS w vw ws ∧ RdI w vh hs ∧ ws.length ≤ maxLen ∧ (∀ s ∈ ws, s.size ≤ maxLen) ∧ hs.length ≤ maxLen := by
  obtain ⟨xs, n, _, _, hlen, hxl, hf⟩ := DataW.trod_struct Try.underlying58 h
  have h5 : cs.length = 3 := hlen.trans (by kernel_rfl)
  have hx5 : xs.length = 3 := hxl
  match cs, h5, xs, hx5 with
  | [c0, c1, c2], _, [y0, y1, y2], _ =>
    have ki : Try.prog.cellsOf 3 = 1 := by kernel_rfl
    have ks : Try.prog.cellsOf 29 = 1 := by kernel_rfl
    have kh : Try.prog.cellsOf 27 = 1 := by kernel_rfl
    have g0 : DataW.trod enc Try.prog w base spare held n 3 [c0] = some y0 := by
      have e := hf 0 _ rfl
      change DataW.trod enc Try.prog w base spare held n 3 (List.take (Try.prog.cellsOf 3) [c0, c1, c2]) = some y0 at e
      rw [ki] at e
      exact e
    have g1 : DataW.trod enc Try.prog w base spare held n 29 [c1] = some y1 := by
      have e := hf 1 _ rfl
      change DataW.trod enc Try.prog w base spare held n 29 (List.take (Try.prog.cellsOf 29) [c1, c2]) = some y1 at e
      rw [ks] at e
      exact e
    have g2 : DataW.trod enc Try.prog w base spare held n 27 [c2] = some y2 := by
      have e := hf 2 _ rfl
      change DataW.trod enc Try.prog w base spare held n 27 (List.take (Try.prog.cellsOf 27) [c2]) = some y2 at e
      rw [kh] at e
      exact e
    obtain ⟨z0, e0, _⟩ := DataW.trod_int Try.underlying3 g0
    obtain ⟨v1, ws, e1, hw, hwl, hwz⟩ := open_strs g1
    obtain ⟨v2, hs, e2, hh, hhl⟩ := open_intsC g2
    simp only [List.cons.injEq, and_true] at e0 e1 e2
    subst e0 e1 e2
    exact ⟨z0, c1, c2, ws, hs, rfl, hw, hh, hwl, hwz, hhl⟩
end
end Go.Proofs.Ytbjeonnaannofaa
