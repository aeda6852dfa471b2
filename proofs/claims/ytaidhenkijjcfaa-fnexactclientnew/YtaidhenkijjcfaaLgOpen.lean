/- A ledger that came in, opened: what it reads as. -/
import Derived.Test.YtaidhenkijjcfaaAcOpen
import Derived.Test.YtaidhenkijjcfaaLgVal
namespace Go.Proofs.Ytaidhenkijjcfaa
open Go.RowKit Go.ChangeShapes Go.WideShapes
set_option linter.unusedVariables false

section
variable {H : Type} {enc : TypeId × Value → H} {w : World} {base : Nat} {spare : Nat → Bool} {held : Bool}

set_option maxRecDepth 20000 in
theorem open_ledger {fuel : Nat} {cs : List Value} {x : DataW H × List MemPlace} (h : DataW.trod enc Try.prog w base spare held fuel 24 cs = some x) :
    ∃ (e : Int) (v : Value) (l : List Ac), cs = [.int .i64 e, v] ∧ RdA w v l ∧ l.length ≤ maxLen ∧ ∀ q ∈ l, q.1.size ≤ maxLen ∧ q.2.2.2.2.length ≤ maxLen := by
  obtain ⟨xs, n, _, _, hlen, hxl, hf⟩ := DataW.trod_struct Try.underlying24 h
  have h5 : cs.length = 2 := hlen.trans (by kernel_rfl)
  have hx5 : xs.length = 2 := hxl
  match cs, h5, xs, hx5 with
  | [c0, c1], _, [y0, y1], _ =>
    have ki : Try.prog.cellsOf 3 = 1 := by kernel_rfl
    have kl : Try.prog.cellsOf 22 = 1 := by kernel_rfl
    have g0 : DataW.trod enc Try.prog w base spare held n 3 [c0] = some y0 := by
      have e := hf 0 _ rfl
      change DataW.trod enc Try.prog w base spare held n 3 (List.take (Try.prog.cellsOf 3) [c0, c1]) = some y0 at e
      rw [ki] at e
      exact e
    have g1 : DataW.trod enc Try.prog w base spare held n 22 [c1] = some y1 := by
      have e := hf 1 _ rfl
      change DataW.trod enc Try.prog w base spare held n 22 (List.take (Try.prog.cellsOf 22) [c1]) = some y1 at e
      rw [kl] at e
      exact e
    obtain ⟨z0, e0, _⟩ := DataW.trod_int Try.underlying3 g0
    have hsl : ∃ a len cap, c1 = .slice a len cap := by
      rcases Deep.open_slice Try.underlying22 g1 with ⟨hcs, _⟩ | ⟨ad, len', cap', m, n', D, Pl, hcs, _⟩
      · simp only [List.cons.injEq, and_true] at hcs; exact ⟨_, _, _, hcs⟩
      · simp only [List.cons.injEq, and_true] at hcs; exact ⟨_, _, _, hcs⟩
    obtain ⟨a, len, cap, rfl⟩ := hsl
    obtain ⟨l, rfl, hr, hl, hq⟩ := open_accS g1
    simp only [List.cons.injEq, and_true] at e0
    subst e0
    exact ⟨z0, _, l, rfl, hr, hl, hq⟩
end
end Go.Proofs.Ytaidhenkijjcfaa
