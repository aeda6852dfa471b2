/- Arguments of the type of an order read. -/
import Derived.Test.YtbjeonnaannofaaTxVal
import Derived.OpenShut
import Derived.ShutString
import Derived.ChangeOld
import Derived.WideShapes
namespace Go.Proofs.Ytbjeonnaannofaa
open Go.RowKit Go.ChangeShapes Go.WideShapes Go.ChangeAt
set_option linter.unusedVariables false
variable {H : Type} {enc : TypeId × Value → H} {w : World} {base : Nat} {spare : Nat → Bool} {held : Bool}

set_option maxRecDepth 20000 in
theorem open_tx {fuel : Nat} {cs : List Value} {x : DataW H × List MemPlace} (h : DataW.trod enc Try.prog w base spare held fuel 141 cs = some x) :
    ∃ t : Tx5, cs = [.int .i64 t.1, .string t.2.1, .string t.2.2.1, .int .i64 t.2.2.2.1, .int .i64 t.2.2.2.2] ∧ t.2.1.size ≤ maxLen ∧ t.2.2.1.size ≤ maxLen ∧ (Lit.int .i64 t.1).wf = true ∧ (Lit.int .i64 t.2.2.2.1).wf = true ∧ (Lit.int .i64 t.2.2.2.2).wf = true := by
  obtain ⟨xs, n, _, _, hlen, hxl, hf⟩ := DataW.trod_struct Try.underlying141 h
  have h5 : cs.length = 5 := hlen.trans (by kernel_rfl)
  have hx5 : xs.length = 5 := hxl
  match cs, h5, xs, hx5 with
  | [c0, c1, c2, c3, c4], _, [y0, y1, y2, y3, y4], _ =>
    have ks : Try.prog.cellsOf 9 = 1 := by kernel_rfl
    have ki : Try.prog.cellsOf 3 = 1 := by kernel_rfl
    have g0 : DataW.trod enc Try.prog w base spare held n 3 [c0] = some y0 := by
      have e := hf 0 _ rfl
      change DataW.trod enc Try.prog w base spare held n 3 (List.take (Try.prog.cellsOf 3) [c0, c1, c2, c3, c4]) = some y0 at e
      rw [ki] at e
      exact e
    have g1 : DataW.trod enc Try.prog w base spare held n 9 [c1] = some y1 := by
      have e := hf 1 _ rfl
      change DataW.trod enc Try.prog w base spare held n 9 (List.take (Try.prog.cellsOf 9) [c1, c2, c3, c4]) = some y1 at e
      rw [ks] at e
      exact e
    have g2 : DataW.trod enc Try.prog w base spare held n 9 [c2] = some y2 := by
      have e := hf 2 _ rfl
      change DataW.trod enc Try.prog w base spare held n 9 (List.take (Try.prog.cellsOf 9) [c2, c3, c4]) = some y2 at e
      rw [ks] at e
      exact e
    have g3 : DataW.trod enc Try.prog w base spare held n 3 [c3] = some y3 := by
      have e := hf 3 _ rfl
      change DataW.trod enc Try.prog w base spare held n 3 (List.take (Try.prog.cellsOf 3) [c3, c4]) = some y3 at e
      rw [ki] at e
      exact e
    have g4 : DataW.trod enc Try.prog w base spare held n 3 [c4] = some y4 := by
      have e := hf 4 _ rfl
      change DataW.trod enc Try.prog w base spare held n 3 (List.take (Try.prog.cellsOf 3) [c4]) = some y4 at e
      rw [ki] at e
      exact e
    obtain ⟨z0, e0, _, h0⟩ := DataW.trod_int Try.underlying3 g0
    obtain ⟨s1, e1, _, h1⟩ := DataW.trod_string Try.underlying9 g1
    obtain ⟨s2, e2, _, h2⟩ := DataW.trod_string Try.underlying9 g2
    obtain ⟨z3, e3, _, h3⟩ := DataW.trod_int Try.underlying3 g3
    obtain ⟨z4, e4, _, h4⟩ := DataW.trod_int Try.underlying3 g4
    simp only [List.cons.injEq, and_true] at e0 e1 e2 e3 e4
    subst e0 e1 e2 e3 e4
    exact ⟨(z0, s1, s2, z3, z4), rfl, h1, h2, h0, h3, h4⟩
end Go.Proofs.Ytbjeonnaannofaa
