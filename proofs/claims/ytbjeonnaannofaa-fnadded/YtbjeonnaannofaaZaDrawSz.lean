/- How long what is drawn may be. -/
import Derived.Test.YtbjeonnaannofaaZaStrs
namespace Go.Proofs.Ytbjeonnaannofaa
open Go.RowKit
set_option linter.unusedVariables false

set_option maxRecDepth 20000 in
theorem l1Size_any (cv : Value) (code : List UInt8) (most : Nat) (w : World) (hr : RdB w cv code) (hl : code.length ≤ 1048576) (hm : most ≤ 1000) :
    Calls Try.prog 36 #[cv, .int .i64 (most : Int)] w fun e w' => (∃ n : Nat, e = .returned (.int .i64 (n : Int)) ∧ n ≤ most) ∧ w' = w := by
  obtain ⟨a, c, rfl⟩ : ∃ a c, cv = .slice a code.length c := by
    rcases hr with ⟨a, c, h1, h2, -⟩ | ⟨b, off, c, h0, h1, _⟩
    · subst h2; exact ⟨a, c, h1⟩
    · exact ⟨_, c, h1⟩
  clear hr
  obtain ⟨q, hq⟩ : ∃ q : Nat, (code.length : Int) / 12 = (q : Int) := ⟨code.length / 12, by omega⟩
  have hqb : q ≤ 1048576 := by omega
  by_cases h : (most : Int) < 3 + (q : Int)
  · go_enter Try.func36, Try.ntmps36
    go_wp2
    go_ret
    exact ⟨⟨most, rfl, Nat.le_refl _⟩, rfl⟩
  · have h2 : 3 + q ≤ most := by omega
    go_enter Try.func36, Try.ntmps36
    go_wp2
    go_ret
    exact ⟨⟨3 + q, by congr 2, h2⟩, rfl⟩
end Go.Proofs.Ytbjeonnaannofaa
