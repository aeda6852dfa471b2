/- The kit's cut, with its range reckoned. The model's orders one behind the other. -/
import Derived.Deep.DeepCutAuto
import Derived.Test.YtbbkeebfginlfaaGreatDoorZfAcMem
import Derived.Test.YtbbkeebfginlfaaGreatDoorZfShaTail
import Derived.Test.YtbbkeebfginlfaaGreatDoorZfLgApplyS
import Derived.Test.YtbbkeebfginlfaaGreatDoorZfTxRow
namespace Go.Proofs.YtbbkeebfginlfaaGreatDoor
end Go.Proofs.YtbbkeebfginlfaaGreatDoor

namespace Go.Proofs.YtbbkeebfginlfaaGreatDoor
open Go.RowKit
set_option linter.unusedVariables false

theorem RdT.at {w : World} {a : Option Addr} {cap i : Nat} {l : List Tx5} (h : RdT w (.slice a l.length cap) l) (hi : i < l.length) :
    ∃ b off, a = some ⟨b, off, none⟩ ∧ l.length ≤ cap ∧ cap ≤ maxLen ∧ b < w.heap.size ∧ TxAt w b (off + i * 5) l[i] := by
  rcases h with ⟨a', cap', e, rfl, -⟩ | ⟨b, off, cap', h0, e, h1, h2, h3, h4⟩
  · simp at hi
  · simp only [Value.slice.injEq, true_and] at e
    obtain ⟨rfl, rfl⟩ := e
    exact ⟨b, off, rfl, h1, h2, h3, h4 i hi⟩
end Go.Proofs.YtbbkeebfginlfaaGreatDoor
