/- A digest: the blocks of what is padded, one behind the other. -/
import Derived.Test.YtknmjahipekgpaaDoorShaBe
import Derived.Test.YtknmjahipekgpaaDoorPadSpec
namespace Go.Proofs.YtknmjahipekgpaaDoor
open Go.RowKit
set_option linter.unusedVariables false

def blk (P : List UInt8) (t : Nat) : List UInt8 := (P.drop (64 * t)).take 64
def shaFold (P : List UInt8) : Nat → S8
  | 0 => hC
  | t + 1 => blockS (shaFold P t) (wordsB (blk P t))
theorem shaFold_lt (P : List UInt8) : ∀ t, (shaFold P t).Lt
  | 0 => hC_lt
  | t + 1 => blockS_lt _ _
theorem blk_len (P : List UInt8) (t : Nat) (h : 64 * t + 64 ≤ P.length) : (blk P t).length = 64 := by simp [blk]; omega
theorem blk_at (P : List UInt8) (t i : Nat) (h : 64 * t + 64 ≤ P.length) (hi : i < (blk P t).length) : (blk P t)[i] = P[64 * t + i]'(by rw [blk_len P t h] at hi; omega) := by
  simp [blk]
def padQ (n : Nat) : Nat := (n + 72) / 64
theorem padB_q (l : List UInt8) : (padB l).length = 64 * padQ l.length := by
  have : (padB l).length = l.length + 1 + padZ l.length + 8 := by simp [padB, be8_len]; omega
  rw [this]; unfold padZ padQ; omega
end Go.Proofs.YtknmjahipekgpaaDoor
