/- Which blocks are the same, plainly. -/
import Derived.Test.YtmjnkcggomnnjaaZaBkRowE
namespace Go.Proofs.Ytmjnkcggomnnjaa
open Go.RowKit
set_option linter.unusedVariables false

def sq9 (a b : Bk) : Bool := decide (a.qr = b.qr) && (decide (a.qb = b.qb) && decide (a.qw = b.qw))
def st9 (a b : Bk) : Bool := decide (a.tr = b.tr) && (decide (a.tw = b.tw) && decide (a.th = b.th))
/-- Whether two blocks are the same. -/
def sb9 (a b : Bk) : Bool := decide (a.id = b.id) && (decide (a.ep = b.ep) && (decide (a.rd = b.rd) && (decide (a.md = b.md) && (sq9 a b && (st9 a b && (decide (a.ts = b.ts) && (decide (a.en = b.en) && (decide (a.nx = b.nx) && decide (a.rt = b.rt)))))))))
theorem sb9_self (b : Bk) : sb9 b b = true := by simp [sb9, sq9, st9]
theorem int_bf {a b : Int} (h : a ≠ b) : (a == b) = false := by rw [beq_eq_false_iff_ne]; exact h
end Go.Proofs.Ytmjnkcggomnnjaa
