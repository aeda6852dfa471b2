/- Orders by value: made, held against another, their size; what is right, which is less (plain). -/
import Derived.Test.YtjgkoadffdcanaaZcStrs
import Derived.Test.YtjgkoadffdcanaaZcNames
namespace Go.Proofs.Ytjgkoadffdcanaa
open Go.RowKit
set_option linter.unusedVariables false

/-- An order: its kind, from whom, to whom, how much, which one. -/
abbrev Tx5 := Int × ByteArray × ByteArray × Int × Int
def txV (t : Tx5) : Value := .agg #[.int .i64 t.1, .string t.2.1, .string t.2.2.1, .int .i64 t.2.2.2.1, .int .i64 t.2.2.2.2]
/-- Whether it is right. -/
def txB (t : Tx5) : Bool := nmB t.2.1 && (inB t.2.2.2.1 1 1000000 && (inB t.2.2.2.2 0 10000 && (if t.1 = 1 then nmB t.2.2.1 else (inB t.1 2 3 && decide (t.2.2.1 = ByteArray.empty)))))
/-- Whether one is less than another. -/
def lessT (a b : Tx5) : Bool :=
  if a.2.1 ≠ b.2.1 then Op.bytesLess a.2.1.toList b.2.1.toList
  else if a.2.2.2.2 ≠ b.2.2.2.2 then decide (a.2.2.2.2 < b.2.2.2.2)
  else if a.1 ≠ b.1 then decide (a.1 < b.1)
  else if a.2.2.1 ≠ b.2.2.1 then Op.bytesLess a.2.2.1.toList b.2.2.1.toList
  else decide (a.2.2.2.1 < b.2.2.2.1)

end Go.Proofs.Ytjgkoadffdcanaa
