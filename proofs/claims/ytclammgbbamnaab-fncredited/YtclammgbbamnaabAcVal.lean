/- An account by value: made, held against another, its size. -/
import Derived.Test.YtclammgbbamnaabAcEq
import Derived.Test.YtclammgbbamnaabStrs
namespace Go.Proofs.Ytclammgbbamnaab
open Go.RowKit
set_option linter.unusedVariables false

/-- An account: its name, what is free, how many orders, what is at stake, what leaves. -/
abbrev Ac := ByteArray × Int × Int × Int × List (Int × Int)
/-- Its value, its list of what leaves being lv. -/
def acV (a : Ac) (lv : Value) : Value := .agg #[.string a.1, .int .i64 a.2.1, .int .i64 a.2.2.1, .int .i64 a.2.2.2.1, lv]


end Go.Proofs.Ytclammgbbamnaab
