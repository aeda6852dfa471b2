/- The model's certificates: what is right. -/
import Derived.Test.YtflccenbfeidhabCtVal
import Derived.Test.YtflccenbfeidhabCtMem
import Derived.Test.YtflccenbfeidhabVsQuo
import Derived.Test.YtflccenbfeidhabNamesOk
namespace Go.Proofs.Ytflccenbfeidhab
open Go.RowKit
set_option linter.unusedVariables false

/-- All that is weighed is not great. -/
def ModV (l : List Vl) : Prop := (0 ≤ totalV l ∧ totalV l ≤ 1000000000) ∧ ∀ ns, 0 ≤ weightV l ns ∧ weightV l ns ≤ 1000000000
/-- A certificate's value: its round, its block, its names being vw. -/
def qcV (r b : Int) (vw : Value) : Value := .agg #[.int .i64 r, .int .i64 b, vw]
def rootB (r b : Int) (ns : List ByteArray) : Bool := decide (r = 0) && (decide (b = -1) && decide (ns.length = 0))
def allV (l : List Vl) (ns : List ByteArray) : Bool := ns.all (fun s => hasN (l.map (·.1)) s) && nmsB ns
def quoB (l : List Vl) (ns : List ByteArray) : Bool := decide (2 * totalV l < 3 * weightV l ns)
/-- Whether a certificate is right. -/
def qcB (l : List Vl) (r b : Int) (ns : List ByteArray) : Bool := rootB r b ns || (inB r 1 10000 && (inB b 0 100000 && (allV l ns && quoB l ns)))
end Go.Proofs.Ytflccenbfeidhab
