/-
  No cell of these rows narrows 'for every input' (looked for: loops, veiled, ifaces, maps, wideKeys, modest, calm, conditions, laid).
  DERIVED. THE GIVEN ROWS OF THIS SEAT. 6 by the template 'for every input the law returns true; each argument reads behind the call as it read before'; 0 by the template 'total and deterministic' (their statements: YtmofbnmklldngaaTotals.lean).
  GIVEN WITH THE SEED: the statements are not yours to turn. If you find one false, say at which input.
  Laid BY PROGRAM, IN A SANDBOX (cutbox-rows.mjs): the forced cells as the released guide's own fill.sh prints them over the translation d003533cc9810f7c… (all of the seat's roots in one cut). By AI agents, Wed Nov 11 2026. No macro, syntax, notation, axiom, sorry.
-/
import Derived.Test.YtmofbnmklldngaaChecked
import GoSem.Claim
import GoSem.ClaimJoined
import GoSem.ClaimMapViews
import Derived.JoinedTies
import Derived.KernelRfl
namespace Go.Proofs.Ytmofbnmklldngaa
/- THE CELL 'sum', in the pinned program and in every row, IS THE sha256 OF THE DUMP (.gsa) THAT YtmofbnmklldngaaProg.lean LOADS. Nothing in Lean hashes anything: it is a label: what it is worth is what the hold of that sum in a sandbox is worth. -/
noncomputable def Try.pinned : Pinned := { name := "ytmofbnmklldngaa", sum := "d003533cc9810f7c94c41c397cfc76f7d224eb2df370cd221aee37d722f6fcb1", checked := Try.checked }
namespace Rows
def none {H : Type} : Left H := { results := [], args := [] }

/-- 'laws.FnTxs': WHATEVER THE INPUT: true; the input reads as it did. -/
def fnTxsSpec : ChangeSpec := { name := "fnTxs", fn := fun _ => fun
  | [d] => { results := [.lit (.bool true)], args := [d] }
  | _ => none }
def fnTxsRow : OpenClaim := { program := "ytmofbnmklldngaa", sum := "d003533cc9810f7c94c41c397cfc76f7d224eb2df370cd221aee37d722f6fcb1", func := "loop.example/g00194/laws.FnTxs", spec := "fnTxs", apart := false }
def FnTxsSaid : Prop := fnTxsRow.holds Try.pinned (OpenSpec.ofChange fnTxsSpec)

/-- ITS FALSE NEIGHBOUR: 'it returns false'. Refute it at one input. -/
def fnTxsWrong : ChangeSpec := { name := "fnTxs", fn := fun _ => fun
  | [d] => { results := [.lit (.bool false)], args := [d] }
  | _ => none }
def FnTxsWrongFalsely : Prop := fnTxsRow.holds Try.pinned (OpenSpec.ofChange fnTxsWrong)

/-- 'laws.FnLess': WHATEVER THE INPUT: true; the input reads as it did. -/
def fnLessSpec : ChangeSpec := { name := "fnLess", fn := fun _ => fun
  | [d] => { results := [.lit (.bool true)], args := [d] }
  | _ => none }
def fnLessRow : OpenClaim := { program := "ytmofbnmklldngaa", sum := "d003533cc9810f7c94c41c397cfc76f7d224eb2df370cd221aee37d722f6fcb1", func := "loop.example/g00194/laws.FnLess", spec := "fnLess", apart := false }
def FnLessSaid : Prop := fnLessRow.holds Try.pinned (OpenSpec.ofChange fnLessSpec)

/-- ITS FALSE NEIGHBOUR: 'it returns false'. Refute it at one input. -/
def fnLessWrong : ChangeSpec := { name := "fnLess", fn := fun _ => fun
  | [d] => { results := [.lit (.bool false)], args := [d] }
  | _ => none }
def FnLessWrongFalsely : Prop := fnLessRow.holds Try.pinned (OpenSpec.ofChange fnLessWrong)

/-- 'laws.FnExactTxOk': WHATEVER THE INPUT: true; the input reads as it did. -/
def fnExactTxOkSpec : ChangeSpec := { name := "fnExactTxOk", fn := fun _ => fun
  | [d] => { results := [.lit (.bool true)], args := [d] }
  | _ => none }
def fnExactTxOkRow : OpenClaim := { program := "ytmofbnmklldngaa", sum := "d003533cc9810f7c94c41c397cfc76f7d224eb2df370cd221aee37d722f6fcb1", func := "loop.example/g00194/laws.FnExactTxOk", spec := "fnExactTxOk", apart := false }
def FnExactTxOkSaid : Prop := fnExactTxOkRow.holds Try.pinned (OpenSpec.ofChange fnExactTxOkSpec)

/-- ITS FALSE NEIGHBOUR: 'it returns false'. Refute it at one input. -/
def fnExactTxOkWrong : ChangeSpec := { name := "fnExactTxOk", fn := fun _ => fun
  | [d] => { results := [.lit (.bool false)], args := [d] }
  | _ => none }
def FnExactTxOkWrongFalsely : Prop := fnExactTxOkRow.holds Try.pinned (OpenSpec.ofChange fnExactTxOkWrong)

/-- 'laws.FnExactPutTx': WHATEVER THE INPUT: true; the input reads as it did. -/
def fnExactPutTxSpec : ChangeSpec := { name := "fnExactPutTx", fn := fun _ => fun
  | [d1, d2] => { results := [.lit (.bool true)], args := [d1, d2] }
  | _ => none }
def fnExactPutTxRow : OpenClaim := { program := "ytmofbnmklldngaa", sum := "d003533cc9810f7c94c41c397cfc76f7d224eb2df370cd221aee37d722f6fcb1", func := "loop.example/g00194/laws.FnExactPutTx", spec := "fnExactPutTx", apart := false }
def FnExactPutTxSaid : Prop := fnExactPutTxRow.holds Try.pinned (OpenSpec.ofChange fnExactPutTxSpec)

/-- ITS FALSE NEIGHBOUR: 'it returns false'. Refute it at one input. -/
def fnExactPutTxWrong : ChangeSpec := { name := "fnExactPutTx", fn := fun _ => fun
  | [d1, d2] => { results := [.lit (.bool false)], args := [d1, d2] }
  | _ => none }
def FnExactPutTxWrongFalsely : Prop := fnExactPutTxRow.holds Try.pinned (OpenSpec.ofChange fnExactPutTxWrong)

/-- 'laws.FnExactGetTx': WHATEVER THE INPUT: true; the input reads as it did. -/
def fnExactGetTxSpec : ChangeSpec := { name := "fnExactGetTx", fn := fun _ => fun
  | [d1, d2] => { results := [.lit (.bool true)], args := [d1, d2] }
  | _ => none }
def fnExactGetTxRow : OpenClaim := { program := "ytmofbnmklldngaa", sum := "d003533cc9810f7c94c41c397cfc76f7d224eb2df370cd221aee37d722f6fcb1", func := "loop.example/g00194/laws.FnExactGetTx", spec := "fnExactGetTx", apart := false }
def FnExactGetTxSaid : Prop := fnExactGetTxRow.holds Try.pinned (OpenSpec.ofChange fnExactGetTxSpec)

/-- ITS FALSE NEIGHBOUR: 'it returns false'. Refute it at one input. -/
def fnExactGetTxWrong : ChangeSpec := { name := "fnExactGetTx", fn := fun _ => fun
  | [d1, d2] => { results := [.lit (.bool false)], args := [d1, d2] }
  | _ => none }
def FnExactGetTxWrongFalsely : Prop := fnExactGetTxRow.holds Try.pinned (OpenSpec.ofChange fnExactGetTxWrong)

/-- 'laws.FnExactTxLess': WHATEVER THE INPUT: true; the input reads as it did. -/
def fnExactTxLessSpec : ChangeSpec := { name := "fnExactTxLess", fn := fun _ => fun
  | [d1, d2] => { results := [.lit (.bool true)], args := [d1, d2] }
  | _ => none }
def fnExactTxLessRow : OpenClaim := { program := "ytmofbnmklldngaa", sum := "d003533cc9810f7c94c41c397cfc76f7d224eb2df370cd221aee37d722f6fcb1", func := "loop.example/g00194/laws.FnExactTxLess", spec := "fnExactTxLess", apart := false }
def FnExactTxLessSaid : Prop := fnExactTxLessRow.holds Try.pinned (OpenSpec.ofChange fnExactTxLessSpec)

/-- ITS FALSE NEIGHBOUR: 'it returns false'. Refute it at one input. -/
def fnExactTxLessWrong : ChangeSpec := { name := "fnExactTxLess", fn := fun _ => fun
  | [d1, d2] => { results := [.lit (.bool false)], args := [d1, d2] }
  | _ => none }
def FnExactTxLessWrongFalsely : Prop := fnExactTxLessRow.holds Try.pinned (OpenSpec.ofChange fnExactTxLessWrong)

/- THE SECOND FORM. 'bulk': how many values and letters a reading holds, each counted each time it is reached (what is shared counts as often as it is met; a slice's spare places count too). A statement '..UptoSaid' is the law's where the arguments, and the package variables that the reading takes, are together of bulk at most 1048576: NARROWER than '..Said'. Prove '..Said' where nothing that the law and all that it calls make is longer than what came in: it says more and counts as full. Else prove '..UptoSaid'. A law counts once. -/
mutual
def uptoBulk {H : Type} : DataW H → Nat
  | .lit (.string bytes) => bytes.length + 1
  | .lit _ => 1
  | .nil => 1
  | .ptr d => uptoBulk d + 1
  | .slice elems spare => uptoBulkAll elems + uptoBulkAll spare + 1
  | .agg parts => uptoBulkAll parts + 1
  | .iface _ d => uptoBulk d + 1
  | .map entries => uptoBulkEntries entries + 1
  | .held _ => 1
def uptoBulkAll {H : Type} : List (DataW H) → Nat
  | [] => 0
  | d :: r => uptoBulk d + uptoBulkAll r
def uptoBulkEntries {H : Type} : List (Lit × DataW H) → Nat
  | [] => 0
  | x :: r => uptoBulkEntry x + uptoBulkEntries r
def uptoBulkEntry {H : Type} : Lit × DataW H → Nat
  | (.string bytes, d) => bytes.length + uptoBulk d + 1
  | (_, d) => uptoBulk d + 1
 end
def uptoSmall : (H : Type) → List (DataW H) → Bool := fun _ ds => decide (uptoBulkAll ds ≤ 1048576)
def OpenSpec.upto (s : _root_.Go.ChangeSpec) : _root_.Go.OpenSpec := { _root_.Go.OpenSpec.ofChange s with cond := some uptoSmall }

/-- 'laws.FnTxs', WHERE WHAT IT READS IS OF BULK AT MOST 1048576: true; the input reads as it did. -/
def fnTxsUptoRow : OpenClaim := { program := "ytmofbnmklldngaa", sum := "d003533cc9810f7c94c41c397cfc76f7d224eb2df370cd221aee37d722f6fcb1", func := "loop.example/g00194/laws.FnTxs", spec := "fnTxs", apart := false, narrowed := true }
def FnTxsUptoSaid : Prop := fnTxsUptoRow.holds Try.pinned (OpenSpec.upto fnTxsSpec)

/-- 'laws.FnLess', WHERE WHAT IT READS IS OF BULK AT MOST 1048576: true; the input reads as it did. -/
def fnLessUptoRow : OpenClaim := { program := "ytmofbnmklldngaa", sum := "d003533cc9810f7c94c41c397cfc76f7d224eb2df370cd221aee37d722f6fcb1", func := "loop.example/g00194/laws.FnLess", spec := "fnLess", apart := false, narrowed := true }
def FnLessUptoSaid : Prop := fnLessUptoRow.holds Try.pinned (OpenSpec.upto fnLessSpec)

/-- 'laws.FnExactTxOk', WHERE WHAT IT READS IS OF BULK AT MOST 1048576: true; the input reads as it did. -/
def fnExactTxOkUptoRow : OpenClaim := { program := "ytmofbnmklldngaa", sum := "d003533cc9810f7c94c41c397cfc76f7d224eb2df370cd221aee37d722f6fcb1", func := "loop.example/g00194/laws.FnExactTxOk", spec := "fnExactTxOk", apart := false, narrowed := true }
def FnExactTxOkUptoSaid : Prop := fnExactTxOkUptoRow.holds Try.pinned (OpenSpec.upto fnExactTxOkSpec)

/-- 'laws.FnExactPutTx', WHERE WHAT IT READS IS OF BULK AT MOST 1048576: true; the input reads as it did. -/
def fnExactPutTxUptoRow : OpenClaim := { program := "ytmofbnmklldngaa", sum := "d003533cc9810f7c94c41c397cfc76f7d224eb2df370cd221aee37d722f6fcb1", func := "loop.example/g00194/laws.FnExactPutTx", spec := "fnExactPutTx", apart := false, narrowed := true }
def FnExactPutTxUptoSaid : Prop := fnExactPutTxUptoRow.holds Try.pinned (OpenSpec.upto fnExactPutTxSpec)

/-- 'laws.FnExactGetTx', WHERE WHAT IT READS IS OF BULK AT MOST 1048576: true; the input reads as it did. -/
def fnExactGetTxUptoRow : OpenClaim := { program := "ytmofbnmklldngaa", sum := "d003533cc9810f7c94c41c397cfc76f7d224eb2df370cd221aee37d722f6fcb1", func := "loop.example/g00194/laws.FnExactGetTx", spec := "fnExactGetTx", apart := false, narrowed := true }
def FnExactGetTxUptoSaid : Prop := fnExactGetTxUptoRow.holds Try.pinned (OpenSpec.upto fnExactGetTxSpec)

/-- 'laws.FnExactTxLess', WHERE WHAT IT READS IS OF BULK AT MOST 1048576: true; the input reads as it did. -/
def fnExactTxLessUptoRow : OpenClaim := { program := "ytmofbnmklldngaa", sum := "d003533cc9810f7c94c41c397cfc76f7d224eb2df370cd221aee37d722f6fcb1", func := "loop.example/g00194/laws.FnExactTxLess", spec := "fnExactTxLess", apart := false, narrowed := true }
def FnExactTxLessUptoSaid : Prop := fnExactTxLessUptoRow.holds Try.pinned (OpenSpec.upto fnExactTxLessSpec)

end Rows
end Go.Proofs.Ytmofbnmklldngaa
