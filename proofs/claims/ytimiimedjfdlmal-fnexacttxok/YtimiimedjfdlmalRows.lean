/-
  No cell of these rows narrows 'for every input' (looked for: loops, veiled, ifaces, maps, wideKeys, modest, calm, conditions, laid).
  DERIVED. THE GIVEN ROWS OF THIS SEAT. 6 by the template 'for every input the law returns true; each argument reads behind the call as it read before'; 0 by the template 'total and deterministic' (their statements: YtimiimedjfdlmalTotals.lean).
  GIVEN WITH THE SEED: the statements are not yours to turn. If you find one false, say at which input.
  Laid BY PROGRAM, IN A SANDBOX (cutbox-rows.mjs): the forced cells as the released guide's own fill.sh prints them over the translation 467b64738417ede1… (all of the seat's roots in one cut). By AI agents, Wed Nov 11 2026. No macro, syntax, notation, axiom, sorry.
-/
import Derived.Test.YtimiimedjfdlmalChecked
import GoSem.Claim
import GoSem.ClaimJoined
import GoSem.ClaimMapViews
import Derived.JoinedTies
import Derived.KernelRfl
namespace Go.Proofs.Ytimiimedjfdlmal
/- THE CELL 'sum', in the pinned program and in every row, IS THE sha256 OF THE DUMP (.gsa) THAT YtimiimedjfdlmalProg.lean LOADS. Nothing in Lean hashes anything: it is a label: what it is worth is what the hold of that sum in a sandbox is worth. -/
noncomputable def Try.pinned : Pinned := { name := "ytimiimedjfdlmal", sum := "467b64738417ede1a1d739eba1c5b4d4dceb18961c2dd769fae09ea4d70d85e1", checked := Try.checked }
namespace Rows
def none {H : Type} : Left H := { results := [], args := [] }

/-- 'laws.FnExactAcctOk': WHATEVER THE INPUT: true; the input reads as it did. -/
def fnExactAcctOkSpec : ChangeSpec := { name := "fnExactAcctOk", fn := fun _ => fun
  | [d] => { results := [.lit (.bool true)], args := [d] }
  | _ => none }
def fnExactAcctOkRow : OpenClaim := { program := "ytimiimedjfdlmal", sum := "467b64738417ede1a1d739eba1c5b4d4dceb18961c2dd769fae09ea4d70d85e1", func := "loop.example/g00194/laws.FnExactAcctOk", spec := "fnExactAcctOk", apart := false }
def FnExactAcctOkSaid : Prop := fnExactAcctOkRow.holds Try.pinned (OpenSpec.ofChange fnExactAcctOkSpec)

/-- ITS FALSE NEIGHBOUR: 'it returns false'. Refute it at one input. -/
def fnExactAcctOkWrong : ChangeSpec := { name := "fnExactAcctOk", fn := fun _ => fun
  | [d] => { results := [.lit (.bool false)], args := [d] }
  | _ => none }
def FnExactAcctOkWrongFalsely : Prop := fnExactAcctOkRow.holds Try.pinned (OpenSpec.ofChange fnExactAcctOkWrong)

/-- 'laws.FnExactAcctsOk': WHATEVER THE INPUT: true; the input reads as it did. -/
def fnExactAcctsOkSpec : ChangeSpec := { name := "fnExactAcctsOk", fn := fun _ => fun
  | [d] => { results := [.lit (.bool true)], args := [d] }
  | _ => none }
def fnExactAcctsOkRow : OpenClaim := { program := "ytimiimedjfdlmal", sum := "467b64738417ede1a1d739eba1c5b4d4dceb18961c2dd769fae09ea4d70d85e1", func := "loop.example/g00194/laws.FnExactAcctsOk", spec := "fnExactAcctsOk", apart := false }
def FnExactAcctsOkSaid : Prop := fnExactAcctsOkRow.holds Try.pinned (OpenSpec.ofChange fnExactAcctsOkSpec)

/-- ITS FALSE NEIGHBOUR: 'it returns false'. Refute it at one input. -/
def fnExactAcctsOkWrong : ChangeSpec := { name := "fnExactAcctsOk", fn := fun _ => fun
  | [d] => { results := [.lit (.bool false)], args := [d] }
  | _ => none }
def FnExactAcctsOkWrongFalsely : Prop := fnExactAcctsOkRow.holds Try.pinned (OpenSpec.ofChange fnExactAcctsOkWrong)

/-- 'laws.FnExactAcctAt': WHATEVER THE INPUT: true; the input reads as it did. -/
def fnExactAcctAtSpec : ChangeSpec := { name := "fnExactAcctAt", fn := fun _ => fun
  | [d1, d2] => { results := [.lit (.bool true)], args := [d1, d2] }
  | _ => none }
def fnExactAcctAtRow : OpenClaim := { program := "ytimiimedjfdlmal", sum := "467b64738417ede1a1d739eba1c5b4d4dceb18961c2dd769fae09ea4d70d85e1", func := "loop.example/g00194/laws.FnExactAcctAt", spec := "fnExactAcctAt", apart := false }
def FnExactAcctAtSaid : Prop := fnExactAcctAtRow.holds Try.pinned (OpenSpec.ofChange fnExactAcctAtSpec)

/-- ITS FALSE NEIGHBOUR: 'it returns false'. Refute it at one input. -/
def fnExactAcctAtWrong : ChangeSpec := { name := "fnExactAcctAt", fn := fun _ => fun
  | [d1, d2] => { results := [.lit (.bool false)], args := [d1, d2] }
  | _ => none }
def FnExactAcctAtWrongFalsely : Prop := fnExactAcctAtRow.holds Try.pinned (OpenSpec.ofChange fnExactAcctAtWrong)

/-- 'laws.FnExactWealth': WHATEVER THE INPUT: true; the input reads as it did. -/
def fnExactWealthSpec : ChangeSpec := { name := "fnExactWealth", fn := fun _ => fun
  | [d] => { results := [.lit (.bool true)], args := [d] }
  | _ => none }
def fnExactWealthRow : OpenClaim := { program := "ytimiimedjfdlmal", sum := "467b64738417ede1a1d739eba1c5b4d4dceb18961c2dd769fae09ea4d70d85e1", func := "loop.example/g00194/laws.FnExactWealth", spec := "fnExactWealth", apart := false }
def FnExactWealthSaid : Prop := fnExactWealthRow.holds Try.pinned (OpenSpec.ofChange fnExactWealthSpec)

/-- ITS FALSE NEIGHBOUR: 'it returns false'. Refute it at one input. -/
def fnExactWealthWrong : ChangeSpec := { name := "fnExactWealth", fn := fun _ => fun
  | [d] => { results := [.lit (.bool false)], args := [d] }
  | _ => none }
def FnExactWealthWrongFalsely : Prop := fnExactWealthRow.holds Try.pinned (OpenSpec.ofChange fnExactWealthWrong)

/-- 'laws.FnExactCredit': WHATEVER THE INPUT: true; the input reads as it did. -/
def fnExactCreditSpec : ChangeSpec := { name := "fnExactCredit", fn := fun _ => fun
  | [d1, d2, d3] => { results := [.lit (.bool true)], args := [d1, d2, d3] }
  | _ => none }
def fnExactCreditRow : OpenClaim := { program := "ytimiimedjfdlmal", sum := "467b64738417ede1a1d739eba1c5b4d4dceb18961c2dd769fae09ea4d70d85e1", func := "loop.example/g00194/laws.FnExactCredit", spec := "fnExactCredit", unfollowed := true, recurses := true, apart := false }
def FnExactCreditSaid : Prop := fnExactCreditRow.holds Try.pinned (OpenSpec.ofChange fnExactCreditSpec)

/-- ITS FALSE NEIGHBOUR: 'it returns false'. Refute it at one input. -/
def fnExactCreditWrong : ChangeSpec := { name := "fnExactCredit", fn := fun _ => fun
  | [d1, d2, d3] => { results := [.lit (.bool false)], args := [d1, d2, d3] }
  | _ => none }
def FnExactCreditWrongFalsely : Prop := fnExactCreditRow.holds Try.pinned (OpenSpec.ofChange fnExactCreditWrong)

/-- 'laws.FnExactTxOk': WHATEVER THE INPUT: true; the input reads as it did. -/
def fnExactTxOkSpec : ChangeSpec := { name := "fnExactTxOk", fn := fun _ => fun
  | [d] => { results := [.lit (.bool true)], args := [d] }
  | _ => none }
def fnExactTxOkRow : OpenClaim := { program := "ytimiimedjfdlmal", sum := "467b64738417ede1a1d739eba1c5b4d4dceb18961c2dd769fae09ea4d70d85e1", func := "loop.example/g00194/laws.FnExactTxOk", spec := "fnExactTxOk", apart := false }
def FnExactTxOkSaid : Prop := fnExactTxOkRow.holds Try.pinned (OpenSpec.ofChange fnExactTxOkSpec)

/-- ITS FALSE NEIGHBOUR: 'it returns false'. Refute it at one input. -/
def fnExactTxOkWrong : ChangeSpec := { name := "fnExactTxOk", fn := fun _ => fun
  | [d] => { results := [.lit (.bool false)], args := [d] }
  | _ => none }
def FnExactTxOkWrongFalsely : Prop := fnExactTxOkRow.holds Try.pinned (OpenSpec.ofChange fnExactTxOkWrong)

/- THE SECOND FORM. 'bulk': how many values and letters a reading holds, each counted each time it is reached (what is shared counts as often as it is met; a slice's spare places count too). A statement '..UptoSaid' is the law's where the arguments, and the package variables that the reading takes, are together of bulk at most 1048576: NARROWER than '..Said'. Prove '..Said' where nothing that the law and all that it calls make is longer than what came in: it says more and counts as full. Else prove '..UptoSaid'. A law counts once. -/
mutual
def uptoBulk {H : Type} : DataW H → Nat
  | .lit (.string bytes) => bytes.length + 1
  | .lit _ => 1
  | .nil => 1
  | .ptr d => uptoBulk d + 1
  | .slice elems spare => uptoBulkAll elems + uptoBulkAll spare + 1
  | .agg parts => uptoBulkAll parts + 1
  | .iface _ d => uptoBulk d + 1
  | .map entries => uptoBulkEntries entries + 1
  | .held _ => 1
def uptoBulkAll {H : Type} : List (DataW H) → Nat
  | [] => 0
  | d :: r => uptoBulk d + uptoBulkAll r
def uptoBulkEntries {H : Type} : List (Lit × DataW H) → Nat
  | [] => 0
  | x :: r => uptoBulkEntry x + uptoBulkEntries r
def uptoBulkEntry {H : Type} : Lit × DataW H → Nat
  | (.string bytes, d) => bytes.length + uptoBulk d + 1
  | (_, d) => uptoBulk d + 1
 end
def uptoSmall : (H : Type) → List (DataW H) → Bool := fun _ ds => decide (uptoBulkAll ds ≤ 1048576)
def OpenSpec.upto (s : _root_.Go.ChangeSpec) : _root_.Go.OpenSpec := { _root_.Go.OpenSpec.ofChange s with cond := some uptoSmall }

/-- 'laws.FnExactAcctOk', WHERE WHAT IT READS IS OF BULK AT MOST 1048576: true; the input reads as it did. -/
def fnExactAcctOkUptoRow : OpenClaim := { program := "ytimiimedjfdlmal", sum := "467b64738417ede1a1d739eba1c5b4d4dceb18961c2dd769fae09ea4d70d85e1", func := "loop.example/g00194/laws.FnExactAcctOk", spec := "fnExactAcctOk", apart := false, narrowed := true }
def FnExactAcctOkUptoSaid : Prop := fnExactAcctOkUptoRow.holds Try.pinned (OpenSpec.upto fnExactAcctOkSpec)

/-- 'laws.FnExactAcctsOk', WHERE WHAT IT READS IS OF BULK AT MOST 1048576: true; the input reads as it did. -/
def fnExactAcctsOkUptoRow : OpenClaim := { program := "ytimiimedjfdlmal", sum := "467b64738417ede1a1d739eba1c5b4d4dceb18961c2dd769fae09ea4d70d85e1", func := "loop.example/g00194/laws.FnExactAcctsOk", spec := "fnExactAcctsOk", apart := false, narrowed := true }
def FnExactAcctsOkUptoSaid : Prop := fnExactAcctsOkUptoRow.holds Try.pinned (OpenSpec.upto fnExactAcctsOkSpec)

/-- 'laws.FnExactAcctAt', WHERE WHAT IT READS IS OF BULK AT MOST 1048576: true; the input reads as it did. -/
def fnExactAcctAtUptoRow : OpenClaim := { program := "ytimiimedjfdlmal", sum := "467b64738417ede1a1d739eba1c5b4d4dceb18961c2dd769fae09ea4d70d85e1", func := "loop.example/g00194/laws.FnExactAcctAt", spec := "fnExactAcctAt", apart := false, narrowed := true }
def FnExactAcctAtUptoSaid : Prop := fnExactAcctAtUptoRow.holds Try.pinned (OpenSpec.upto fnExactAcctAtSpec)

/-- 'laws.FnExactWealth', WHERE WHAT IT READS IS OF BULK AT MOST 1048576: true; the input reads as it did. -/
def fnExactWealthUptoRow : OpenClaim := { program := "ytimiimedjfdlmal", sum := "467b64738417ede1a1d739eba1c5b4d4dceb18961c2dd769fae09ea4d70d85e1", func := "loop.example/g00194/laws.FnExactWealth", spec := "fnExactWealth", apart := false, narrowed := true }
def FnExactWealthUptoSaid : Prop := fnExactWealthUptoRow.holds Try.pinned (OpenSpec.upto fnExactWealthSpec)

/-- 'laws.FnExactCredit', WHERE WHAT IT READS IS OF BULK AT MOST 1048576: true; the input reads as it did. -/
def fnExactCreditUptoRow : OpenClaim := { program := "ytimiimedjfdlmal", sum := "467b64738417ede1a1d739eba1c5b4d4dceb18961c2dd769fae09ea4d70d85e1", func := "loop.example/g00194/laws.FnExactCredit", spec := "fnExactCredit", unfollowed := true, recurses := true, apart := false, narrowed := true }
def FnExactCreditUptoSaid : Prop := fnExactCreditUptoRow.holds Try.pinned (OpenSpec.upto fnExactCreditSpec)

/-- 'laws.FnExactTxOk', WHERE WHAT IT READS IS OF BULK AT MOST 1048576: true; the input reads as it did. -/
def fnExactTxOkUptoRow : OpenClaim := { program := "ytimiimedjfdlmal", sum := "467b64738417ede1a1d739eba1c5b4d4dceb18961c2dd769fae09ea4d70d85e1", func := "loop.example/g00194/laws.FnExactTxOk", spec := "fnExactTxOk", apart := false, narrowed := true }
def FnExactTxOkUptoSaid : Prop := fnExactTxOkUptoRow.holds Try.pinned (OpenSpec.upto fnExactTxOkSpec)

end Rows
end Go.Proofs.Ytimiimedjfdlmal
