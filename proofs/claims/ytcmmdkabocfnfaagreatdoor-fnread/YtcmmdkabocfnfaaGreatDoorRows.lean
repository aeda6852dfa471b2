/-
  NARROWER THAN 'FOR EVERY INPUT', by the rows' own cells (each row's printed sentence says how): FnExactGetBlock: ifaces, laid · FnRead: ifaces, laid · FnBlocks: ifaces, laid.
  DERIVED. THE GIVEN ROWS OF THIS SEAT. 3 by the template 'for every input the law returns true; each argument reads behind the call as it read before'; 0 by the template 'total and deterministic' (their statements: YtcmmdkabocfnfaaGreatDoorTotals.lean).
  GIVEN WITH THE SEED: the statements are not yours to turn. If you find one false, say at which input.
  Laid BY PROGRAM, IN A SANDBOX (cutbox-rows.mjs): the forced cells as the released guide's own fill.sh prints them over the translation ee53ce9e300ee57b… (all of the seat's roots in one cut). By AI agents, Wed Nov 11 2026. No macro, syntax, notation, axiom, sorry.
-/
import Derived.Test.YtcmmdkabocfnfaaGreatDoorChecked
import GoSem.Claim
import GoSem.ClaimJoined
import GoSem.ClaimMapViews
import Derived.JoinedTies
import Derived.KernelRfl
namespace Go.Proofs.YtcmmdkabocfnfaaGreatDoor
/- THE CELL 'sum', in the pinned program and in every row, IS THE sha256 OF THE DUMP (.gsa) THAT YtcmmdkabocfnfaaGreatDoorProg.lean LOADS. Nothing in Lean hashes anything: it is a label: what it is worth is what the hold of that sum in a sandbox is worth. -/
noncomputable def Tryz.pinned : Pinned := { name := "ytcmmdkabocfnfaagreatdoor", sum := "ee53ce9e300ee57b6188010ae7c39f98e5f7537fa7ac4b4325072791e765b53a", checked := Tryz.checked }
namespace Rows
def none {H : Type} : Left H := { results := [], args := [] }

/- WHAT THE LISTED PACKAGE-LEVEL VARIABLES READ AS WHEN THE CALL BEGINS. Each datum BY PROGRAM (the guide's laid-datum.mjs) off the statement by which the dump's own 'gosem.cut.vars' lays the variable. In a bare row this is a premise. The card (YtcmmdkabocfnfaaGreatDoorCards.lean) ties it to the program's text. -/
def laid_loop_example_g00194_impl_errNoBlock {H : Type} : DataW H := .iface "*errors.errorString" (.ptr (.agg [.lit (.string [116, 104, 101, 115, 101, 32, 98, 121, 116, 101, 115, 32, 97, 114, 101, 32, 110, 111, 32, 98, 108, 111, 99, 107])]))

/-- 'laws.FnExactGetBlock': WHATEVER THE INPUT: true; the input reads as it did. -/
def fnExactGetBlockSpec : ChangeSpec := { name := "fnExactGetBlock", vars := ["loop.example/g00194/impl.errNoBlock"], fn := fun _ => fun
  | [d, g1] => { results := [.lit (.bool true)], args := [d], vars := [g1] }
  | _ => none }
def fnExactGetBlockRow : OpenClaim := { program := "ytcmmdkabocfnfaagreatdoor", sum := "ee53ce9e300ee57b6188010ae7c39f98e5f7537fa7ac4b4325072791e765b53a", func := "loop.example/g00194/laws.FnExactGetBlock", spec := "fnExactGetBlock", inPlace := ["internal/reflectlite.TypeOf"], unfollowed := true, recurses := true, named := ["loop.example/g00194/impl.errNoBlock"], ifaces := true, apart := false, laid := [("loop.example/g00194/impl.errNoBlock", laid_loop_example_g00194_impl_errNoBlock)] }
def FnExactGetBlockSaid : Prop := fnExactGetBlockRow.holds Tryz.pinned (OpenSpec.ofChange fnExactGetBlockSpec)

/-- ITS FALSE NEIGHBOUR: 'it returns false'. Refute it at one input. -/
def fnExactGetBlockWrong : ChangeSpec := { name := "fnExactGetBlock", vars := ["loop.example/g00194/impl.errNoBlock"], fn := fun _ => fun
  | [d, g1] => { results := [.lit (.bool false)], args := [d], vars := [g1] }
  | _ => none }
def FnExactGetBlockWrongFalsely : Prop := fnExactGetBlockRow.holds Tryz.pinned (OpenSpec.ofChange fnExactGetBlockWrong)

/-- 'laws.FnRead': WHATEVER THE INPUT: true; the input reads as it did. -/
def fnReadSpec : ChangeSpec := { name := "fnRead", vars := ["loop.example/g00194/impl.errNoBlock"], fn := fun _ => fun
  | [d, g1] => { results := [.lit (.bool true)], args := [d], vars := [g1] }
  | _ => none }
def fnReadRow : OpenClaim := { program := "ytcmmdkabocfnfaagreatdoor", sum := "ee53ce9e300ee57b6188010ae7c39f98e5f7537fa7ac4b4325072791e765b53a", func := "loop.example/g00194/laws.FnRead", spec := "fnRead", inPlace := ["internal/reflectlite.TypeOf"], unfollowed := true, recurses := true, named := ["loop.example/g00194/impl.errNoBlock"], ifaces := true, apart := false, laid := [("loop.example/g00194/impl.errNoBlock", laid_loop_example_g00194_impl_errNoBlock)] }
def FnReadSaid : Prop := fnReadRow.holds Tryz.pinned (OpenSpec.ofChange fnReadSpec)

/-- ITS FALSE NEIGHBOUR: 'it returns false'. Refute it at one input. -/
def fnReadWrong : ChangeSpec := { name := "fnRead", vars := ["loop.example/g00194/impl.errNoBlock"], fn := fun _ => fun
  | [d, g1] => { results := [.lit (.bool false)], args := [d], vars := [g1] }
  | _ => none }
def FnReadWrongFalsely : Prop := fnReadRow.holds Tryz.pinned (OpenSpec.ofChange fnReadWrong)

/-- 'laws.FnBlocks': WHATEVER THE INPUT: true; the input reads as it did. -/
def fnBlocksSpec : ChangeSpec := { name := "fnBlocks", vars := ["loop.example/g00194/impl.errNoBlock"], fn := fun _ => fun
  | [d, g1] => { results := [.lit (.bool true)], args := [d], vars := [g1] }
  | _ => none }
def fnBlocksRow : OpenClaim := { program := "ytcmmdkabocfnfaagreatdoor", sum := "ee53ce9e300ee57b6188010ae7c39f98e5f7537fa7ac4b4325072791e765b53a", func := "loop.example/g00194/laws.FnBlocks", spec := "fnBlocks", inPlace := ["internal/reflectlite.TypeOf"], unfollowed := true, recurses := true, named := ["loop.example/g00194/impl.errNoBlock"], ifaces := true, apart := false, laid := [("loop.example/g00194/impl.errNoBlock", laid_loop_example_g00194_impl_errNoBlock)] }
def FnBlocksSaid : Prop := fnBlocksRow.holds Tryz.pinned (OpenSpec.ofChange fnBlocksSpec)

/-- ITS FALSE NEIGHBOUR: 'it returns false'. Refute it at one input. -/
def fnBlocksWrong : ChangeSpec := { name := "fnBlocks", vars := ["loop.example/g00194/impl.errNoBlock"], fn := fun _ => fun
  | [d, g1] => { results := [.lit (.bool false)], args := [d], vars := [g1] }
  | _ => none }
def FnBlocksWrongFalsely : Prop := fnBlocksRow.holds Tryz.pinned (OpenSpec.ofChange fnBlocksWrong)

/- THE SECOND FORM. 'bulk': how many values and letters a reading holds, each counted each time it is reached (what is shared counts as often as it is met; a slice's spare places count too). A statement '..UptoSaid' is the law's where the arguments, and the package variables that the reading takes, are together of bulk at most 1048576: NARROWER than '..Said'. Prove '..Said' where nothing that the law and all that it calls make is longer than what came in: it says more and counts as full. Else prove '..UptoSaid'. A law counts once. -/
mutual
def uptoBulk {H : Type} : DataW H → Nat
  | .lit (.string bytes) => bytes.length + 1
  | .lit _ => 1
  | .nil => 1
  | .ptr d => uptoBulk d + 1
  | .slice elems spare => uptoBulkAll elems + uptoBulkAll spare + 1
  | .agg parts => uptoBulkAll parts + 1
  | .iface _ d => uptoBulk d + 1
  | .map entries => uptoBulkEntries entries + 1
  | .held _ => 1
def uptoBulkAll {H : Type} : List (DataW H) → Nat
  | [] => 0
  | d :: r => uptoBulk d + uptoBulkAll r
def uptoBulkEntries {H : Type} : List (Lit × DataW H) → Nat
  | [] => 0
  | x :: r => uptoBulkEntry x + uptoBulkEntries r
def uptoBulkEntry {H : Type} : Lit × DataW H → Nat
  | (.string bytes, d) => bytes.length + uptoBulk d + 1
  | (_, d) => uptoBulk d + 1
 end
def uptoSmall : (H : Type) → List (DataW H) → Bool := fun _ ds => decide (uptoBulkAll ds ≤ 1048576)
def OpenSpec.upto (s : _root_.Go.ChangeSpec) : _root_.Go.OpenSpec := { _root_.Go.OpenSpec.ofChange s with cond := some uptoSmall }

/-- 'laws.FnExactGetBlock', WHERE WHAT IT READS IS OF BULK AT MOST 1048576: true; the input reads as it did. -/
def fnExactGetBlockUptoRow : OpenClaim := { program := "ytcmmdkabocfnfaagreatdoor", sum := "ee53ce9e300ee57b6188010ae7c39f98e5f7537fa7ac4b4325072791e765b53a", func := "loop.example/g00194/laws.FnExactGetBlock", spec := "fnExactGetBlock", inPlace := ["internal/reflectlite.TypeOf"], unfollowed := true, recurses := true, named := ["loop.example/g00194/impl.errNoBlock"], ifaces := true, apart := false, laid := [("loop.example/g00194/impl.errNoBlock", laid_loop_example_g00194_impl_errNoBlock)], narrowed := true }
def FnExactGetBlockUptoSaid : Prop := fnExactGetBlockUptoRow.holds Tryz.pinned (OpenSpec.upto fnExactGetBlockSpec)

/-- 'laws.FnRead', WHERE WHAT IT READS IS OF BULK AT MOST 1048576: true; the input reads as it did. -/
def fnReadUptoRow : OpenClaim := { program := "ytcmmdkabocfnfaagreatdoor", sum := "ee53ce9e300ee57b6188010ae7c39f98e5f7537fa7ac4b4325072791e765b53a", func := "loop.example/g00194/laws.FnRead", spec := "fnRead", inPlace := ["internal/reflectlite.TypeOf"], unfollowed := true, recurses := true, named := ["loop.example/g00194/impl.errNoBlock"], ifaces := true, apart := false, laid := [("loop.example/g00194/impl.errNoBlock", laid_loop_example_g00194_impl_errNoBlock)], narrowed := true }
def FnReadUptoSaid : Prop := fnReadUptoRow.holds Tryz.pinned (OpenSpec.upto fnReadSpec)

/-- 'laws.FnBlocks', WHERE WHAT IT READS IS OF BULK AT MOST 1048576: true; the input reads as it did. -/
def fnBlocksUptoRow : OpenClaim := { program := "ytcmmdkabocfnfaagreatdoor", sum := "ee53ce9e300ee57b6188010ae7c39f98e5f7537fa7ac4b4325072791e765b53a", func := "loop.example/g00194/laws.FnBlocks", spec := "fnBlocks", inPlace := ["internal/reflectlite.TypeOf"], unfollowed := true, recurses := true, named := ["loop.example/g00194/impl.errNoBlock"], ifaces := true, apart := false, laid := [("loop.example/g00194/impl.errNoBlock", laid_loop_example_g00194_impl_errNoBlock)], narrowed := true }
def FnBlocksUptoSaid : Prop := fnBlocksUptoRow.holds Tryz.pinned (OpenSpec.upto fnBlocksSpec)

end Rows
end Go.Proofs.YtcmmdkabocfnfaaGreatDoor
