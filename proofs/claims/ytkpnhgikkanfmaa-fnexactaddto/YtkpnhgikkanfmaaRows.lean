/-
  No cell of these rows narrows 'for every input' (looked for: loops, veiled, ifaces, maps, wideKeys, modest, calm, conditions, laid).
  DERIVED. THE GIVEN ROWS OF THIS SEAT. 6 by the template 'for every input the law returns true; each argument reads behind the call as it read before'; 0 by the template 'total and deterministic' (their statements: YtkpnhgikkanfmaaTotals.lean).
  GIVEN WITH THE SEED: the statements are not yours to turn. If you find one false, say at which input.
  Laid BY PROGRAM, IN A SANDBOX (cutbox-rows.mjs): the forced cells as the released guide's own fill.sh prints them over the translation fe12932845abf825… (all of the seat's roots in one cut). By AI agents, Wed Nov 11 2026. No macro, syntax, notation, axiom, sorry.
-/
import Derived.Test.YtkpnhgikkanfmaaChecked
import GoSem.Claim
import GoSem.ClaimJoined
import GoSem.ClaimMapViews
import Derived.JoinedTies
import Derived.KernelRfl
namespace Go.Proofs.Ytkpnhgikkanfmaa
/- THE CELL 'sum', in the pinned program and in every row, IS THE sha256 OF THE DUMP (.gsa) THAT YtkpnhgikkanfmaaProg.lean LOADS. Nothing in Lean hashes anything: it is a label: what it is worth is what the hold of that sum in a sandbox is worth. -/
noncomputable def Try.pinned : Pinned := { name := "ytkpnhgikkanfmaa", sum := "fe12932845abf8252fa0ef974e6b4c9dd612512a5c73edac8b7d18342b293bb8", checked := Try.checked }
namespace Rows
def none {H : Type} : Left H := { results := [], args := [] }

/-- 'laws.FnExactPoolOk': WHATEVER THE INPUT: true; the input reads as it did. -/
def fnExactPoolOkSpec : ChangeSpec := { name := "fnExactPoolOk", fn := fun _ => fun
  | [d] => { results := [.lit (.bool true)], args := [d] }
  | _ => none }
def fnExactPoolOkRow : OpenClaim := { program := "ytkpnhgikkanfmaa", sum := "fe12932845abf8252fa0ef974e6b4c9dd612512a5c73edac8b7d18342b293bb8", func := "loop.example/g00194/laws.FnExactPoolOk", spec := "fnExactPoolOk", apart := false }
def FnExactPoolOkSaid : Prop := fnExactPoolOkRow.holds Try.pinned (OpenSpec.ofChange fnExactPoolOkSpec)

/-- ITS FALSE NEIGHBOUR: 'it returns false'. Refute it at one input. -/
def fnExactPoolOkWrong : ChangeSpec := { name := "fnExactPoolOk", fn := fun _ => fun
  | [d] => { results := [.lit (.bool false)], args := [d] }
  | _ => none }
def FnExactPoolOkWrongFalsely : Prop := fnExactPoolOkRow.holds Try.pinned (OpenSpec.ofChange fnExactPoolOkWrong)

/-- 'laws.FnExactPoolAdd': WHATEVER THE INPUT: true; the input reads as it did. -/
def fnExactPoolAddSpec : ChangeSpec := { name := "fnExactPoolAdd", fn := fun _ => fun
  | [d1, d2] => { results := [.lit (.bool true)], args := [d1, d2] }
  | _ => none }
def fnExactPoolAddRow : OpenClaim := { program := "ytkpnhgikkanfmaa", sum := "fe12932845abf8252fa0ef974e6b4c9dd612512a5c73edac8b7d18342b293bb8", func := "loop.example/g00194/laws.FnExactPoolAdd", spec := "fnExactPoolAdd", inPlace := ["slices.overlaps[loop.example/g00194/impl.Tx]"], unfollowed := true, recurses := true, apart := false }
def FnExactPoolAddSaid : Prop := fnExactPoolAddRow.holds Try.pinned (OpenSpec.ofChange fnExactPoolAddSpec)

/-- ITS FALSE NEIGHBOUR: 'it returns false'. Refute it at one input. -/
def fnExactPoolAddWrong : ChangeSpec := { name := "fnExactPoolAdd", fn := fun _ => fun
  | [d1, d2] => { results := [.lit (.bool false)], args := [d1, d2] }
  | _ => none }
def FnExactPoolAddWrongFalsely : Prop := fnExactPoolAddRow.holds Try.pinned (OpenSpec.ofChange fnExactPoolAddWrong)

/-- 'laws.FnExactPoolDrop': WHATEVER THE INPUT: true; the input reads as it did. -/
def fnExactPoolDropSpec : ChangeSpec := { name := "fnExactPoolDrop", fn := fun _ => fun
  | [d1, d2] => { results := [.lit (.bool true)], args := [d1, d2] }
  | _ => none }
def fnExactPoolDropRow : OpenClaim := { program := "ytkpnhgikkanfmaa", sum := "fe12932845abf8252fa0ef974e6b4c9dd612512a5c73edac8b7d18342b293bb8", func := "loop.example/g00194/laws.FnExactPoolDrop", spec := "fnExactPoolDrop", apart := false }
def FnExactPoolDropSaid : Prop := fnExactPoolDropRow.holds Try.pinned (OpenSpec.ofChange fnExactPoolDropSpec)

/-- ITS FALSE NEIGHBOUR: 'it returns false'. Refute it at one input. -/
def fnExactPoolDropWrong : ChangeSpec := { name := "fnExactPoolDrop", fn := fun _ => fun
  | [d1, d2] => { results := [.lit (.bool false)], args := [d1, d2] }
  | _ => none }
def FnExactPoolDropWrongFalsely : Prop := fnExactPoolDropRow.holds Try.pinned (OpenSpec.ofChange fnExactPoolDropWrong)

/-- 'laws.FnPooled': WHATEVER THE INPUT: true; the input reads as it did. -/
def fnPooledSpec : ChangeSpec := { name := "fnPooled", fn := fun _ => fun
  | [d] => { results := [.lit (.bool true)], args := [d] }
  | _ => none }
def fnPooledRow : OpenClaim := { program := "ytkpnhgikkanfmaa", sum := "fe12932845abf8252fa0ef974e6b4c9dd612512a5c73edac8b7d18342b293bb8", func := "loop.example/g00194/laws.FnPooled", spec := "fnPooled", inPlace := ["slices.overlaps[loop.example/g00194/impl.Tx]"], unfollowed := true, recurses := true, apart := false }
def FnPooledSaid : Prop := fnPooledRow.holds Try.pinned (OpenSpec.ofChange fnPooledSpec)

/-- ITS FALSE NEIGHBOUR: 'it returns false'. Refute it at one input. -/
def fnPooledWrong : ChangeSpec := { name := "fnPooled", fn := fun _ => fun
  | [d] => { results := [.lit (.bool false)], args := [d] }
  | _ => none }
def FnPooledWrongFalsely : Prop := fnPooledRow.holds Try.pinned (OpenSpec.ofChange fnPooledWrong)

/-- 'laws.FnExactBlockAt': WHATEVER THE INPUT: true; the input reads as it did. -/
def fnExactBlockAtSpec : ChangeSpec := { name := "fnExactBlockAt", fn := fun _ => fun
  | [d1, d2] => { results := [.lit (.bool true)], args := [d1, d2] }
  | _ => none }
def fnExactBlockAtRow : OpenClaim := { program := "ytkpnhgikkanfmaa", sum := "fe12932845abf8252fa0ef974e6b4c9dd612512a5c73edac8b7d18342b293bb8", func := "loop.example/g00194/laws.FnExactBlockAt", spec := "fnExactBlockAt", apart := false }
def FnExactBlockAtSaid : Prop := fnExactBlockAtRow.holds Try.pinned (OpenSpec.ofChange fnExactBlockAtSpec)

/-- ITS FALSE NEIGHBOUR: 'it returns false'. Refute it at one input. -/
def fnExactBlockAtWrong : ChangeSpec := { name := "fnExactBlockAt", fn := fun _ => fun
  | [d1, d2] => { results := [.lit (.bool false)], args := [d1, d2] }
  | _ => none }
def FnExactBlockAtWrongFalsely : Prop := fnExactBlockAtRow.holds Try.pinned (OpenSpec.ofChange fnExactBlockAtWrong)

/-- 'laws.FnExactAddTo': WHATEVER THE INPUT: true; the input reads as it did. -/
def fnExactAddToSpec : ChangeSpec := { name := "fnExactAddTo", fn := fun _ => fun
  | [d1, d2] => { results := [.lit (.bool true)], args := [d1, d2] }
  | _ => none }
def fnExactAddToRow : OpenClaim := { program := "ytkpnhgikkanfmaa", sum := "fe12932845abf8252fa0ef974e6b4c9dd612512a5c73edac8b7d18342b293bb8", func := "loop.example/g00194/laws.FnExactAddTo", spec := "fnExactAddTo", inPlace := ["slices.overlaps[loop.example/g00194/impl.Block]"], unfollowed := true, recurses := true, apart := false }
def FnExactAddToSaid : Prop := fnExactAddToRow.holds Try.pinned (OpenSpec.ofChange fnExactAddToSpec)

/-- ITS FALSE NEIGHBOUR: 'it returns false'. Refute it at one input. -/
def fnExactAddToWrong : ChangeSpec := { name := "fnExactAddTo", fn := fun _ => fun
  | [d1, d2] => { results := [.lit (.bool false)], args := [d1, d2] }
  | _ => none }
def FnExactAddToWrongFalsely : Prop := fnExactAddToRow.holds Try.pinned (OpenSpec.ofChange fnExactAddToWrong)

/- THE SECOND FORM. 'bulk': how many values and letters a reading holds, each counted each time it is reached (what is shared counts as often as it is met; a slice's spare places count too). A statement '..UptoSaid' is the law's where the arguments, and the package variables that the reading takes, are together of bulk at most 1048576: NARROWER than '..Said'. Prove '..Said' where nothing that the law and all that it calls make is longer than what came in: it says more and counts as full. Else prove '..UptoSaid'. A law counts once. -/
mutual
def uptoBulk {H : Type} : DataW H → Nat
  | .lit (.string bytes) => bytes.length + 1
  | .lit _ => 1
  | .nil => 1
  | .ptr d => uptoBulk d + 1
  | .slice elems spare => uptoBulkAll elems + uptoBulkAll spare + 1
  | .agg parts => uptoBulkAll parts + 1
  | .iface _ d => uptoBulk d + 1
  | .map entries => uptoBulkEntries entries + 1
  | .held _ => 1
def uptoBulkAll {H : Type} : List (DataW H) → Nat
  | [] => 0
  | d :: r => uptoBulk d + uptoBulkAll r
def uptoBulkEntries {H : Type} : List (Lit × DataW H) → Nat
  | [] => 0
  | x :: r => uptoBulkEntry x + uptoBulkEntries r
def uptoBulkEntry {H : Type} : Lit × DataW H → Nat
  | (.string bytes, d) => bytes.length + uptoBulk d + 1
  | (_, d) => uptoBulk d + 1
 end
def uptoSmall : (H : Type) → List (DataW H) → Bool := fun _ ds => decide (uptoBulkAll ds ≤ 1048576)
def OpenSpec.upto (s : _root_.Go.ChangeSpec) : _root_.Go.OpenSpec := { _root_.Go.OpenSpec.ofChange s with cond := some uptoSmall }

/-- 'laws.FnExactPoolOk', WHERE WHAT IT READS IS OF BULK AT MOST 1048576: true; the input reads as it did. -/
def fnExactPoolOkUptoRow : OpenClaim := { program := "ytkpnhgikkanfmaa", sum := "fe12932845abf8252fa0ef974e6b4c9dd612512a5c73edac8b7d18342b293bb8", func := "loop.example/g00194/laws.FnExactPoolOk", spec := "fnExactPoolOk", apart := false, narrowed := true }
def FnExactPoolOkUptoSaid : Prop := fnExactPoolOkUptoRow.holds Try.pinned (OpenSpec.upto fnExactPoolOkSpec)

/-- 'laws.FnExactPoolAdd', WHERE WHAT IT READS IS OF BULK AT MOST 1048576: true; the input reads as it did. -/
def fnExactPoolAddUptoRow : OpenClaim := { program := "ytkpnhgikkanfmaa", sum := "fe12932845abf8252fa0ef974e6b4c9dd612512a5c73edac8b7d18342b293bb8", func := "loop.example/g00194/laws.FnExactPoolAdd", spec := "fnExactPoolAdd", inPlace := ["slices.overlaps[loop.example/g00194/impl.Tx]"], unfollowed := true, recurses := true, apart := false, narrowed := true }
def FnExactPoolAddUptoSaid : Prop := fnExactPoolAddUptoRow.holds Try.pinned (OpenSpec.upto fnExactPoolAddSpec)

/-- 'laws.FnExactPoolDrop', WHERE WHAT IT READS IS OF BULK AT MOST 1048576: true; the input reads as it did. -/
def fnExactPoolDropUptoRow : OpenClaim := { program := "ytkpnhgikkanfmaa", sum := "fe12932845abf8252fa0ef974e6b4c9dd612512a5c73edac8b7d18342b293bb8", func := "loop.example/g00194/laws.FnExactPoolDrop", spec := "fnExactPoolDrop", apart := false, narrowed := true }
def FnExactPoolDropUptoSaid : Prop := fnExactPoolDropUptoRow.holds Try.pinned (OpenSpec.upto fnExactPoolDropSpec)

/-- 'laws.FnPooled', WHERE WHAT IT READS IS OF BULK AT MOST 1048576: true; the input reads as it did. -/
def fnPooledUptoRow : OpenClaim := { program := "ytkpnhgikkanfmaa", sum := "fe12932845abf8252fa0ef974e6b4c9dd612512a5c73edac8b7d18342b293bb8", func := "loop.example/g00194/laws.FnPooled", spec := "fnPooled", inPlace := ["slices.overlaps[loop.example/g00194/impl.Tx]"], unfollowed := true, recurses := true, apart := false, narrowed := true }
def FnPooledUptoSaid : Prop := fnPooledUptoRow.holds Try.pinned (OpenSpec.upto fnPooledSpec)

/-- 'laws.FnExactBlockAt', WHERE WHAT IT READS IS OF BULK AT MOST 1048576: true; the input reads as it did. -/
def fnExactBlockAtUptoRow : OpenClaim := { program := "ytkpnhgikkanfmaa", sum := "fe12932845abf8252fa0ef974e6b4c9dd612512a5c73edac8b7d18342b293bb8", func := "loop.example/g00194/laws.FnExactBlockAt", spec := "fnExactBlockAt", apart := false, narrowed := true }
def FnExactBlockAtUptoSaid : Prop := fnExactBlockAtUptoRow.holds Try.pinned (OpenSpec.upto fnExactBlockAtSpec)

/-- 'laws.FnExactAddTo', WHERE WHAT IT READS IS OF BULK AT MOST 1048576: true; the input reads as it did. -/
def fnExactAddToUptoRow : OpenClaim := { program := "ytkpnhgikkanfmaa", sum := "fe12932845abf8252fa0ef974e6b4c9dd612512a5c73edac8b7d18342b293bb8", func := "loop.example/g00194/laws.FnExactAddTo", spec := "fnExactAddTo", inPlace := ["slices.overlaps[loop.example/g00194/impl.Block]"], unfollowed := true, recurses := true, apart := false, narrowed := true }
def FnExactAddToUptoSaid : Prop := fnExactAddToUptoRow.holds Try.pinned (OpenSpec.upto fnExactAddToSpec)

end Rows
end Go.Proofs.Ytkpnhgikkanfmaa
