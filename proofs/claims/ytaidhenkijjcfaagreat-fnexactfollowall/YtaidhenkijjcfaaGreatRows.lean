/-
  No cell of these rows narrows 'for every input' (looked for: loops, veiled, ifaces, maps, wideKeys, modest, calm, conditions, laid).
  DERIVED. THE GIVEN ROWS OF THIS SEAT. 3 by the template 'for every input the law returns true; each argument reads behind the call as it read before'; 0 by the template 'total and deterministic' (their statements: YtaidhenkijjcfaaGreatTotals.lean).
  GIVEN WITH THE SEED: the statements are not yours to turn. If you find one false, say at which input.
  Laid BY PROGRAM, IN A SANDBOX (cutbox-rows.mjs): the forced cells as the released guide's own fill.sh prints them over the translation 06b974083f8ba352… (all of the seat's roots in one cut). By AI agents, Wed Nov 11 2026. No macro, syntax, notation, axiom, sorry.
-/
import Derived.Test.YtaidhenkijjcfaaGreatChecked
import GoSem.Claim
import GoSem.ClaimJoined
import GoSem.ClaimMapViews
import Derived.JoinedTies
import Derived.KernelRfl
namespace Go.Proofs.YtaidhenkijjcfaaGreat
/- THE CELL 'sum', in the pinned program and in every row, IS THE sha256 OF THE DUMP (.gsa) THAT YtaidhenkijjcfaaGreatProg.lean LOADS. Nothing in Lean hashes anything: it is a label: what it is worth is what the hold of that sum in a sandbox is worth. -/
noncomputable def Tryz.pinned : Pinned := { name := "ytaidhenkijjcfaagreat", sum := "06b974083f8ba352cf8a6b8df3becb21bcb23ac97f1291c050ad91b6444ab23a", checked := Tryz.checked }
namespace Rows
def none {H : Type} : Left H := { results := [], args := [] }

/-- 'laws.FnExactAccept': WHATEVER THE INPUT: true; the input reads as it did. -/
def fnExactAcceptSpec : ChangeSpec := { name := "fnExactAccept", fn := fun _ => fun
  | [d1, d2] => { results := [.lit (.bool true)], args := [d1, d2] }
  | _ => none }
def fnExactAcceptRow : OpenClaim := { program := "ytaidhenkijjcfaagreat", sum := "06b974083f8ba352cf8a6b8df3becb21bcb23ac97f1291c050ad91b6444ab23a", func := "loop.example/g00194/laws.FnExactAccept", spec := "fnExactAccept", unfollowed := true, recurses := true, apart := false }
def FnExactAcceptSaid : Prop := fnExactAcceptRow.holds Tryz.pinned (OpenSpec.ofChange fnExactAcceptSpec)

/-- ITS FALSE NEIGHBOUR: 'it returns false'. Refute it at one input. -/
def fnExactAcceptWrong : ChangeSpec := { name := "fnExactAccept", fn := fun _ => fun
  | [d1, d2] => { results := [.lit (.bool false)], args := [d1, d2] }
  | _ => none }
def FnExactAcceptWrongFalsely : Prop := fnExactAcceptRow.holds Tryz.pinned (OpenSpec.ofChange fnExactAcceptWrong)

/-- 'laws.FnExactProofOf': WHATEVER THE INPUT: true; the input reads as it did. -/
def fnExactProofOfSpec : ChangeSpec := { name := "fnExactProofOf", fn := fun _ => fun
  | [d1, d2] => { results := [.lit (.bool true)], args := [d1, d2] }
  | _ => none }
def fnExactProofOfRow : OpenClaim := { program := "ytaidhenkijjcfaagreat", sum := "06b974083f8ba352cf8a6b8df3becb21bcb23ac97f1291c050ad91b6444ab23a", func := "loop.example/g00194/laws.FnExactProofOf", spec := "fnExactProofOf", apart := false }
def FnExactProofOfSaid : Prop := fnExactProofOfRow.holds Tryz.pinned (OpenSpec.ofChange fnExactProofOfSpec)

/-- ITS FALSE NEIGHBOUR: 'it returns false'. Refute it at one input. -/
def fnExactProofOfWrong : ChangeSpec := { name := "fnExactProofOf", fn := fun _ => fun
  | [d1, d2] => { results := [.lit (.bool false)], args := [d1, d2] }
  | _ => none }
def FnExactProofOfWrongFalsely : Prop := fnExactProofOfRow.holds Tryz.pinned (OpenSpec.ofChange fnExactProofOfWrong)

/-- 'laws.FnExactFollowAll': WHATEVER THE INPUT: true; the input reads as it did. -/
def fnExactFollowAllSpec : ChangeSpec := { name := "fnExactFollowAll", fn := fun _ => fun
  | [d1, d2] => { results := [.lit (.bool true)], args := [d1, d2] }
  | _ => none }
def fnExactFollowAllRow : OpenClaim := { program := "ytaidhenkijjcfaagreat", sum := "06b974083f8ba352cf8a6b8df3becb21bcb23ac97f1291c050ad91b6444ab23a", func := "loop.example/g00194/laws.FnExactFollowAll", spec := "fnExactFollowAll", unfollowed := true, recurses := true, apart := false }
def FnExactFollowAllSaid : Prop := fnExactFollowAllRow.holds Tryz.pinned (OpenSpec.ofChange fnExactFollowAllSpec)

/-- ITS FALSE NEIGHBOUR: 'it returns false'. Refute it at one input. -/
def fnExactFollowAllWrong : ChangeSpec := { name := "fnExactFollowAll", fn := fun _ => fun
  | [d1, d2] => { results := [.lit (.bool false)], args := [d1, d2] }
  | _ => none }
def FnExactFollowAllWrongFalsely : Prop := fnExactFollowAllRow.holds Tryz.pinned (OpenSpec.ofChange fnExactFollowAllWrong)

/- THE SECOND FORM. 'bulk': how many values and letters a reading holds, each counted each time it is reached (what is shared counts as often as it is met; a slice's spare places count too). A statement '..UptoSaid' is the law's where the arguments, and the package variables that the reading takes, are together of bulk at most 1048576: NARROWER than '..Said'. Prove '..Said' where nothing that the law and all that it calls make is longer than what came in: it says more and counts as full. Else prove '..UptoSaid'. A law counts once. -/
mutual
def uptoBulk {H : Type} : DataW H → Nat
  | .lit (.string bytes) => bytes.length + 1
  | .lit _ => 1
  | .nil => 1
  | .ptr d => uptoBulk d + 1
  | .slice elems spare => uptoBulkAll elems + uptoBulkAll spare + 1
  | .agg parts => uptoBulkAll parts + 1
  | .iface _ d => uptoBulk d + 1
  | .map entries => uptoBulkEntries entries + 1
  | .held _ => 1
def uptoBulkAll {H : Type} : List (DataW H) → Nat
  | [] => 0
  | d :: r => uptoBulk d + uptoBulkAll r
def uptoBulkEntries {H : Type} : List (Lit × DataW H) → Nat
  | [] => 0
  | x :: r => uptoBulkEntry x + uptoBulkEntries r
def uptoBulkEntry {H : Type} : Lit × DataW H → Nat
  | (.string bytes, d) => bytes.length + uptoBulk d + 1
  | (_, d) => uptoBulk d + 1
 end
def uptoSmall : (H : Type) → List (DataW H) → Bool := fun _ ds => decide (uptoBulkAll ds ≤ 1048576)
def OpenSpec.upto (s : _root_.Go.ChangeSpec) : _root_.Go.OpenSpec := { _root_.Go.OpenSpec.ofChange s with cond := some uptoSmall }

/-- 'laws.FnExactAccept', WHERE WHAT IT READS IS OF BULK AT MOST 1048576: true; the input reads as it did. -/
def fnExactAcceptUptoRow : OpenClaim := { program := "ytaidhenkijjcfaagreat", sum := "06b974083f8ba352cf8a6b8df3becb21bcb23ac97f1291c050ad91b6444ab23a", func := "loop.example/g00194/laws.FnExactAccept", spec := "fnExactAccept", unfollowed := true, recurses := true, apart := false, narrowed := true }
def FnExactAcceptUptoSaid : Prop := fnExactAcceptUptoRow.holds Tryz.pinned (OpenSpec.upto fnExactAcceptSpec)

/-- 'laws.FnExactProofOf', WHERE WHAT IT READS IS OF BULK AT MOST 1048576: true; the input reads as it did. -/
def fnExactProofOfUptoRow : OpenClaim := { program := "ytaidhenkijjcfaagreat", sum := "06b974083f8ba352cf8a6b8df3becb21bcb23ac97f1291c050ad91b6444ab23a", func := "loop.example/g00194/laws.FnExactProofOf", spec := "fnExactProofOf", apart := false, narrowed := true }
def FnExactProofOfUptoSaid : Prop := fnExactProofOfUptoRow.holds Tryz.pinned (OpenSpec.upto fnExactProofOfSpec)

/-- 'laws.FnExactFollowAll', WHERE WHAT IT READS IS OF BULK AT MOST 1048576: true; the input reads as it did. -/
def fnExactFollowAllUptoRow : OpenClaim := { program := "ytaidhenkijjcfaagreat", sum := "06b974083f8ba352cf8a6b8df3becb21bcb23ac97f1291c050ad91b6444ab23a", func := "loop.example/g00194/laws.FnExactFollowAll", spec := "fnExactFollowAll", unfollowed := true, recurses := true, apart := false, narrowed := true }
def FnExactFollowAllUptoSaid : Prop := fnExactFollowAllUptoRow.holds Tryz.pinned (OpenSpec.upto fnExactFollowAllSpec)

end Rows
end Go.Proofs.YtaidhenkijjcfaaGreat
