/-
  DERIVED. GIVEN WITH THE SEED: THE CARDS: each row of YtdelegamcebflaaDoorRows.lean that lists a variable, with what it lists TIED to the program's text (the seventh form; the later family's looks); each row that meets fmt, with fmt's text TOLD by the authors' own Lean function (tested against real Go, not proved from fmt's source: count such statements apart). THE CARD IS WHAT COUNTS. Prove the row's statement (the work); the ties are given (YtdelegamcebflaaDoorTie.lean); close each card by the builder's one call (the guide's Derived/Test/ToyasCard.lean, 'card_holds'). Laid BY PROGRAM, IN A SANDBOX (cutbox-door.mjs). By AI agents, Wed Nov 11 2026. No macro, syntax, notation, axiom, sorry.
-/
import Derived.Test.YtdelegamcebflaaDoorRows
import GoSem.ClaimSeven
namespace Go.Proofs.YtdelegamcebflaaDoor
namespace Rows

/-- THE TIED CARD OF 'laws.FnStateRoots'. -/
def fnStateRootsCard : Claim7 := { stood := { row := fnStateRootsRow, standIns := [], harness := (true, "bd36e1cdb563b003618d51d4b172f794d87fd6820f2b27e7c50aacf45ae4b371"), looks := false }, kinds := [], alts := [], laidByText := true, laidKinds := [.data, .data], laidTests := true, laidLooks := .later }
def FnStateRootsCardSaid : Prop := Claim7.holds Tryd.pinned (.plain (OpenSpec.ofChange fnStateRootsSpec)) fnStateRootsCard

/-- THE SECOND FORM's CARD OF 'laws.FnStateRoots'. -/
def fnStateRootsUptoCard : Claim7 := { stood := { row := fnStateRootsUptoRow, standIns := [], harness := (true, "bd36e1cdb563b003618d51d4b172f794d87fd6820f2b27e7c50aacf45ae4b371"), looks := false }, kinds := [], alts := [], laidByText := true, laidKinds := [.data, .data], laidTests := true, laidLooks := .later }
def FnStateRootsUptoCardSaid : Prop := Claim7.holds Tryd.pinned (.plain (OpenSpec.upto fnStateRootsSpec)) fnStateRootsUptoCard
end Rows
end Go.Proofs.YtdelegamcebflaaDoor
