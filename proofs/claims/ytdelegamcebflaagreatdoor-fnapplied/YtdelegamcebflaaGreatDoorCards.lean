/-
  DERIVED. GIVEN WITH THE SEED: THE CARDS: each row of YtdelegamcebflaaGreatDoorRows.lean that lists a variable, with what it lists TIED to the program's text (the seventh form; the later family's looks); each row that meets fmt, with fmt's text TOLD by the authors' own Lean function (tested against real Go, not proved from fmt's source: count such statements apart). THE CARD IS WHAT COUNTS. Prove the row's statement (the work); the ties are given (YtdelegamcebflaaGreatDoorTie.lean); close each card by the builder's one call (the guide's Derived/Test/ToyasCard.lean, 'card_holds'). Laid BY PROGRAM, IN A SANDBOX (cutbox-door.mjs). By AI agents, Wed Nov 11 2026. No macro, syntax, notation, axiom, sorry.
-/
import Derived.Test.YtdelegamcebflaaGreatDoorRows
import GoSem.ClaimSeven
namespace Go.Proofs.YtdelegamcebflaaGreatDoor
namespace Rows

/-- THE TIED CARD OF 'laws.FnApplied'. -/
def fnAppliedCard : Claim7 := { stood := { row := fnAppliedRow, standIns := [], harness := (true, "8202f3e376ea323ddb03a67002e9afa8b525110052b2eb678b1d94425c8c187d"), looks := true }, kinds := [], alts := [], laidByText := true, laidKinds := [.handle], laidTests := true, laidLooks := .later }
def FnAppliedCardSaid : Prop := Claim7.holds Tryz.pinned (.plain (OpenSpec.ofChange fnAppliedSpec)) fnAppliedCard

/-- THE TIED CARD OF 'laws.FnConserved'. -/
def fnConservedCard : Claim7 := { stood := { row := fnConservedRow, standIns := [], harness := (true, "8202f3e376ea323ddb03a67002e9afa8b525110052b2eb678b1d94425c8c187d"), looks := true }, kinds := [], alts := [], laidByText := true, laidKinds := [.handle, .data, .data], laidTests := true, laidLooks := .later }
def FnConservedCardSaid : Prop := Claim7.holds Tryz.pinned (.plain (OpenSpec.ofChange fnConservedSpec)) fnConservedCard

/-- THE SECOND FORM's CARD OF 'laws.FnApplied'. -/
def fnAppliedUptoCard : Claim7 := { stood := { row := fnAppliedUptoRow, standIns := [], harness := (true, "8202f3e376ea323ddb03a67002e9afa8b525110052b2eb678b1d94425c8c187d"), looks := true }, kinds := [], alts := [], laidByText := true, laidKinds := [.handle], laidTests := true, laidLooks := .later }
def FnAppliedUptoCardSaid : Prop := Claim7.holds Tryz.pinned (.plain (OpenSpec.upto fnAppliedSpec)) fnAppliedUptoCard

/-- THE SECOND FORM's CARD OF 'laws.FnConserved'. -/
def fnConservedUptoCard : Claim7 := { stood := { row := fnConservedUptoRow, standIns := [], harness := (true, "8202f3e376ea323ddb03a67002e9afa8b525110052b2eb678b1d94425c8c187d"), looks := true }, kinds := [], alts := [], laidByText := true, laidKinds := [.handle, .data, .data], laidTests := true, laidLooks := .later }
def FnConservedUptoCardSaid : Prop := Claim7.holds Tryz.pinned (.plain (OpenSpec.upto fnConservedSpec)) fnConservedUptoCard
end Rows
end Go.Proofs.YtdelegamcebflaaGreatDoor
