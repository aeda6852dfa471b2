/-
  DERIVED. GIVEN WITH THE SEED: THE CARDS: each row of YtamljhcmiphdgaaGreatDoorRows.lean that lists a variable, with what it lists TIED to the program's text (the seventh form; the later family's looks); each row that meets fmt, with fmt's text TOLD by the authors' own Lean function (tested against real Go, not proved from fmt's source: count such statements apart). THE CARD IS WHAT COUNTS. Prove the row's statement (the work); the ties are given (YtamljhcmiphdgaaGreatDoorTie.lean); close each card by the builder's one call (the guide's Derived/Test/ToyasCard.lean, 'card_holds'). Laid BY PROGRAM, IN A SANDBOX (cutbox-door.mjs). By AI agents, Wed Nov 11 2026. No macro, syntax, notation, axiom, sorry.
-/
import Derived.Test.YtamljhcmiphdgaaGreatDoorRows
import GoSem.ClaimSeven
namespace Go.Proofs.YtamljhcmiphdgaaGreatDoor
namespace Rows

/-- THE TIED CARD OF 'laws.FnExactSubmit'. -/
def fnExactSubmitCard : Claim7 := { stood := { row := fnExactSubmitRow, standIns := [], harness := (true, "66215851d1a0db9b4f5ba1b7374c424e1c615f675c15ae455980bef558d37732"), looks := false }, kinds := [], alts := [], laidByText := true, laidKinds := [.sentinel], laidTests := true, laidLooks := .later }
def FnExactSubmitCardSaid : Prop := Claim7.holds Tryz.pinned (.plain (OpenSpec.ofChange fnExactSubmitSpec)) fnExactSubmitCard

/-- THE SECOND FORM's CARD OF 'laws.FnExactSubmit'. -/
def fnExactSubmitUptoCard : Claim7 := { stood := { row := fnExactSubmitUptoRow, standIns := [], harness := (true, "66215851d1a0db9b4f5ba1b7374c424e1c615f675c15ae455980bef558d37732"), looks := false }, kinds := [], alts := [], laidByText := true, laidKinds := [.sentinel], laidTests := true, laidLooks := .later }
def FnExactSubmitUptoCardSaid : Prop := Claim7.holds Tryz.pinned (.plain (OpenSpec.upto fnExactSubmitSpec)) fnExactSubmitUptoCard
end Rows
end Go.Proofs.YtamljhcmiphdgaaGreatDoor
