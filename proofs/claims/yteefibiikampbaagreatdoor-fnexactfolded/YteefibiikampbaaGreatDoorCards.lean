/-
  DERIVED. GIVEN WITH THE SEED: THE CARDS: each row of YteefibiikampbaaGreatDoorRows.lean that lists a variable, with what it lists TIED to the program's text (the seventh form; the later family's looks); each row that meets fmt, with fmt's text TOLD by the authors' own Lean function (tested against real Go, not proved from fmt's source: count such statements apart). THE CARD IS WHAT COUNTS. Prove the row's statement (the work); the ties are given (YteefibiikampbaaGreatDoorTie.lean); close each card by the builder's one call (the guide's Derived/Test/ToyasCard.lean, 'card_holds'). Laid BY PROGRAM, IN A SANDBOX (cutbox-door.mjs). By AI agents, Wed Nov 11 2026. No macro, syntax, notation, axiom, sorry.
-/
import Derived.Test.YteefibiikampbaaGreatDoorRows
import GoSem.ClaimSeven
namespace Go.Proofs.YteefibiikampbaaGreatDoor
namespace Rows

/-- THE TIED CARD OF 'laws.FnExactFold'. -/
def fnExactFoldCard : Claim7 := { stood := { row := fnExactFoldRow, standIns := [], harness := (true, "d58d05382331d368bce13176330abae38739d8211f8a60e792ab2580cc283050"), looks := true }, kinds := [], alts := [], laidByText := true, laidKinds := [.handle], laidTests := true, laidLooks := .later }
def FnExactFoldCardSaid : Prop := Claim7.holds Tryz.pinned (.plain (OpenSpec.ofChange fnExactFoldSpec)) fnExactFoldCard

/-- THE TIED CARD OF 'laws.FnExactFolded'. -/
def fnExactFoldedCard : Claim7 := { stood := { row := fnExactFoldedRow, standIns := [], harness := (true, "d58d05382331d368bce13176330abae38739d8211f8a60e792ab2580cc283050"), looks := true }, kinds := [], alts := [], laidByText := true, laidKinds := [.handle], laidTests := true, laidLooks := .later }
def FnExactFoldedCardSaid : Prop := Claim7.holds Tryz.pinned (.plain (OpenSpec.ofChange fnExactFoldedSpec)) fnExactFoldedCard

/-- THE SECOND FORM's CARD OF 'laws.FnExactFold'. -/
def fnExactFoldUptoCard : Claim7 := { stood := { row := fnExactFoldUptoRow, standIns := [], harness := (true, "d58d05382331d368bce13176330abae38739d8211f8a60e792ab2580cc283050"), looks := true }, kinds := [], alts := [], laidByText := true, laidKinds := [.handle], laidTests := true, laidLooks := .later }
def FnExactFoldUptoCardSaid : Prop := Claim7.holds Tryz.pinned (.plain (OpenSpec.upto fnExactFoldSpec)) fnExactFoldUptoCard

/-- THE SECOND FORM's CARD OF 'laws.FnExactFolded'. -/
def fnExactFoldedUptoCard : Claim7 := { stood := { row := fnExactFoldedUptoRow, standIns := [], harness := (true, "d58d05382331d368bce13176330abae38739d8211f8a60e792ab2580cc283050"), looks := true }, kinds := [], alts := [], laidByText := true, laidKinds := [.handle], laidTests := true, laidLooks := .later }
def FnExactFoldedUptoCardSaid : Prop := Claim7.holds Tryz.pinned (.plain (OpenSpec.upto fnExactFoldedSpec)) fnExactFoldedUptoCard
end Rows
end Go.Proofs.YteefibiikampbaaGreatDoor
