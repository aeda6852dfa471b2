/-
  DERIVED. GIVEN WITH THE SEED: THE CARDS: each row of YtobfmfhiacobdabDoorRows.lean that lists a variable, with what it lists TIED to the program's text (the seventh form; the later family's looks); each row that meets fmt, with fmt's text TOLD by the authors' own Lean function (tested against real Go, not proved from fmt's source: count such statements apart). THE CARD IS WHAT COUNTS. Prove the row's statement (the work); the ties are given (YtobfmfhiacobdabDoorTie.lean); close each card by the builder's one call (the guide's Derived/Test/ToyasCard.lean, 'card_holds'). Laid BY PROGRAM, IN A SANDBOX (cutbox-door.mjs). By AI agents, Wed Nov 11 2026. No macro, syntax, notation, axiom, sorry.
-/
import Derived.Test.YtobfmfhiacobdabDoorRows
import GoSem.ClaimSeven
namespace Go.Proofs.YtobfmfhiacobdabDoor
namespace Rows

/-- THE TIED CARD OF 'laws.FnPadded'. -/
def fnPaddedCard : Claim7 := { stood := { row := fnPaddedRow, standIns := [], harness := (true, "c82b4c407ac57a31c155f69f478479f12673bf902f36155b0614c800e7782bb4"), looks := false }, kinds := [], alts := [], laidByText := true, laidKinds := [.data, .data], laidTests := true, laidLooks := .later }
def FnPaddedCardSaid : Prop := Claim7.holds Tryd.pinned (.plain (OpenSpec.ofChange fnPaddedSpec)) fnPaddedCard

/-- THE SECOND FORM's CARD OF 'laws.FnPadded'. -/
def fnPaddedUptoCard : Claim7 := { stood := { row := fnPaddedUptoRow, standIns := [], harness := (true, "c82b4c407ac57a31c155f69f478479f12673bf902f36155b0614c800e7782bb4"), looks := false }, kinds := [], alts := [], laidByText := true, laidKinds := [.data, .data], laidTests := true, laidLooks := .later }
def FnPaddedUptoCardSaid : Prop := Claim7.holds Tryd.pinned (.plain (OpenSpec.upto fnPaddedSpec)) fnPaddedUptoCard
end Rows
end Go.Proofs.YtobfmfhiacobdabDoor
