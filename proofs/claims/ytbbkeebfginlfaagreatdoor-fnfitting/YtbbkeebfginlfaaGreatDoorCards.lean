/-
  DERIVED. GIVEN WITH THE SEED: THE CARDS: each row of YtbbkeebfginlfaaGreatDoorRows.lean that lists a variable, with what it lists TIED to the program's text (the seventh form; the later family's looks); each row that meets fmt, with fmt's text TOLD by the authors' own Lean function (tested against real Go, not proved from fmt's source: count such statements apart). THE CARD IS WHAT COUNTS. Prove the row's statement (the work); the ties are given (YtbbkeebfginlfaaGreatDoorTie.lean); close each card by the builder's one call (the guide's Derived/Test/ToyasCard.lean, 'card_holds'). Laid BY PROGRAM, IN A SANDBOX (cutbox-door.mjs). By AI agents, Wed Nov 11 2026. No macro, syntax, notation, axiom, sorry.
-/
import Derived.Test.YtbbkeebfginlfaaGreatDoorRows
import GoSem.ClaimSeven
namespace Go.Proofs.YtbbkeebfginlfaaGreatDoor
namespace Rows

/-- THE TIED CARD OF 'laws.FnExactPoolFit'. -/
def fnExactPoolFitCard : Claim7 := { stood := { row := fnExactPoolFitRow, standIns := [], harness := (true, "9ad8e292a06dc02d137bce87b94238a226637455e278f5f5091163b4f24ba5df"), looks := true }, kinds := [], alts := [], laidByText := true, laidKinds := [.handle], laidTests := true, laidLooks := .later }
def FnExactPoolFitCardSaid : Prop := Claim7.holds Tryz.pinned (.plain (OpenSpec.ofChange fnExactPoolFitSpec)) fnExactPoolFitCard

/-- THE TIED CARD OF 'laws.FnFitting'. -/
def fnFittingCard : Claim7 := { stood := { row := fnFittingRow, standIns := [], harness := (true, "9ad8e292a06dc02d137bce87b94238a226637455e278f5f5091163b4f24ba5df"), looks := true }, kinds := [], alts := [], laidByText := true, laidKinds := [.handle], laidTests := true, laidLooks := .later }
def FnFittingCardSaid : Prop := Claim7.holds Tryz.pinned (.plain (OpenSpec.ofChange fnFittingSpec)) fnFittingCard

/-- THE SECOND FORM's CARD OF 'laws.FnExactPoolFit'. -/
def fnExactPoolFitUptoCard : Claim7 := { stood := { row := fnExactPoolFitUptoRow, standIns := [], harness := (true, "9ad8e292a06dc02d137bce87b94238a226637455e278f5f5091163b4f24ba5df"), looks := true }, kinds := [], alts := [], laidByText := true, laidKinds := [.handle], laidTests := true, laidLooks := .later }
def FnExactPoolFitUptoCardSaid : Prop := Claim7.holds Tryz.pinned (.plain (OpenSpec.upto fnExactPoolFitSpec)) fnExactPoolFitUptoCard

/-- THE SECOND FORM's CARD OF 'laws.FnFitting'. -/
def fnFittingUptoCard : Claim7 := { stood := { row := fnFittingUptoRow, standIns := [], harness := (true, "9ad8e292a06dc02d137bce87b94238a226637455e278f5f5091163b4f24ba5df"), looks := true }, kinds := [], alts := [], laidByText := true, laidKinds := [.handle], laidTests := true, laidLooks := .later }
def FnFittingUptoCardSaid : Prop := Claim7.holds Tryz.pinned (.plain (OpenSpec.upto fnFittingSpec)) fnFittingUptoCard
end Rows
end Go.Proofs.YtbbkeebfginlfaaGreatDoor
