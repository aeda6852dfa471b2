/-
  DERIVED. GIVEN WITH THE SEED: THE CARDS: each row of YtljeklmopjkjjaaGreatDoorRows.lean that lists a variable, with what it lists TIED to the program's text (the seventh form; the later family's looks); each row that meets fmt, with fmt's text TOLD by the authors' own Lean function (tested against real Go, not proved from fmt's source: count such statements apart). THE CARD IS WHAT COUNTS. Prove the row's statement (the work); the ties are given (YtljeklmopjkjjaaGreatDoorTie.lean); close each card by the builder's one call (the guide's Derived/Test/ToyasCard.lean, 'card_holds'). Laid BY PROGRAM, IN A SANDBOX (cutbox-door.mjs). By AI agents, Wed Nov 11 2026. No macro, syntax, notation, axiom, sorry.
-/
import Derived.Test.YtljeklmopjkjjaaGreatDoorRows
import GoSem.ClaimSeven
namespace Go.Proofs.YtljeklmopjkjjaaGreatDoor
namespace Rows

/-- THE TIED CARD OF 'laws.FnExactSubmit'. -/
def fnExactSubmitCard : Claim7 := { stood := { row := fnExactSubmitRow, standIns := [], harness := (true, "c5a1318b4e6f5c4318996b48a04a2d0cf27a3d08fcdcc21bbda331c51aba75cc"), looks := false }, kinds := [], alts := [], laidByText := true, laidKinds := [.sentinel], laidTests := true, laidLooks := .later }
def FnExactSubmitCardSaid : Prop := Claim7.holds Tryz.pinned (.plain (OpenSpec.ofChange fnExactSubmitSpec)) fnExactSubmitCard

/-- THE TIED CARD OF 'laws.FnExactReboot'. -/
def fnExactRebootCard : Claim7 := { stood := { row := fnExactRebootRow, standIns := [], harness := (true, "c5a1318b4e6f5c4318996b48a04a2d0cf27a3d08fcdcc21bbda331c51aba75cc"), looks := false }, kinds := [], alts := [], laidByText := true, laidKinds := [.sentinel], laidTests := true, laidLooks := .later }
def FnExactRebootCardSaid : Prop := Claim7.holds Tryz.pinned (.plain (OpenSpec.ofChange fnExactRebootSpec)) fnExactRebootCard

/-- THE SECOND FORM's CARD OF 'laws.FnExactSubmit'. -/
def fnExactSubmitUptoCard : Claim7 := { stood := { row := fnExactSubmitUptoRow, standIns := [], harness := (true, "c5a1318b4e6f5c4318996b48a04a2d0cf27a3d08fcdcc21bbda331c51aba75cc"), looks := false }, kinds := [], alts := [], laidByText := true, laidKinds := [.sentinel], laidTests := true, laidLooks := .later }
def FnExactSubmitUptoCardSaid : Prop := Claim7.holds Tryz.pinned (.plain (OpenSpec.upto fnExactSubmitSpec)) fnExactSubmitUptoCard

/-- THE SECOND FORM's CARD OF 'laws.FnExactReboot'. -/
def fnExactRebootUptoCard : Claim7 := { stood := { row := fnExactRebootUptoRow, standIns := [], harness := (true, "c5a1318b4e6f5c4318996b48a04a2d0cf27a3d08fcdcc21bbda331c51aba75cc"), looks := false }, kinds := [], alts := [], laidByText := true, laidKinds := [.sentinel], laidTests := true, laidLooks := .later }
def FnExactRebootUptoCardSaid : Prop := Claim7.holds Tryz.pinned (.plain (OpenSpec.upto fnExactRebootSpec)) fnExactRebootUptoCard
end Rows
end Go.Proofs.YtljeklmopjkjjaaGreatDoor
