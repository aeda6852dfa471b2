/-
  DERIVED. GIVEN WITH THE SEED: THE CARDS: each row of YtkjlmnhdmlolmaaGreatDoorRows.lean that lists a variable, with what it lists TIED to the program's text (the seventh form; the later family's looks); each row that meets fmt, with fmt's text TOLD by the authors' own Lean function (tested against real Go, not proved from fmt's source: count such statements apart). THE CARD IS WHAT COUNTS. Prove the row's statement (the work); the ties are given (YtkjlmnhdmlolmaaGreatDoorTie.lean); close each card by the builder's one call (the guide's Derived/Test/ToyasCard.lean, 'card_holds'). Laid BY PROGRAM, IN A SANDBOX (cutbox-door.mjs). By AI agents, Wed Nov 11 2026. No macro, syntax, notation, axiom, sorry.
-/
import Derived.Test.YtkjlmnhdmlolmaaGreatDoorRows
import GoSem.ClaimSeven
namespace Go.Proofs.YtkjlmnhdmlolmaaGreatDoor
namespace Rows

/-- THE TIED CARD OF 'laws.FnConserved'. -/
def fnConservedCard : Claim7 := { stood := { row := fnConservedRow, standIns := [], harness := (true, "0b12b6f1f9633b5387e17e511d2b59cf873a62fee20e67748d3ac80ba6abcd89"), looks := true }, kinds := [], alts := [], laidByText := true, laidKinds := [.handle, .data, .data], laidTests := true, laidLooks := .later }
def FnConservedCardSaid : Prop := Claim7.holds Tryz.pinned (.plain (OpenSpec.ofChange fnConservedSpec)) fnConservedCard

/-- THE TIED CARD OF 'laws.FnBlocks'. -/
def fnBlocksCard : Claim7 := { stood := { row := fnBlocksRow, standIns := [], harness := (true, "0b12b6f1f9633b5387e17e511d2b59cf873a62fee20e67748d3ac80ba6abcd89"), looks := true }, kinds := [], alts := [], laidByText := true, laidKinds := [.sentinel], laidTests := true, laidLooks := .later }
def FnBlocksCardSaid : Prop := Claim7.holds Tryz.pinned (.plain (OpenSpec.ofChange fnBlocksSpec)) fnBlocksCard

/-- THE TIED CARD OF 'laws.FnRead'. -/
def fnReadCard : Claim7 := { stood := { row := fnReadRow, standIns := [], harness := (true, "0b12b6f1f9633b5387e17e511d2b59cf873a62fee20e67748d3ac80ba6abcd89"), looks := true }, kinds := [], alts := [], laidByText := true, laidKinds := [.sentinel], laidTests := true, laidLooks := .later }
def FnReadCardSaid : Prop := Claim7.holds Tryz.pinned (.plain (OpenSpec.ofChange fnReadSpec)) fnReadCard

/-- THE TIED CARD OF 'laws.FnExactGetBlock'. -/
def fnExactGetBlockCard : Claim7 := { stood := { row := fnExactGetBlockRow, standIns := [], harness := (true, "0b12b6f1f9633b5387e17e511d2b59cf873a62fee20e67748d3ac80ba6abcd89"), looks := true }, kinds := [], alts := [], laidByText := true, laidKinds := [.sentinel], laidTests := true, laidLooks := .later }
def FnExactGetBlockCardSaid : Prop := Claim7.holds Tryz.pinned (.plain (OpenSpec.ofChange fnExactGetBlockSpec)) fnExactGetBlockCard

/-- THE SECOND FORM's CARD OF 'laws.FnConserved'. -/
def fnConservedUptoCard : Claim7 := { stood := { row := fnConservedUptoRow, standIns := [], harness := (true, "0b12b6f1f9633b5387e17e511d2b59cf873a62fee20e67748d3ac80ba6abcd89"), looks := true }, kinds := [], alts := [], laidByText := true, laidKinds := [.handle, .data, .data], laidTests := true, laidLooks := .later }
def FnConservedUptoCardSaid : Prop := Claim7.holds Tryz.pinned (.plain (OpenSpec.upto fnConservedSpec)) fnConservedUptoCard

/-- THE SECOND FORM's CARD OF 'laws.FnBlocks'. -/
def fnBlocksUptoCard : Claim7 := { stood := { row := fnBlocksUptoRow, standIns := [], harness := (true, "0b12b6f1f9633b5387e17e511d2b59cf873a62fee20e67748d3ac80ba6abcd89"), looks := true }, kinds := [], alts := [], laidByText := true, laidKinds := [.sentinel], laidTests := true, laidLooks := .later }
def FnBlocksUptoCardSaid : Prop := Claim7.holds Tryz.pinned (.plain (OpenSpec.upto fnBlocksSpec)) fnBlocksUptoCard

/-- THE SECOND FORM's CARD OF 'laws.FnRead'. -/
def fnReadUptoCard : Claim7 := { stood := { row := fnReadUptoRow, standIns := [], harness := (true, "0b12b6f1f9633b5387e17e511d2b59cf873a62fee20e67748d3ac80ba6abcd89"), looks := true }, kinds := [], alts := [], laidByText := true, laidKinds := [.sentinel], laidTests := true, laidLooks := .later }
def FnReadUptoCardSaid : Prop := Claim7.holds Tryz.pinned (.plain (OpenSpec.upto fnReadSpec)) fnReadUptoCard

/-- THE SECOND FORM's CARD OF 'laws.FnExactGetBlock'. -/
def fnExactGetBlockUptoCard : Claim7 := { stood := { row := fnExactGetBlockUptoRow, standIns := [], harness := (true, "0b12b6f1f9633b5387e17e511d2b59cf873a62fee20e67748d3ac80ba6abcd89"), looks := true }, kinds := [], alts := [], laidByText := true, laidKinds := [.sentinel], laidTests := true, laidLooks := .later }
def FnExactGetBlockUptoCardSaid : Prop := Claim7.holds Tryz.pinned (.plain (OpenSpec.upto fnExactGetBlockSpec)) fnExactGetBlockUptoCard
end Rows
end Go.Proofs.YtkjlmnhdmlolmaaGreatDoor
