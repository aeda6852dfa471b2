/-
  DERIVED. GIVEN WITH THE SEED: THE CARDS: each row of YtohachldbpejpaaGreatDoorRows.lean that lists a variable, with what it lists TIED to the program's text (the seventh form; the later family's looks); each row that meets fmt, with fmt's text TOLD by the authors' own Lean function (tested against real Go, not proved from fmt's source: count such statements apart). THE CARD IS WHAT COUNTS. Prove the row's statement (the work); the ties are given (YtohachldbpejpaaGreatDoorTie.lean); close each card by the builder's one call (the guide's Derived/Test/ToyasCard.lean, 'card_holds'). Laid BY PROGRAM, IN A SANDBOX (cutbox-door.mjs). By AI agents, Wed Nov 11 2026. No macro, syntax, notation, axiom, sorry.
-/
import Derived.Test.YtohachldbpejpaaGreatDoorRows
import GoSem.ClaimSeven
namespace Go.Proofs.YtohachldbpejpaaGreatDoor
namespace Rows

/-- THE TIED CARD OF 'laws.FnConserved'. -/
def fnConservedCard : Claim7 := { stood := { row := fnConservedRow, standIns := [], harness := (true, "da2473207509bb593ff8f4cbc1def9b9af851e90088b74ad772562da591b55aa"), looks := true }, kinds := [], alts := [], laidByText := true, laidKinds := [.handle, .data, .data], laidTests := true, laidLooks := .later }
def FnConservedCardSaid : Prop := Claim7.holds Tryz.pinned (.plain (OpenSpec.ofChange fnConservedSpec)) fnConservedCard

/-- THE TIED CARD OF 'laws.FnBodies'. -/
def fnBodiesCard : Claim7 := { stood := { row := fnBodiesRow, standIns := [], harness := (true, "da2473207509bb593ff8f4cbc1def9b9af851e90088b74ad772562da591b55aa"), looks := true }, kinds := [], alts := [], laidByText := true, laidKinds := [.handle, .data, .data], laidTests := true, laidLooks := .later }
def FnBodiesCardSaid : Prop := Claim7.holds Tryz.pinned (.plain (OpenSpec.ofChange fnBodiesSpec)) fnBodiesCard

/-- THE TIED CARD OF 'laws.FnLedgers'. -/
def fnLedgersCard : Claim7 := { stood := { row := fnLedgersRow, standIns := [], harness := (true, "da2473207509bb593ff8f4cbc1def9b9af851e90088b74ad772562da591b55aa"), looks := true }, kinds := [], alts := [], laidByText := true, laidKinds := [.handle, .data, .data], laidTests := true, laidLooks := .later }
def FnLedgersCardSaid : Prop := Claim7.holds Tryz.pinned (.plain (OpenSpec.ofChange fnLedgersSpec)) fnLedgersCard

/-- THE TIED CARD OF 'laws.FnExactBodyOk'. -/
def fnExactBodyOkCard : Claim7 := { stood := { row := fnExactBodyOkRow, standIns := [], harness := (true, "da2473207509bb593ff8f4cbc1def9b9af851e90088b74ad772562da591b55aa"), looks := true }, kinds := [], alts := [], laidByText := true, laidKinds := [.handle, .data, .data], laidTests := true, laidLooks := .later }
def FnExactBodyOkCardSaid : Prop := Claim7.holds Tryz.pinned (.plain (OpenSpec.ofChange fnExactBodyOkSpec)) fnExactBodyOkCard

/-- THE TIED CARD OF 'laws.FnExactMakeBody'. -/
def fnExactMakeBodyCard : Claim7 := { stood := { row := fnExactMakeBodyRow, standIns := [], harness := (true, "da2473207509bb593ff8f4cbc1def9b9af851e90088b74ad772562da591b55aa"), looks := true }, kinds := [], alts := [], laidByText := true, laidKinds := [.handle, .data, .data], laidTests := true, laidLooks := .later }
def FnExactMakeBodyCardSaid : Prop := Claim7.holds Tryz.pinned (.plain (OpenSpec.ofChange fnExactMakeBodySpec)) fnExactMakeBodyCard

/-- THE SECOND FORM's CARD OF 'laws.FnConserved'. -/
def fnConservedUptoCard : Claim7 := { stood := { row := fnConservedUptoRow, standIns := [], harness := (true, "da2473207509bb593ff8f4cbc1def9b9af851e90088b74ad772562da591b55aa"), looks := true }, kinds := [], alts := [], laidByText := true, laidKinds := [.handle, .data, .data], laidTests := true, laidLooks := .later }
def FnConservedUptoCardSaid : Prop := Claim7.holds Tryz.pinned (.plain (OpenSpec.upto fnConservedSpec)) fnConservedUptoCard

/-- THE SECOND FORM's CARD OF 'laws.FnBodies'. -/
def fnBodiesUptoCard : Claim7 := { stood := { row := fnBodiesUptoRow, standIns := [], harness := (true, "da2473207509bb593ff8f4cbc1def9b9af851e90088b74ad772562da591b55aa"), looks := true }, kinds := [], alts := [], laidByText := true, laidKinds := [.handle, .data, .data], laidTests := true, laidLooks := .later }
def FnBodiesUptoCardSaid : Prop := Claim7.holds Tryz.pinned (.plain (OpenSpec.upto fnBodiesSpec)) fnBodiesUptoCard

/-- THE SECOND FORM's CARD OF 'laws.FnLedgers'. -/
def fnLedgersUptoCard : Claim7 := { stood := { row := fnLedgersUptoRow, standIns := [], harness := (true, "da2473207509bb593ff8f4cbc1def9b9af851e90088b74ad772562da591b55aa"), looks := true }, kinds := [], alts := [], laidByText := true, laidKinds := [.handle, .data, .data], laidTests := true, laidLooks := .later }
def FnLedgersUptoCardSaid : Prop := Claim7.holds Tryz.pinned (.plain (OpenSpec.upto fnLedgersSpec)) fnLedgersUptoCard

/-- THE SECOND FORM's CARD OF 'laws.FnExactBodyOk'. -/
def fnExactBodyOkUptoCard : Claim7 := { stood := { row := fnExactBodyOkUptoRow, standIns := [], harness := (true, "da2473207509bb593ff8f4cbc1def9b9af851e90088b74ad772562da591b55aa"), looks := true }, kinds := [], alts := [], laidByText := true, laidKinds := [.handle, .data, .data], laidTests := true, laidLooks := .later }
def FnExactBodyOkUptoCardSaid : Prop := Claim7.holds Tryz.pinned (.plain (OpenSpec.upto fnExactBodyOkSpec)) fnExactBodyOkUptoCard

/-- THE SECOND FORM's CARD OF 'laws.FnExactMakeBody'. -/
def fnExactMakeBodyUptoCard : Claim7 := { stood := { row := fnExactMakeBodyUptoRow, standIns := [], harness := (true, "da2473207509bb593ff8f4cbc1def9b9af851e90088b74ad772562da591b55aa"), looks := true }, kinds := [], alts := [], laidByText := true, laidKinds := [.handle, .data, .data], laidTests := true, laidLooks := .later }
def FnExactMakeBodyUptoCardSaid : Prop := Claim7.holds Tryz.pinned (.plain (OpenSpec.upto fnExactMakeBodySpec)) fnExactMakeBodyUptoCard
end Rows
end Go.Proofs.YtohachldbpejpaaGreatDoor
