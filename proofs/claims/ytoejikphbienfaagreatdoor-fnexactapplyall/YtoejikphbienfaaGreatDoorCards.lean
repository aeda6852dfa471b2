/-
  DERIVED. GIVEN WITH THE SEED: THE CARDS: each row of YtoejikphbienfaaGreatDoorRows.lean that lists a variable, with what it lists TIED to the program's text (the seventh form; the later family's looks); each row that meets fmt, with fmt's text TOLD by the authors' own Lean function (tested against real Go, not proved from fmt's source: count such statements apart). THE CARD IS WHAT COUNTS. Prove the row's statement (the work); the ties are given (YtoejikphbienfaaGreatDoorTie.lean); close each card by the builder's one call (the guide's Derived/Test/ToyasCard.lean, 'card_holds'). Laid BY PROGRAM, IN A SANDBOX (cutbox-door.mjs). By AI agents, Wed Nov 11 2026. No macro, syntax, notation, axiom, sorry.
-/
import Derived.Test.YtoejikphbienfaaGreatDoorRows
import GoSem.ClaimSeven
namespace Go.Proofs.YtoejikphbienfaaGreatDoor
namespace Rows

/-- THE TIED CARD OF 'laws.FnExactApplyAll'. -/
def fnExactApplyAllCard : Claim7 := { stood := { row := fnExactApplyAllRow, standIns := [], harness := (true, "c2b34998894cf212c3b0fb1158c01df13d0ffa2cff91dfe035526f47ae4ef7ca"), looks := true }, kinds := [], alts := [], laidByText := true, laidKinds := [.handle], laidTests := true, laidLooks := .later }
def FnExactApplyAllCardSaid : Prop := Claim7.holds Tryz.pinned (.plain (OpenSpec.ofChange fnExactApplyAllSpec)) fnExactApplyAllCard

/-- THE SECOND FORM's CARD OF 'laws.FnExactApplyAll'. -/
def fnExactApplyAllUptoCard : Claim7 := { stood := { row := fnExactApplyAllUptoRow, standIns := [], harness := (true, "c2b34998894cf212c3b0fb1158c01df13d0ffa2cff91dfe035526f47ae4ef7ca"), looks := true }, kinds := [], alts := [], laidByText := true, laidKinds := [.handle], laidTests := true, laidLooks := .later }
def FnExactApplyAllUptoCardSaid : Prop := Claim7.holds Tryz.pinned (.plain (OpenSpec.upto fnExactApplyAllSpec)) fnExactApplyAllUptoCard
end Rows
end Go.Proofs.YtoejikphbienfaaGreatDoor
