/-
  DERIVED. GIVEN WITH THE SEED: THE CARDS: each row of YtggkonpboahdeaaGreatDoorRows.lean that lists a variable, with what it lists TIED to the program's text (the seventh form; the later family's looks); each row that meets fmt, with fmt's text TOLD by the authors' own Lean function (tested against real Go, not proved from fmt's source: count such statements apart). THE CARD IS WHAT COUNTS. Prove the row's statement (the work); the ties are given (YtggkonpboahdeaaGreatDoorTie.lean); close each card by the builder's one call (the guide's Derived/Test/ToyasCard.lean, 'card_holds'). Laid BY PROGRAM, IN A SANDBOX (cutbox-door.mjs). By AI agents, Wed Nov 11 2026. No macro, syntax, notation, axiom, sorry.
-/
import Derived.Test.YtggkonpboahdeaaGreatDoorRows
import GoSem.ClaimSeven
namespace Go.Proofs.YtggkonpboahdeaaGreatDoor
namespace Rows

/-- THE TIED CARD OF 'laws.FnExactLedgerAt'. -/
def fnExactLedgerAtCard : Claim7 := { stood := { row := fnExactLedgerAtRow, standIns := [], harness := (true, "9a5939f08a5337835725d3cd9542534952a4f4b84b6426b94c42755d091c74c3"), looks := true }, kinds := [], alts := [], laidByText := true, laidKinds := [.handle], laidTests := true, laidLooks := .later }
def FnExactLedgerAtCardSaid : Prop := Claim7.holds Tryz.pinned (.plain (OpenSpec.ofChange fnExactLedgerAtSpec)) fnExactLedgerAtCard

/-- THE SECOND FORM's CARD OF 'laws.FnExactLedgerAt'. -/
def fnExactLedgerAtUptoCard : Claim7 := { stood := { row := fnExactLedgerAtUptoRow, standIns := [], harness := (true, "9a5939f08a5337835725d3cd9542534952a4f4b84b6426b94c42755d091c74c3"), looks := true }, kinds := [], alts := [], laidByText := true, laidKinds := [.handle], laidTests := true, laidLooks := .later }
def FnExactLedgerAtUptoCardSaid : Prop := Claim7.holds Tryz.pinned (.plain (OpenSpec.upto fnExactLedgerAtSpec)) fnExactLedgerAtUptoCard
end Rows
end Go.Proofs.YtggkonpboahdeaaGreatDoor
