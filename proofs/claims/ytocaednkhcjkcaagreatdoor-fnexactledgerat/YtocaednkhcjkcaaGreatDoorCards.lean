/-
  DERIVED. GIVEN WITH THE SEED: THE CARDS: each row of YtocaednkhcjkcaaGreatDoorRows.lean that lists a variable, with what it lists TIED to the program's text (the seventh form; the later family's looks); each row that meets fmt, with fmt's text TOLD by the authors' own Lean function (tested against real Go, not proved from fmt's source: count such statements apart). THE CARD IS WHAT COUNTS. Prove the row's statement (the work); the ties are given (YtocaednkhcjkcaaGreatDoorTie.lean); close each card by the builder's one call (the guide's Derived/Test/ToyasCard.lean, 'card_holds'). Laid BY PROGRAM, IN A SANDBOX (cutbox-door.mjs). By AI agents, Wed Nov 11 2026. No macro, syntax, notation, axiom, sorry.
-/
import Derived.Test.YtocaednkhcjkcaaGreatDoorRows
import GoSem.ClaimSeven
namespace Go.Proofs.YtocaednkhcjkcaaGreatDoor
namespace Rows

/-- THE TIED CARD OF 'laws.FnApplied'. -/
def fnAppliedCard : Claim7 := { stood := { row := fnAppliedRow, standIns := [], harness := (true, "de718e9d94e2b3dce6cac1a2eb633a3030b4a83c51e5949059bbb35dbfc352bf"), looks := true }, kinds := [], alts := [], laidByText := true, laidKinds := [.handle], laidTests := true, laidLooks := .later }
def FnAppliedCardSaid : Prop := Claim7.holds Tryz.pinned (.plain (OpenSpec.ofChange fnAppliedSpec)) fnAppliedCard

/-- THE TIED CARD OF 'laws.FnExactApply'. -/
def fnExactApplyCard : Claim7 := { stood := { row := fnExactApplyRow, standIns := [], harness := (true, "de718e9d94e2b3dce6cac1a2eb633a3030b4a83c51e5949059bbb35dbfc352bf"), looks := true }, kinds := [], alts := [], laidByText := true, laidKinds := [.handle], laidTests := true, laidLooks := .later }
def FnExactApplyCardSaid : Prop := Claim7.holds Tryz.pinned (.plain (OpenSpec.ofChange fnExactApplySpec)) fnExactApplyCard

/-- THE TIED CARD OF 'laws.FnExactApplyAll'. -/
def fnExactApplyAllCard : Claim7 := { stood := { row := fnExactApplyAllRow, standIns := [], harness := (true, "de718e9d94e2b3dce6cac1a2eb633a3030b4a83c51e5949059bbb35dbfc352bf"), looks := true }, kinds := [], alts := [], laidByText := true, laidKinds := [.handle], laidTests := true, laidLooks := .later }
def FnExactApplyAllCardSaid : Prop := Claim7.holds Tryz.pinned (.plain (OpenSpec.ofChange fnExactApplyAllSpec)) fnExactApplyAllCard

/-- THE TIED CARD OF 'laws.FnExactLedgerAt'. -/
def fnExactLedgerAtCard : Claim7 := { stood := { row := fnExactLedgerAtRow, standIns := [], harness := (true, "de718e9d94e2b3dce6cac1a2eb633a3030b4a83c51e5949059bbb35dbfc352bf"), looks := true }, kinds := [], alts := [], laidByText := true, laidKinds := [.handle], laidTests := true, laidLooks := .later }
def FnExactLedgerAtCardSaid : Prop := Claim7.holds Tryz.pinned (.plain (OpenSpec.ofChange fnExactLedgerAtSpec)) fnExactLedgerAtCard

/-- THE SECOND FORM's CARD OF 'laws.FnApplied'. -/
def fnAppliedUptoCard : Claim7 := { stood := { row := fnAppliedUptoRow, standIns := [], harness := (true, "de718e9d94e2b3dce6cac1a2eb633a3030b4a83c51e5949059bbb35dbfc352bf"), looks := true }, kinds := [], alts := [], laidByText := true, laidKinds := [.handle], laidTests := true, laidLooks := .later }
def FnAppliedUptoCardSaid : Prop := Claim7.holds Tryz.pinned (.plain (OpenSpec.upto fnAppliedSpec)) fnAppliedUptoCard

/-- THE SECOND FORM's CARD OF 'laws.FnExactApply'. -/
def fnExactApplyUptoCard : Claim7 := { stood := { row := fnExactApplyUptoRow, standIns := [], harness := (true, "de718e9d94e2b3dce6cac1a2eb633a3030b4a83c51e5949059bbb35dbfc352bf"), looks := true }, kinds := [], alts := [], laidByText := true, laidKinds := [.handle], laidTests := true, laidLooks := .later }
def FnExactApplyUptoCardSaid : Prop := Claim7.holds Tryz.pinned (.plain (OpenSpec.upto fnExactApplySpec)) fnExactApplyUptoCard

/-- THE SECOND FORM's CARD OF 'laws.FnExactApplyAll'. -/
def fnExactApplyAllUptoCard : Claim7 := { stood := { row := fnExactApplyAllUptoRow, standIns := [], harness := (true, "de718e9d94e2b3dce6cac1a2eb633a3030b4a83c51e5949059bbb35dbfc352bf"), looks := true }, kinds := [], alts := [], laidByText := true, laidKinds := [.handle], laidTests := true, laidLooks := .later }
def FnExactApplyAllUptoCardSaid : Prop := Claim7.holds Tryz.pinned (.plain (OpenSpec.upto fnExactApplyAllSpec)) fnExactApplyAllUptoCard

/-- THE SECOND FORM's CARD OF 'laws.FnExactLedgerAt'. -/
def fnExactLedgerAtUptoCard : Claim7 := { stood := { row := fnExactLedgerAtUptoRow, standIns := [], harness := (true, "de718e9d94e2b3dce6cac1a2eb633a3030b4a83c51e5949059bbb35dbfc352bf"), looks := true }, kinds := [], alts := [], laidByText := true, laidKinds := [.handle], laidTests := true, laidLooks := .later }
def FnExactLedgerAtUptoCardSaid : Prop := Claim7.holds Tryz.pinned (.plain (OpenSpec.upto fnExactLedgerAtSpec)) fnExactLedgerAtUptoCard
end Rows
end Go.Proofs.YtocaednkhcjkcaaGreatDoor
