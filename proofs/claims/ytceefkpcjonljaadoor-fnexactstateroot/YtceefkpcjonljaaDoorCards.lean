/-
  DERIVED. GIVEN WITH THE SEED: THE CARDS: each row of YtceefkpcjonljaaDoorRows.lean that lists a variable, with what it lists TIED to the program's text (the seventh form; the later family's looks); each row that meets fmt, with fmt's text TOLD by the authors' own Lean function (tested against real Go, not proved from fmt's source: count such statements apart). THE CARD IS WHAT COUNTS. Prove the row's statement (the work); the ties are given (YtceefkpcjonljaaDoorTie.lean); close each card by the builder's one call (the guide's Derived/Test/ToyasCard.lean, 'card_holds'). Laid BY PROGRAM, IN A SANDBOX (cutbox-door.mjs). By AI agents, Wed Nov 11 2026. No macro, syntax, notation, axiom, sorry.
-/
import Derived.Test.YtceefkpcjonljaaDoorRows
import GoSem.ClaimSeven
namespace Go.Proofs.YtceefkpcjonljaaDoor
namespace Rows

/-- THE TIED CARD OF 'laws.FnExactStateRoot'. -/
def fnExactStateRootCard : Claim7 := { stood := { row := fnExactStateRootRow, standIns := [], harness := (true, "2b482c4140567ec0a453cc067f53847dbc90fb7ae67bb8f1b860d44a42d10019"), looks := false }, kinds := [], alts := [], laidByText := true, laidKinds := [.data, .data], laidTests := true, laidLooks := .later }
def FnExactStateRootCardSaid : Prop := Claim7.holds Tryd.pinned (.plain (OpenSpec.ofChange fnExactStateRootSpec)) fnExactStateRootCard

/-- THE SECOND FORM's CARD OF 'laws.FnExactStateRoot'. -/
def fnExactStateRootUptoCard : Claim7 := { stood := { row := fnExactStateRootUptoRow, standIns := [], harness := (true, "2b482c4140567ec0a453cc067f53847dbc90fb7ae67bb8f1b860d44a42d10019"), looks := false }, kinds := [], alts := [], laidByText := true, laidKinds := [.data, .data], laidTests := true, laidLooks := .later }
def FnExactStateRootUptoCardSaid : Prop := Claim7.holds Tryd.pinned (.plain (OpenSpec.upto fnExactStateRootSpec)) fnExactStateRootUptoCard
end Rows
end Go.Proofs.YtceefkpcjonljaaDoor
