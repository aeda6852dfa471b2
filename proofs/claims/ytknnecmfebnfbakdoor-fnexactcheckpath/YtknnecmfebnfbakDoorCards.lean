/-
  DERIVED. GIVEN WITH THE SEED: THE CARDS: each row of YtknnecmfebnfbakDoorRows.lean that lists a variable, with what it lists TIED to the program's text (the seventh form; the later family's looks); each row that meets fmt, with fmt's text TOLD by the authors' own Lean function (tested against real Go, not proved from fmt's source: count such statements apart). THE CARD IS WHAT COUNTS. Prove the row's statement (the work); the ties are given (YtknnecmfebnfbakDoorTie.lean); close each card by the builder's one call (the guide's Derived/Test/ToyasCard.lean, 'card_holds'). Laid BY PROGRAM, IN A SANDBOX (cutbox-door.mjs). By AI agents, Wed Nov 11 2026. No macro, syntax, notation, axiom, sorry.
-/
import Derived.Test.YtknnecmfebnfbakDoorRows
import GoSem.ClaimSeven
namespace Go.Proofs.YtknnecmfebnfbakDoor
namespace Rows

/-- THE TIED CARD OF 'laws.FnExactLeafDigest'. -/
def fnExactLeafDigestCard : Claim7 := { stood := { row := fnExactLeafDigestRow, standIns := [], harness := (true, "b03c50e069415a22f851e2f128e24ea1748fd986af2b3ae34bd2e66e2f429dda"), looks := false }, kinds := [], alts := [], laidByText := true, laidKinds := [.data, .data], laidTests := true, laidLooks := .later }
def FnExactLeafDigestCardSaid : Prop := Claim7.holds Tryd.pinned (.plain (OpenSpec.ofChange fnExactLeafDigestSpec)) fnExactLeafDigestCard

/-- THE TIED CARD OF 'laws.FnExactNodeDigest'. -/
def fnExactNodeDigestCard : Claim7 := { stood := { row := fnExactNodeDigestRow, standIns := [], harness := (true, "b03c50e069415a22f851e2f128e24ea1748fd986af2b3ae34bd2e66e2f429dda"), looks := false }, kinds := [], alts := [], laidByText := true, laidKinds := [.data, .data], laidTests := true, laidLooks := .later }
def FnExactNodeDigestCardSaid : Prop := Claim7.holds Tryd.pinned (.plain (OpenSpec.ofChange fnExactNodeDigestSpec)) fnExactNodeDigestCard

/-- THE TIED CARD OF 'laws.FnExactRootOf'. -/
def fnExactRootOfCard : Claim7 := { stood := { row := fnExactRootOfRow, standIns := [], harness := (true, "b03c50e069415a22f851e2f128e24ea1748fd986af2b3ae34bd2e66e2f429dda"), looks := false }, kinds := [], alts := [], laidByText := true, laidKinds := [.data, .data], laidTests := true, laidLooks := .later }
def FnExactRootOfCardSaid : Prop := Claim7.holds Tryd.pinned (.plain (OpenSpec.ofChange fnExactRootOfSpec)) fnExactRootOfCard

/-- THE TIED CARD OF 'laws.FnExactPathOf'. -/
def fnExactPathOfCard : Claim7 := { stood := { row := fnExactPathOfRow, standIns := [], harness := (true, "b03c50e069415a22f851e2f128e24ea1748fd986af2b3ae34bd2e66e2f429dda"), looks := false }, kinds := [], alts := [], laidByText := true, laidKinds := [.data, .data], laidTests := true, laidLooks := .later }
def FnExactPathOfCardSaid : Prop := Claim7.holds Tryd.pinned (.plain (OpenSpec.ofChange fnExactPathOfSpec)) fnExactPathOfCard

/-- THE TIED CARD OF 'laws.FnExactCheckPath'. -/
def fnExactCheckPathCard : Claim7 := { stood := { row := fnExactCheckPathRow, standIns := [], harness := (true, "b03c50e069415a22f851e2f128e24ea1748fd986af2b3ae34bd2e66e2f429dda"), looks := false }, kinds := [], alts := [], laidByText := true, laidKinds := [.data, .data], laidTests := true, laidLooks := .later }
def FnExactCheckPathCardSaid : Prop := Claim7.holds Tryd.pinned (.plain (OpenSpec.ofChange fnExactCheckPathSpec)) fnExactCheckPathCard

/-- THE SECOND FORM's CARD OF 'laws.FnExactLeafDigest'. -/
def fnExactLeafDigestUptoCard : Claim7 := { stood := { row := fnExactLeafDigestUptoRow, standIns := [], harness := (true, "b03c50e069415a22f851e2f128e24ea1748fd986af2b3ae34bd2e66e2f429dda"), looks := false }, kinds := [], alts := [], laidByText := true, laidKinds := [.data, .data], laidTests := true, laidLooks := .later }
def FnExactLeafDigestUptoCardSaid : Prop := Claim7.holds Tryd.pinned (.plain (OpenSpec.upto fnExactLeafDigestSpec)) fnExactLeafDigestUptoCard

/-- THE SECOND FORM's CARD OF 'laws.FnExactNodeDigest'. -/
def fnExactNodeDigestUptoCard : Claim7 := { stood := { row := fnExactNodeDigestUptoRow, standIns := [], harness := (true, "b03c50e069415a22f851e2f128e24ea1748fd986af2b3ae34bd2e66e2f429dda"), looks := false }, kinds := [], alts := [], laidByText := true, laidKinds := [.data, .data], laidTests := true, laidLooks := .later }
def FnExactNodeDigestUptoCardSaid : Prop := Claim7.holds Tryd.pinned (.plain (OpenSpec.upto fnExactNodeDigestSpec)) fnExactNodeDigestUptoCard

/-- THE SECOND FORM's CARD OF 'laws.FnExactRootOf'. -/
def fnExactRootOfUptoCard : Claim7 := { stood := { row := fnExactRootOfUptoRow, standIns := [], harness := (true, "b03c50e069415a22f851e2f128e24ea1748fd986af2b3ae34bd2e66e2f429dda"), looks := false }, kinds := [], alts := [], laidByText := true, laidKinds := [.data, .data], laidTests := true, laidLooks := .later }
def FnExactRootOfUptoCardSaid : Prop := Claim7.holds Tryd.pinned (.plain (OpenSpec.upto fnExactRootOfSpec)) fnExactRootOfUptoCard

/-- THE SECOND FORM's CARD OF 'laws.FnExactPathOf'. -/
def fnExactPathOfUptoCard : Claim7 := { stood := { row := fnExactPathOfUptoRow, standIns := [], harness := (true, "b03c50e069415a22f851e2f128e24ea1748fd986af2b3ae34bd2e66e2f429dda"), looks := false }, kinds := [], alts := [], laidByText := true, laidKinds := [.data, .data], laidTests := true, laidLooks := .later }
def FnExactPathOfUptoCardSaid : Prop := Claim7.holds Tryd.pinned (.plain (OpenSpec.upto fnExactPathOfSpec)) fnExactPathOfUptoCard

/-- THE SECOND FORM's CARD OF 'laws.FnExactCheckPath'. -/
def fnExactCheckPathUptoCard : Claim7 := { stood := { row := fnExactCheckPathUptoRow, standIns := [], harness := (true, "b03c50e069415a22f851e2f128e24ea1748fd986af2b3ae34bd2e66e2f429dda"), looks := false }, kinds := [], alts := [], laidByText := true, laidKinds := [.data, .data], laidTests := true, laidLooks := .later }
def FnExactCheckPathUptoCardSaid : Prop := Claim7.holds Tryd.pinned (.plain (OpenSpec.upto fnExactCheckPathSpec)) fnExactCheckPathUptoCard
end Rows
end Go.Proofs.YtknnecmfebnfbakDoor
