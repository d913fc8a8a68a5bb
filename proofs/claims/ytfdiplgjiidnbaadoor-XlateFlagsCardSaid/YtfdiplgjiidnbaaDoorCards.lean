/-
  DERIVED. GIVEN WITH THE SEED: THE CARDS: each row of YtfdiplgjiidnbaaDoorRows.lean that lists a variable, with what it lists TIED to the program's text (the seventh form; the later family's looks); each row that meets fmt, with fmt's text TOLD by the authors' own Lean function (tested against real Go, not proved from fmt's source: count such statements apart). THE CARD IS WHAT COUNTS. Prove the row's statement (the work); the ties are given (YtfdiplgjiidnbaaDoorTie.lean); close each card by the builder's one call (the guide's Derived/Test/ToyasCard.lean, 'card_holds'). Laid BY PROGRAM, IN A SANDBOX (cutbox-door.mjs). By AI agents, Wed Nov 11 2026. No macro, syntax, notation, axiom, sorry.
-/
import Derived.Test.YtfdiplgjiidnbaaDoorRows
import GoSem.ClaimSeven
namespace Go.Proofs.YtfdiplgjiidnbaaDoor
namespace Rows

/-- THE TIED CARD OF 'tandemlaw13.XlateOwn'. -/
def xlateOwnCard : Claim7 := { stood := { row := xlateOwnRow, standIns := [], harness := (true, "700cad4dac1f76989288582af580eefc986f5f66c4f544eca4d9d532f7523c50"), looks := false }, kinds := [], alts := [], laidByText := true, laidKinds := [.data, .data, .data], laidTests := true, laidLooks := .later }
def XlateOwnCardSaid : Prop := Claim7.holds Tryd.pinned (.plain (OpenSpec.ofChange xlateOwnSpec)) xlateOwnCard

/-- THE TIED CARD OF 'tandemlaw13.XlatePrefix'. -/
def xlatePrefixCard : Claim7 := { stood := { row := xlatePrefixRow, standIns := [], harness := (true, "700cad4dac1f76989288582af580eefc986f5f66c4f544eca4d9d532f7523c50"), looks := false }, kinds := [], alts := [], laidByText := true, laidKinds := [.data, .data, .data], laidTests := true, laidLooks := .later }
def XlatePrefixCardSaid : Prop := Claim7.holds Tryd.pinned (.plain (OpenSpec.ofChange xlatePrefixSpec)) xlatePrefixCard

/-- THE TIED CARD OF 'tandemlaw13.XlateFlags'. -/
def xlateFlagsCard : Claim7 := { stood := { row := xlateFlagsRow, standIns := [], harness := (true, "700cad4dac1f76989288582af580eefc986f5f66c4f544eca4d9d532f7523c50"), looks := false }, kinds := [], alts := [], laidByText := true, laidKinds := [.data, .data, .data], laidTests := true, laidLooks := .later }
def XlateFlagsCardSaid : Prop := Claim7.holds Tryd.pinned (.plain (OpenSpec.ofChange xlateFlagsSpec)) xlateFlagsCard

/-- THE TIED CARD OF 'tandemlaw13.XlateTranslates'. -/
def xlateTranslatesCard : Claim7 := { stood := { row := xlateTranslatesRow, standIns := [], harness := (true, "700cad4dac1f76989288582af580eefc986f5f66c4f544eca4d9d532f7523c50"), looks := false }, kinds := [], alts := [], laidByText := true, laidKinds := [.data, .data, .data, .data], laidTests := true, laidLooks := .later }
def XlateTranslatesCardSaid : Prop := Claim7.holds Tryd.pinned (.plain (OpenSpec.ofChange xlateTranslatesSpec)) xlateTranslatesCard

/-- THE SECOND FORM's CARD OF 'tandemlaw13.XlateOwn'. -/
def xlateOwnUptoCard : Claim7 := { stood := { row := xlateOwnUptoRow, standIns := [], harness := (true, "700cad4dac1f76989288582af580eefc986f5f66c4f544eca4d9d532f7523c50"), looks := false }, kinds := [], alts := [], laidByText := true, laidKinds := [.data, .data, .data], laidTests := true, laidLooks := .later }
def XlateOwnUptoCardSaid : Prop := Claim7.holds Tryd.pinned (.plain (OpenSpec.upto xlateOwnSpec)) xlateOwnUptoCard

/-- THE SECOND FORM's CARD OF 'tandemlaw13.XlatePrefix'. -/
def xlatePrefixUptoCard : Claim7 := { stood := { row := xlatePrefixUptoRow, standIns := [], harness := (true, "700cad4dac1f76989288582af580eefc986f5f66c4f544eca4d9d532f7523c50"), looks := false }, kinds := [], alts := [], laidByText := true, laidKinds := [.data, .data, .data], laidTests := true, laidLooks := .later }
def XlatePrefixUptoCardSaid : Prop := Claim7.holds Tryd.pinned (.plain (OpenSpec.upto xlatePrefixSpec)) xlatePrefixUptoCard

/-- THE SECOND FORM's CARD OF 'tandemlaw13.XlateFlags'. -/
def xlateFlagsUptoCard : Claim7 := { stood := { row := xlateFlagsUptoRow, standIns := [], harness := (true, "700cad4dac1f76989288582af580eefc986f5f66c4f544eca4d9d532f7523c50"), looks := false }, kinds := [], alts := [], laidByText := true, laidKinds := [.data, .data, .data], laidTests := true, laidLooks := .later }
def XlateFlagsUptoCardSaid : Prop := Claim7.holds Tryd.pinned (.plain (OpenSpec.upto xlateFlagsSpec)) xlateFlagsUptoCard

/-- THE SECOND FORM's CARD OF 'tandemlaw13.XlateTranslates'. -/
def xlateTranslatesUptoCard : Claim7 := { stood := { row := xlateTranslatesUptoRow, standIns := [], harness := (true, "700cad4dac1f76989288582af580eefc986f5f66c4f544eca4d9d532f7523c50"), looks := false }, kinds := [], alts := [], laidByText := true, laidKinds := [.data, .data, .data, .data], laidTests := true, laidLooks := .later }
def XlateTranslatesUptoCardSaid : Prop := Claim7.holds Tryd.pinned (.plain (OpenSpec.upto xlateTranslatesSpec)) xlateTranslatesUptoCard
end Rows
end Go.Proofs.YtfdiplgjiidnbaaDoor
