/-
  DERIVED. GIVEN WITH THE SEED: THE CARDS: each row of YtgnhaicogdnebaaDoorRows.lean that lists a variable, with what it lists TIED to the program's text (the seventh form; the later family's looks); each row that meets fmt, with fmt's text TOLD by the authors' own Lean function (tested against real Go, not proved from fmt's source: count such statements apart). THE CARD IS WHAT COUNTS. Prove the row's statement (the work); the ties are given (YtgnhaicogdnebaaDoorTie.lean); close each card by the builder's one call (the guide's Derived/Test/ToyasCard.lean, 'card_holds'). Laid BY PROGRAM, IN A SANDBOX (cutbox-door.mjs). By AI agents, Wed Nov 11 2026. No macro, syntax, notation, axiom, sorry.
-/
import Derived.Test.YtgnhaicogdnebaaDoorRows
import GoSem.ClaimSeven
namespace Go.Proofs.YtgnhaicogdnebaaDoor
namespace Rows

/-- THE TIED CARD OF 'tandemlaw4.IsaFlags'. -/
def isaFlagsCard : Claim7 := { stood := { row := isaFlagsRow, standIns := [], harness := (true, "d1295261a3f2b2fa4305e108efccbb9f18aad215880ba447c93d10132df9ec15"), looks := false }, kinds := [], alts := [], laidByText := true, laidKinds := [.data, .data], laidTests := true, laidLooks := .later }
def IsaFlagsCardSaid : Prop := Claim7.holds Tryd.pinned (.plain (OpenSpec.ofChange isaFlagsSpec)) isaFlagsCard

/-- THE SECOND FORM's CARD OF 'tandemlaw4.IsaFlags'. -/
def isaFlagsUptoCard : Claim7 := { stood := { row := isaFlagsUptoRow, standIns := [], harness := (true, "d1295261a3f2b2fa4305e108efccbb9f18aad215880ba447c93d10132df9ec15"), looks := false }, kinds := [], alts := [], laidByText := true, laidKinds := [.data, .data], laidTests := true, laidLooks := .later }
def IsaFlagsUptoCardSaid : Prop := Claim7.holds Tryd.pinned (.plain (OpenSpec.upto isaFlagsSpec)) isaFlagsUptoCard
end Rows
end Go.Proofs.YtgnhaicogdnebaaDoor
