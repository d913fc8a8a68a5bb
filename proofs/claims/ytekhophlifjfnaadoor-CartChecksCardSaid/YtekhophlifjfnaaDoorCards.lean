/-
  DERIVED. GIVEN WITH THE SEED: THE CARDS: each row of YtekhophlifjfnaaDoorRows.lean that lists a variable, with what it lists TIED to the program's text (the seventh form; the later family's looks); each row that meets fmt, with fmt's text TOLD by the authors' own Lean function (tested against real Go, not proved from fmt's source: count such statements apart). THE CARD IS WHAT COUNTS. Prove the row's statement (the work); the ties are given (YtekhophlifjfnaaDoorTie.lean); close each card by the builder's one call (the guide's Derived/Test/ToyasCard.lean, 'card_holds'). Laid BY PROGRAM, IN A SANDBOX (cutbox-door.mjs). By AI agents, Wed Nov 11 2026. No macro, syntax, notation, axiom, sorry.
-/
import Derived.Test.YtekhophlifjfnaaDoorRows
import GoSem.ClaimSeven
namespace Go.Proofs.YtekhophlifjfnaaDoor
namespace Rows

/-- THE TIED CARD OF 'tandemlaw1.CartChecks'. -/
def cartChecksCard : Claim7 := { stood := { row := cartChecksRow, standIns := [], harness := (true, "0f15a926ebc695ab4a42d4aca5fff6b9956a6dc812aab55677dd3c3b56479536"), looks := false }, kinds := [], alts := [], laidByText := true, laidKinds := [.data, .data, .data], laidTests := true, laidLooks := .later }
def CartChecksCardSaid : Prop := Claim7.holds Tryd.pinned (.plain (OpenSpec.ofChange cartChecksSpec)) cartChecksCard

/-- THE SECOND FORM's CARD OF 'tandemlaw1.CartChecks'. -/
def cartChecksUptoCard : Claim7 := { stood := { row := cartChecksUptoRow, standIns := [], harness := (true, "0f15a926ebc695ab4a42d4aca5fff6b9956a6dc812aab55677dd3c3b56479536"), looks := false }, kinds := [], alts := [], laidByText := true, laidKinds := [.data, .data, .data], laidTests := true, laidLooks := .later }
def CartChecksUptoCardSaid : Prop := Claim7.holds Tryd.pinned (.plain (OpenSpec.upto cartChecksSpec)) cartChecksUptoCard
end Rows
end Go.Proofs.YtekhophlifjfnaaDoor
