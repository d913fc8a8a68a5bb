/-
  DERIVED. GIVEN WITH THE SEED: THE CARDS: each row of YtmjolcdocoiaeaaDoorRows.lean that lists a variable, with what it lists TIED to the program's text (the seventh form; the later family's looks); each row that meets fmt, with fmt's text TOLD by the authors' own Lean function (tested against real Go, not proved from fmt's source: count such statements apart). THE CARD IS WHAT COUNTS. Prove the row's statement (the work); the ties are given (YtmjolcdocoiaeaaDoorTie.lean); close each card by the builder's one call (the guide's Derived/Test/ToyasCard.lean, 'card_holds'). Laid BY PROGRAM, IN A SANDBOX (cutbox-door.mjs). By AI agents, Wed Nov 11 2026. No macro, syntax, notation, axiom, sorry.
-/
import Derived.Test.YtmjolcdocoiaeaaDoorRows
import GoSem.ClaimSeven
namespace Go.Proofs.YtmjolcdocoiaeaaDoor
namespace Rows

/-- THE TIED CARD OF 'tandemlaw1.CartPrints'. -/
def cartPrintsCard : Claim7 := { stood := { row := cartPrintsRow, standIns := [], harness := (true, "ab99ffd0b874df789e84f2a2bfe2fc31547d370b0a43e1ab06fd7043f06e9e33"), looks := false }, kinds := [], alts := [], laidByText := true, laidKinds := [.data, .data, .data, .data], laidTests := true, laidLooks := .later }
def CartPrintsCardSaid : Prop := Claim7.holds Tryd.pinned (.plain (OpenSpec.ofChange cartPrintsSpec)) cartPrintsCard

/-- THE SECOND FORM's CARD OF 'tandemlaw1.CartPrints'. -/
def cartPrintsUptoCard : Claim7 := { stood := { row := cartPrintsUptoRow, standIns := [], harness := (true, "ab99ffd0b874df789e84f2a2bfe2fc31547d370b0a43e1ab06fd7043f06e9e33"), looks := false }, kinds := [], alts := [], laidByText := true, laidKinds := [.data, .data, .data, .data], laidTests := true, laidLooks := .later }
def CartPrintsUptoCardSaid : Prop := Claim7.holds Tryd.pinned (.plain (OpenSpec.upto cartPrintsSpec)) cartPrintsUptoCard
end Rows
end Go.Proofs.YtmjolcdocoiaeaaDoor
