/-
  DERIVED. GIVEN WITH THE SEED: THE CARDS: each row of YtnckbgeajdloiabDoorRows.lean that lists a variable, with what it lists TIED to the program's text (the seventh form; the later family's looks); each row that meets fmt, with fmt's text TOLD by the authors' own Lean function (tested against real Go, not proved from fmt's source: count such statements apart). THE CARD IS WHAT COUNTS. Prove the row's statement (the work); the ties are given (YtnckbgeajdloiabDoorTie.lean); close each card by the builder's one call (the guide's Derived/Test/ToyasCard.lean, 'card_holds'). Laid BY PROGRAM, IN A SANDBOX (cutbox-door.mjs). By AI agents, Wed Nov 11 2026. No macro, syntax, notation, axiom, sorry.
-/
import Derived.Test.YtnckbgeajdloiabDoorRows
import GoSem.ClaimSeven
namespace Go.Proofs.YtnckbgeajdloiabDoor
namespace Rows

/-- THE TIED CARD OF 'tandemlaw3.AluFlags'. -/
def aluFlagsCard : Claim7 := { stood := { row := aluFlagsRow, standIns := [], harness := (true, "755f320bdb5cd336ca756f129929cd4dbad05d5451f5f867f05c9b4139b39b6a"), looks := false }, kinds := [], alts := [], laidByText := true, laidKinds := [.data, .data], laidTests := true, laidLooks := .later }
def AluFlagsCardSaid : Prop := Claim7.holds Tryd.pinned (.plain (OpenSpec.ofChange aluFlagsSpec)) aluFlagsCard

/-- THE SECOND FORM's CARD OF 'tandemlaw3.AluFlags'. -/
def aluFlagsUptoCard : Claim7 := { stood := { row := aluFlagsUptoRow, standIns := [], harness := (true, "755f320bdb5cd336ca756f129929cd4dbad05d5451f5f867f05c9b4139b39b6a"), looks := false }, kinds := [], alts := [], laidByText := true, laidKinds := [.data, .data], laidTests := true, laidLooks := .later }
def AluFlagsUptoCardSaid : Prop := Claim7.holds Tryd.pinned (.plain (OpenSpec.upto aluFlagsSpec)) aluFlagsUptoCard
end Rows
end Go.Proofs.YtnckbgeajdloiabDoor
