/-
  DERIVED. GIVEN WITH THE SEED: THE CARDS: each row of YtlolfmpgljpjoaaDoorRows.lean that lists a variable, with what it lists TIED to the program's text (the seventh form; the later family's looks); each row that meets fmt, with fmt's text TOLD by the authors' own Lean function (tested against real Go, not proved from fmt's source: count such statements apart). THE CARD IS WHAT COUNTS. Prove the row's statement (the work); the ties are given (YtlolfmpgljpjoaaDoorTie.lean); close each card by the builder's one call (the guide's Derived/Test/ToyasCard.lean, 'card_holds'). Laid BY PROGRAM, IN A SANDBOX (cutbox-door.mjs). By AI agents, Wed Nov 11 2026. No macro, syntax, notation, axiom, sorry.
-/
import Derived.Test.YtlolfmpgljpjoaaDoorRows
import GoSem.ClaimSeven
namespace Go.Proofs.YtlolfmpgljpjoaaDoor
namespace Rows

/-- THE TIED CARD OF 'tandemlaw4.IsaCounts'. -/
def isaCountsCard : Claim7 := { stood := { row := isaCountsRow, standIns := [], harness := (true, "ad3744480e90bd8fd12390cb52785f0e1a7c232ffc7dbee2012a182fbff081a4"), looks := false }, kinds := [], alts := [], laidByText := true, laidKinds := [.data], laidTests := true, laidLooks := .later }
def IsaCountsCardSaid : Prop := Claim7.holds Tryd.pinned (.plain (OpenSpec.ofChange isaCountsSpec)) isaCountsCard

/-- THE TIED CARD OF 'tandemlaw4.IsaEncodes'. -/
def isaEncodesCard : Claim7 := { stood := { row := isaEncodesRow, standIns := [], harness := (true, "ad3744480e90bd8fd12390cb52785f0e1a7c232ffc7dbee2012a182fbff081a4"), looks := false }, kinds := [], alts := [], laidByText := true, laidKinds := [.data, .data], laidTests := true, laidLooks := .later }
def IsaEncodesCardSaid : Prop := Claim7.holds Tryd.pinned (.plain (OpenSpec.ofChange isaEncodesSpec)) isaEncodesCard

/-- THE TIED CARD OF 'tandemlaw4.IsaShapes'. -/
def isaShapesCard : Claim7 := { stood := { row := isaShapesRow, standIns := [], harness := (true, "ad3744480e90bd8fd12390cb52785f0e1a7c232ffc7dbee2012a182fbff081a4"), looks := false }, kinds := [], alts := [], laidByText := true, laidKinds := [.data], laidTests := true, laidLooks := .later }
def IsaShapesCardSaid : Prop := Claim7.holds Tryd.pinned (.plain (OpenSpec.ofChange isaShapesSpec)) isaShapesCard

/-- THE SECOND FORM's CARD OF 'tandemlaw4.IsaCounts'. -/
def isaCountsUptoCard : Claim7 := { stood := { row := isaCountsUptoRow, standIns := [], harness := (true, "ad3744480e90bd8fd12390cb52785f0e1a7c232ffc7dbee2012a182fbff081a4"), looks := false }, kinds := [], alts := [], laidByText := true, laidKinds := [.data], laidTests := true, laidLooks := .later }
def IsaCountsUptoCardSaid : Prop := Claim7.holds Tryd.pinned (.plain (OpenSpec.upto isaCountsSpec)) isaCountsUptoCard

/-- THE SECOND FORM's CARD OF 'tandemlaw4.IsaEncodes'. -/
def isaEncodesUptoCard : Claim7 := { stood := { row := isaEncodesUptoRow, standIns := [], harness := (true, "ad3744480e90bd8fd12390cb52785f0e1a7c232ffc7dbee2012a182fbff081a4"), looks := false }, kinds := [], alts := [], laidByText := true, laidKinds := [.data, .data], laidTests := true, laidLooks := .later }
def IsaEncodesUptoCardSaid : Prop := Claim7.holds Tryd.pinned (.plain (OpenSpec.upto isaEncodesSpec)) isaEncodesUptoCard

/-- THE SECOND FORM's CARD OF 'tandemlaw4.IsaShapes'. -/
def isaShapesUptoCard : Claim7 := { stood := { row := isaShapesUptoRow, standIns := [], harness := (true, "ad3744480e90bd8fd12390cb52785f0e1a7c232ffc7dbee2012a182fbff081a4"), looks := false }, kinds := [], alts := [], laidByText := true, laidKinds := [.data], laidTests := true, laidLooks := .later }
def IsaShapesUptoCardSaid : Prop := Claim7.holds Tryd.pinned (.plain (OpenSpec.upto isaShapesSpec)) isaShapesUptoCard
end Rows
end Go.Proofs.YtlolfmpgljpjoaaDoor
