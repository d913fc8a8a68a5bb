/-
  DERIVED. GIVEN WITH THE SEED: THE CARDS: each row of YtkebkbiabdlomaaDoorRows.lean that lists a variable, with what it lists TIED to the program's text (the seventh form; the later family's looks); each row that meets fmt, with fmt's text TOLD by the authors' own Lean function (tested against real Go, not proved from fmt's source: count such statements apart). THE CARD IS WHAT COUNTS. Prove the row's statement (the work); the ties are given (YtkebkbiabdlomaaDoorTie.lean); close each card by the builder's one call (the guide's Derived/Test/ToyasCard.lean, 'card_holds'). Laid BY PROGRAM, IN A SANDBOX (cutbox-door.mjs). By AI agents, Wed Nov 11 2026. No macro, syntax, notation, axiom, sorry.
-/
import Derived.Test.YtkebkbiabdlomaaDoorRows
import GoSem.ClaimSeven
namespace Go.Proofs.YtkebkbiabdlomaaDoor
namespace Rows

/-- THE TIED CARD OF 'tandemlaw9.PadsPrints'. -/
def padsPrintsCard : Claim7 := { stood := { row := padsPrintsRow, standIns := [], harness := (true, "71e4a5ccb4bc418f0a529eb4e2800ffbc17f0d0db79f71136c041d4eed3646c0"), looks := true }, kinds := [], alts := [], laidByText := true, laidKinds := [.data, .data, .data], laidTests := true, laidLooks := .later }
def PadsPrintsCardSaid : Prop := Claim7.holds Tryd.pinned (.plain (OpenSpec.ofChange padsPrintsSpec)) padsPrintsCard

/-- THE TIED CARD OF 'tandemlaw9.PadsEach'. -/
def padsEachCard : Claim7 := { stood := { row := padsEachRow, standIns := [], harness := (true, "71e4a5ccb4bc418f0a529eb4e2800ffbc17f0d0db79f71136c041d4eed3646c0"), looks := true }, kinds := [], alts := [], laidByText := true, laidKinds := [.data, .data, .data, .data, .sentinel, .sentinel, .pinned], laidTests := true, laidLooks := .later }
def PadsEachCardSaid : Prop := Claim7.holds Tryd.pinned (.plain (OpenSpec.ofChange padsEachSpec)) padsEachCard

/-- THE TIED CARD OF 'tandemlaw9.PadsParses'. -/
def padsParsesCard : Claim7 := { stood := { row := padsParsesRow, standIns := [], harness := (true, "71e4a5ccb4bc418f0a529eb4e2800ffbc17f0d0db79f71136c041d4eed3646c0"), looks := true }, kinds := [], alts := [], laidByText := true, laidKinds := [.data, .data, .data, .data, .sentinel, .sentinel, .pinned], laidTests := true, laidLooks := .later }
def PadsParsesCardSaid : Prop := Claim7.holds Tryd.pinned (.plain (OpenSpec.ofChange padsParsesSpec)) padsParsesCard

/-- THE SECOND FORM's CARD OF 'tandemlaw9.PadsPrints'. -/
def padsPrintsUptoCard : Claim7 := { stood := { row := padsPrintsUptoRow, standIns := [], harness := (true, "71e4a5ccb4bc418f0a529eb4e2800ffbc17f0d0db79f71136c041d4eed3646c0"), looks := true }, kinds := [], alts := [], laidByText := true, laidKinds := [.data, .data, .data], laidTests := true, laidLooks := .later }
def PadsPrintsUptoCardSaid : Prop := Claim7.holds Tryd.pinned (.plain (OpenSpec.upto padsPrintsSpec)) padsPrintsUptoCard

/-- THE SECOND FORM's CARD OF 'tandemlaw9.PadsEach'. -/
def padsEachUptoCard : Claim7 := { stood := { row := padsEachUptoRow, standIns := [], harness := (true, "71e4a5ccb4bc418f0a529eb4e2800ffbc17f0d0db79f71136c041d4eed3646c0"), looks := true }, kinds := [], alts := [], laidByText := true, laidKinds := [.data, .data, .data, .data, .sentinel, .sentinel, .pinned], laidTests := true, laidLooks := .later }
def PadsEachUptoCardSaid : Prop := Claim7.holds Tryd.pinned (.plain (OpenSpec.upto padsEachSpec)) padsEachUptoCard

/-- THE SECOND FORM's CARD OF 'tandemlaw9.PadsParses'. -/
def padsParsesUptoCard : Claim7 := { stood := { row := padsParsesUptoRow, standIns := [], harness := (true, "71e4a5ccb4bc418f0a529eb4e2800ffbc17f0d0db79f71136c041d4eed3646c0"), looks := true }, kinds := [], alts := [], laidByText := true, laidKinds := [.data, .data, .data, .data, .sentinel, .sentinel, .pinned], laidTests := true, laidLooks := .later }
def PadsParsesUptoCardSaid : Prop := Claim7.holds Tryd.pinned (.plain (OpenSpec.upto padsParsesSpec)) padsParsesUptoCard
end Rows
end Go.Proofs.YtkebkbiabdlomaaDoor
