/-
  DERIVED. GIVEN WITH THE SEED: THE CARDS: each row of YtmgflaagddlheaaDoorRows.lean that lists a variable, with what it lists TIED to the program's text (the seventh form; the later family's looks); each row that meets fmt, with fmt's text TOLD by the authors' own Lean function (tested against real Go, not proved from fmt's source: count such statements apart). THE CARD IS WHAT COUNTS. Prove the row's statement (the work); the ties are given (YtmgflaagddlheaaDoorTie.lean); close each card by the builder's one call (the guide's Derived/Test/ToyasCard.lean, 'card_holds'). Laid BY PROGRAM, IN A SANDBOX (cutbox-door.mjs). By AI agents, Wed Nov 11 2026. No macro, syntax, notation, axiom, sorry.
-/
import Derived.Test.YtmgflaagddlheaaDoorRows
import GoSem.ClaimSeven
namespace Go.Proofs.YtmgflaagddlheaaDoor
namespace Rows

/-- THE TIED CARD OF 'tandemlaw1.CartThere'. -/
def cartThereCard : Claim7 := { stood := { row := cartThereRow, standIns := [], harness := (true, "88c089678e9a9ad51df688e3697ffcffe870bf232a7142e3a00b99dd99748056"), looks := false }, kinds := [], alts := [], laidByText := true, laidKinds := [.data, .data, .data], laidTests := true, laidLooks := .later }
def CartThereCardSaid : Prop := Claim7.holds Tryd.pinned (.plain (OpenSpec.ofChange cartThereSpec)) cartThereCard

/-- THE TIED CARD OF 'tandemlaw1.CartConverts'. -/
def cartConvertsCard : Claim7 := { stood := { row := cartConvertsRow, standIns := [], harness := (true, "88c089678e9a9ad51df688e3697ffcffe870bf232a7142e3a00b99dd99748056"), looks := false }, kinds := [], alts := [], laidByText := true, laidKinds := [.data, .data, .data], laidTests := true, laidLooks := .later }
def CartConvertsCardSaid : Prop := Claim7.holds Tryd.pinned (.plain (OpenSpec.ofChange cartConvertsSpec)) cartConvertsCard

/-- THE TIED CARD OF 'tandemlaw1.CartPrints'. -/
def cartPrintsCard : Claim7 := { stood := { row := cartPrintsRow, standIns := [], harness := (true, "88c089678e9a9ad51df688e3697ffcffe870bf232a7142e3a00b99dd99748056"), looks := false }, kinds := [], alts := [], laidByText := true, laidKinds := [.data, .data, .data, .data], laidTests := true, laidLooks := .later }
def CartPrintsCardSaid : Prop := Claim7.holds Tryd.pinned (.plain (OpenSpec.ofChange cartPrintsSpec)) cartPrintsCard

/-- THE SECOND FORM's CARD OF 'tandemlaw1.CartThere'. -/
def cartThereUptoCard : Claim7 := { stood := { row := cartThereUptoRow, standIns := [], harness := (true, "88c089678e9a9ad51df688e3697ffcffe870bf232a7142e3a00b99dd99748056"), looks := false }, kinds := [], alts := [], laidByText := true, laidKinds := [.data, .data, .data], laidTests := true, laidLooks := .later }
def CartThereUptoCardSaid : Prop := Claim7.holds Tryd.pinned (.plain (OpenSpec.upto cartThereSpec)) cartThereUptoCard

/-- THE SECOND FORM's CARD OF 'tandemlaw1.CartConverts'. -/
def cartConvertsUptoCard : Claim7 := { stood := { row := cartConvertsUptoRow, standIns := [], harness := (true, "88c089678e9a9ad51df688e3697ffcffe870bf232a7142e3a00b99dd99748056"), looks := false }, kinds := [], alts := [], laidByText := true, laidKinds := [.data, .data, .data], laidTests := true, laidLooks := .later }
def CartConvertsUptoCardSaid : Prop := Claim7.holds Tryd.pinned (.plain (OpenSpec.upto cartConvertsSpec)) cartConvertsUptoCard

/-- THE SECOND FORM's CARD OF 'tandemlaw1.CartPrints'. -/
def cartPrintsUptoCard : Claim7 := { stood := { row := cartPrintsUptoRow, standIns := [], harness := (true, "88c089678e9a9ad51df688e3697ffcffe870bf232a7142e3a00b99dd99748056"), looks := false }, kinds := [], alts := [], laidByText := true, laidKinds := [.data, .data, .data, .data], laidTests := true, laidLooks := .later }
def CartPrintsUptoCardSaid : Prop := Claim7.holds Tryd.pinned (.plain (OpenSpec.upto cartPrintsSpec)) cartPrintsUptoCard
end Rows
end Go.Proofs.YtmgflaagddlheaaDoor
