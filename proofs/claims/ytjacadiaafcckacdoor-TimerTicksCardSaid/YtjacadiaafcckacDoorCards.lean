/-
  DERIVED. GIVEN WITH THE SEED: THE CARDS: each row of YtjacadiaafcckacDoorRows.lean that lists a variable, with what it lists TIED to the program's text (the seventh form; the later family's looks); each row that meets fmt, with fmt's text TOLD by the authors' own Lean function (tested against real Go, not proved from fmt's source: count such statements apart). THE CARD IS WHAT COUNTS. Prove the row's statement (the work); the ties are given (YtjacadiaafcckacDoorTie.lean); close each card by the builder's one call (the guide's Derived/Test/ToyasCard.lean, 'card_holds'). Laid BY PROGRAM, IN A SANDBOX (cutbox-door.mjs). By AI agents, Wed Nov 11 2026. No macro, syntax, notation, axiom, sorry.
-/
import Derived.Test.YtjacadiaafcckacDoorRows
import GoSem.ClaimSeven
namespace Go.Proofs.YtjacadiaafcckacDoor
namespace Rows

/-- THE TIED CARD OF 'tandemlaw6.TimerTicks'. -/
def timerTicksCard : Claim7 := { stood := { row := timerTicksRow, standIns := [], harness := (true, "0133576198f74698ead0c5d3cb4c538015c6dceee27104ac2494707359b0cb36"), looks := false }, kinds := [], alts := [], laidByText := true, laidKinds := [.data, .data, .data, .data, .data], laidTests := true, laidLooks := .later }
def TimerTicksCardSaid : Prop := Claim7.holds Tryd.pinned (.plain (OpenSpec.ofChange timerTicksSpec)) timerTicksCard

/-- THE TIED CARD OF 'tandemlaw6.TimerPlays'. -/
def timerPlaysCard : Claim7 := { stood := { row := timerPlaysRow, standIns := [], harness := (true, "0133576198f74698ead0c5d3cb4c538015c6dceee27104ac2494707359b0cb36"), looks := false }, kinds := [], alts := [], laidByText := true, laidKinds := [.data, .data, .data, .data, .data], laidTests := true, laidLooks := .later }
def TimerPlaysCardSaid : Prop := Claim7.holds Tryd.pinned (.plain (OpenSpec.ofChange timerPlaysSpec)) timerPlaysCard

/-- THE SECOND FORM's CARD OF 'tandemlaw6.TimerTicks'. -/
def timerTicksUptoCard : Claim7 := { stood := { row := timerTicksUptoRow, standIns := [], harness := (true, "0133576198f74698ead0c5d3cb4c538015c6dceee27104ac2494707359b0cb36"), looks := false }, kinds := [], alts := [], laidByText := true, laidKinds := [.data, .data, .data, .data, .data], laidTests := true, laidLooks := .later }
def TimerTicksUptoCardSaid : Prop := Claim7.holds Tryd.pinned (.plain (OpenSpec.upto timerTicksSpec)) timerTicksUptoCard

/-- THE SECOND FORM's CARD OF 'tandemlaw6.TimerPlays'. -/
def timerPlaysUptoCard : Claim7 := { stood := { row := timerPlaysUptoRow, standIns := [], harness := (true, "0133576198f74698ead0c5d3cb4c538015c6dceee27104ac2494707359b0cb36"), looks := false }, kinds := [], alts := [], laidByText := true, laidKinds := [.data, .data, .data, .data, .data], laidTests := true, laidLooks := .later }
def TimerPlaysUptoCardSaid : Prop := Claim7.holds Tryd.pinned (.plain (OpenSpec.upto timerPlaysSpec)) timerPlaysUptoCard
end Rows
end Go.Proofs.YtjacadiaafcckacDoor
