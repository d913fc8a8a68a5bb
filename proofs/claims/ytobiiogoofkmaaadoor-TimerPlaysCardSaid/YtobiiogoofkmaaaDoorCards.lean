/-
  DERIVED. GIVEN WITH THE SEED: THE CARDS: each row of YtobiiogoofkmaaaDoorRows.lean that lists a variable, with what it lists TIED to the program's text (the seventh form; the later family's looks); each row that meets fmt, with fmt's text TOLD by the authors' own Lean function (tested against real Go, not proved from fmt's source: count such statements apart). THE CARD IS WHAT COUNTS. Prove the row's statement (the work); the ties are given (YtobiiogoofkmaaaDoorTie.lean); close each card by the builder's one call (the guide's Derived/Test/ToyasCard.lean, 'card_holds'). Laid BY PROGRAM, IN A SANDBOX (cutbox-door.mjs). By AI agents, Wed Nov 11 2026. No macro, syntax, notation, axiom, sorry.
-/
import Derived.Test.YtobiiogoofkmaaaDoorRows
import GoSem.ClaimSeven
namespace Go.Proofs.YtobiiogoofkmaaaDoor
namespace Rows

/-- THE TIED CARD OF 'tandemlaw6.TimerKeeps'. -/
def timerKeepsCard : Claim7 := { stood := { row := timerKeepsRow, standIns := [], harness := (true, "6d8c3da7e10ab17f1d2e63fe334c16d8ffb8f981781dabac739518c0696efefa"), looks := false }, kinds := [], alts := [], laidByText := true, laidKinds := [.data, .data, .data, .data, .data], laidTests := true, laidLooks := .later }
def TimerKeepsCardSaid : Prop := Claim7.holds Tryd.pinned (.plain (OpenSpec.ofChange timerKeepsSpec)) timerKeepsCard

/-- THE TIED CARD OF 'tandemlaw6.TimerPlays'. -/
def timerPlaysCard : Claim7 := { stood := { row := timerPlaysRow, standIns := [], harness := (true, "6d8c3da7e10ab17f1d2e63fe334c16d8ffb8f981781dabac739518c0696efefa"), looks := false }, kinds := [], alts := [], laidByText := true, laidKinds := [.data, .data, .data, .data, .data], laidTests := true, laidLooks := .later }
def TimerPlaysCardSaid : Prop := Claim7.holds Tryd.pinned (.plain (OpenSpec.ofChange timerPlaysSpec)) timerPlaysCard

/-- THE SECOND FORM's CARD OF 'tandemlaw6.TimerKeeps'. -/
def timerKeepsUptoCard : Claim7 := { stood := { row := timerKeepsUptoRow, standIns := [], harness := (true, "6d8c3da7e10ab17f1d2e63fe334c16d8ffb8f981781dabac739518c0696efefa"), looks := false }, kinds := [], alts := [], laidByText := true, laidKinds := [.data, .data, .data, .data, .data], laidTests := true, laidLooks := .later }
def TimerKeepsUptoCardSaid : Prop := Claim7.holds Tryd.pinned (.plain (OpenSpec.upto timerKeepsSpec)) timerKeepsUptoCard

/-- THE SECOND FORM's CARD OF 'tandemlaw6.TimerPlays'. -/
def timerPlaysUptoCard : Claim7 := { stood := { row := timerPlaysUptoRow, standIns := [], harness := (true, "6d8c3da7e10ab17f1d2e63fe334c16d8ffb8f981781dabac739518c0696efefa"), looks := false }, kinds := [], alts := [], laidByText := true, laidKinds := [.data, .data, .data, .data, .data], laidTests := true, laidLooks := .later }
def TimerPlaysUptoCardSaid : Prop := Claim7.holds Tryd.pinned (.plain (OpenSpec.upto timerPlaysSpec)) timerPlaysUptoCard
end Rows
end Go.Proofs.YtobiiogoofkmaaaDoor
