/-
  DERIVED. GIVEN WITH THE SEED: THE CARDS: each row of YtjacadiaafcckabDoorRows.lean that lists a variable, with what it lists TIED to the program's text (the seventh form; the later family's looks); each row that meets fmt, with fmt's text TOLD by the authors' own Lean function (tested against real Go, not proved from fmt's source: count such statements apart). THE CARD IS WHAT COUNTS. Prove the row's statement (the work); the ties are given (YtjacadiaafcckabDoorTie.lean); close each card by the builder's one call (the guide's Derived/Test/ToyasCard.lean, 'card_holds'). Laid BY PROGRAM, IN A SANDBOX (cutbox-door.mjs). By AI agents, Wed Nov 11 2026. No macro, syntax, notation, axiom, sorry.
-/
import Derived.Test.YtjacadiaafcckabDoorRows
import GoSem.ClaimSeven
namespace Go.Proofs.YtjacadiaafcckabDoor
namespace Rows

/-- THE TIED CARD OF 'tandemlaw6.TimerOnce'. -/
def timerOnceCard : Claim7 := { stood := { row := timerOnceRow, standIns := [], harness := (true, "ce72df66a222b0c77b43c8db9c3e2fc1de0fd960460c9592a21f8ba26a0bb68b"), looks := false }, kinds := [], alts := [], laidByText := true, laidKinds := [.data, .data, .data, .data, .data], laidTests := true, laidLooks := .later }
def TimerOnceCardSaid : Prop := Claim7.holds Tryd.pinned (.plain (OpenSpec.ofChange timerOnceSpec)) timerOnceCard

/-- THE TIED CARD OF 'tandemlaw6.TimerNexts'. -/
def timerNextsCard : Claim7 := { stood := { row := timerNextsRow, standIns := [], harness := (true, "ce72df66a222b0c77b43c8db9c3e2fc1de0fd960460c9592a21f8ba26a0bb68b"), looks := false }, kinds := [], alts := [], laidByText := true, laidKinds := [.data, .data, .data, .data, .data], laidTests := true, laidLooks := .later }
def TimerNextsCardSaid : Prop := Claim7.holds Tryd.pinned (.plain (OpenSpec.ofChange timerNextsSpec)) timerNextsCard

/-- THE TIED CARD OF 'tandemlaw6.TimerFrames'. -/
def timerFramesCard : Claim7 := { stood := { row := timerFramesRow, standIns := [], harness := (true, "ce72df66a222b0c77b43c8db9c3e2fc1de0fd960460c9592a21f8ba26a0bb68b"), looks := false }, kinds := [], alts := [], laidByText := true, laidKinds := [.data, .data, .data, .data, .data], laidTests := true, laidLooks := .later }
def TimerFramesCardSaid : Prop := Claim7.holds Tryd.pinned (.plain (OpenSpec.ofChange timerFramesSpec)) timerFramesCard

/-- THE TIED CARD OF 'tandemlaw6.TimerFives'. -/
def timerFivesCard : Claim7 := { stood := { row := timerFivesRow, standIns := [], harness := (true, "ce72df66a222b0c77b43c8db9c3e2fc1de0fd960460c9592a21f8ba26a0bb68b"), looks := false }, kinds := [], alts := [], laidByText := true, laidKinds := [.data, .data, .data, .data, .data], laidTests := true, laidLooks := .later }
def TimerFivesCardSaid : Prop := Claim7.holds Tryd.pinned (.plain (OpenSpec.ofChange timerFivesSpec)) timerFivesCard

/-- THE TIED CARD OF 'tandemlaw6.TimerKeeps'. -/
def timerKeepsCard : Claim7 := { stood := { row := timerKeepsRow, standIns := [], harness := (true, "ce72df66a222b0c77b43c8db9c3e2fc1de0fd960460c9592a21f8ba26a0bb68b"), looks := false }, kinds := [], alts := [], laidByText := true, laidKinds := [.data, .data, .data, .data, .data], laidTests := true, laidLooks := .later }
def TimerKeepsCardSaid : Prop := Claim7.holds Tryd.pinned (.plain (OpenSpec.ofChange timerKeepsSpec)) timerKeepsCard

/-- THE TIED CARD OF 'tandemlaw6.TimerAdvances'. -/
def timerAdvancesCard : Claim7 := { stood := { row := timerAdvancesRow, standIns := [], harness := (true, "ce72df66a222b0c77b43c8db9c3e2fc1de0fd960460c9592a21f8ba26a0bb68b"), looks := false }, kinds := [], alts := [], laidByText := true, laidKinds := [.data, .data, .data, .data, .data], laidTests := true, laidLooks := .later }
def TimerAdvancesCardSaid : Prop := Claim7.holds Tryd.pinned (.plain (OpenSpec.ofChange timerAdvancesSpec)) timerAdvancesCard

/-- THE SECOND FORM's CARD OF 'tandemlaw6.TimerOnce'. -/
def timerOnceUptoCard : Claim7 := { stood := { row := timerOnceUptoRow, standIns := [], harness := (true, "ce72df66a222b0c77b43c8db9c3e2fc1de0fd960460c9592a21f8ba26a0bb68b"), looks := false }, kinds := [], alts := [], laidByText := true, laidKinds := [.data, .data, .data, .data, .data], laidTests := true, laidLooks := .later }
def TimerOnceUptoCardSaid : Prop := Claim7.holds Tryd.pinned (.plain (OpenSpec.upto timerOnceSpec)) timerOnceUptoCard

/-- THE SECOND FORM's CARD OF 'tandemlaw6.TimerNexts'. -/
def timerNextsUptoCard : Claim7 := { stood := { row := timerNextsUptoRow, standIns := [], harness := (true, "ce72df66a222b0c77b43c8db9c3e2fc1de0fd960460c9592a21f8ba26a0bb68b"), looks := false }, kinds := [], alts := [], laidByText := true, laidKinds := [.data, .data, .data, .data, .data], laidTests := true, laidLooks := .later }
def TimerNextsUptoCardSaid : Prop := Claim7.holds Tryd.pinned (.plain (OpenSpec.upto timerNextsSpec)) timerNextsUptoCard

/-- THE SECOND FORM's CARD OF 'tandemlaw6.TimerFrames'. -/
def timerFramesUptoCard : Claim7 := { stood := { row := timerFramesUptoRow, standIns := [], harness := (true, "ce72df66a222b0c77b43c8db9c3e2fc1de0fd960460c9592a21f8ba26a0bb68b"), looks := false }, kinds := [], alts := [], laidByText := true, laidKinds := [.data, .data, .data, .data, .data], laidTests := true, laidLooks := .later }
def TimerFramesUptoCardSaid : Prop := Claim7.holds Tryd.pinned (.plain (OpenSpec.upto timerFramesSpec)) timerFramesUptoCard

/-- THE SECOND FORM's CARD OF 'tandemlaw6.TimerFives'. -/
def timerFivesUptoCard : Claim7 := { stood := { row := timerFivesUptoRow, standIns := [], harness := (true, "ce72df66a222b0c77b43c8db9c3e2fc1de0fd960460c9592a21f8ba26a0bb68b"), looks := false }, kinds := [], alts := [], laidByText := true, laidKinds := [.data, .data, .data, .data, .data], laidTests := true, laidLooks := .later }
def TimerFivesUptoCardSaid : Prop := Claim7.holds Tryd.pinned (.plain (OpenSpec.upto timerFivesSpec)) timerFivesUptoCard

/-- THE SECOND FORM's CARD OF 'tandemlaw6.TimerKeeps'. -/
def timerKeepsUptoCard : Claim7 := { stood := { row := timerKeepsUptoRow, standIns := [], harness := (true, "ce72df66a222b0c77b43c8db9c3e2fc1de0fd960460c9592a21f8ba26a0bb68b"), looks := false }, kinds := [], alts := [], laidByText := true, laidKinds := [.data, .data, .data, .data, .data], laidTests := true, laidLooks := .later }
def TimerKeepsUptoCardSaid : Prop := Claim7.holds Tryd.pinned (.plain (OpenSpec.upto timerKeepsSpec)) timerKeepsUptoCard

/-- THE SECOND FORM's CARD OF 'tandemlaw6.TimerAdvances'. -/
def timerAdvancesUptoCard : Claim7 := { stood := { row := timerAdvancesUptoRow, standIns := [], harness := (true, "ce72df66a222b0c77b43c8db9c3e2fc1de0fd960460c9592a21f8ba26a0bb68b"), looks := false }, kinds := [], alts := [], laidByText := true, laidKinds := [.data, .data, .data, .data, .data], laidTests := true, laidLooks := .later }
def TimerAdvancesUptoCardSaid : Prop := Claim7.holds Tryd.pinned (.plain (OpenSpec.upto timerAdvancesSpec)) timerAdvancesUptoCard
end Rows
end Go.Proofs.YtjacadiaafcckabDoor
