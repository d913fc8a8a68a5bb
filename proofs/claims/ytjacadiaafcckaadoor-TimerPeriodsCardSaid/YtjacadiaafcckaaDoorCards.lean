/-
  DERIVED. GIVEN WITH THE SEED: THE CARDS: each row of YtjacadiaafcckaaDoorRows.lean that lists a variable, with what it lists TIED to the program's text (the seventh form; the later family's looks); each row that meets fmt, with fmt's text TOLD by the authors' own Lean function (tested against real Go, not proved from fmt's source: count such statements apart). THE CARD IS WHAT COUNTS. Prove the row's statement (the work); the ties are given (YtjacadiaafcckaaDoorTie.lean); close each card by the builder's one call (the guide's Derived/Test/ToyasCard.lean, 'card_holds'). Laid BY PROGRAM, IN A SANDBOX (cutbox-door.mjs). By AI agents, Wed Nov 11 2026. No macro, syntax, notation, axiom, sorry.
-/
import Derived.Test.YtjacadiaafcckaaDoorRows
import GoSem.ClaimSeven
namespace Go.Proofs.YtjacadiaafcckaaDoor
namespace Rows

/-- THE TIED CARD OF 'tandemlaw6.TimerReads'. -/
def timerReadsCard : Claim7 := { stood := { row := timerReadsRow, standIns := [], harness := (true, "7c6af9ced34074871062aa32a20341424ba0d6bc2d12054669fd76b7fb924fda"), looks := false }, kinds := [], alts := [], laidByText := true, laidKinds := [.data], laidTests := true, laidLooks := .later }
def TimerReadsCardSaid : Prop := Claim7.holds Tryd.pinned (.plain (OpenSpec.ofChange timerReadsSpec)) timerReadsCard

/-- THE TIED CARD OF 'tandemlaw6.TimerWrites'. -/
def timerWritesCard : Claim7 := { stood := { row := timerWritesRow, standIns := [], harness := (true, "7c6af9ced34074871062aa32a20341424ba0d6bc2d12054669fd76b7fb924fda"), looks := false }, kinds := [], alts := [], laidByText := true, laidKinds := [.data], laidTests := true, laidLooks := .later }
def TimerWritesCardSaid : Prop := Claim7.holds Tryd.pinned (.plain (OpenSpec.ofChange timerWritesSpec)) timerWritesCard

/-- THE TIED CARD OF 'tandemlaw6.TimerSums'. -/
def timerSumsCard : Claim7 := { stood := { row := timerSumsRow, standIns := [], harness := (true, "7c6af9ced34074871062aa32a20341424ba0d6bc2d12054669fd76b7fb924fda"), looks := false }, kinds := [], alts := [], laidByText := true, laidKinds := [.data, .data, .data, .data, .data], laidTests := true, laidLooks := .later }
def TimerSumsCardSaid : Prop := Claim7.holds Tryd.pinned (.plain (OpenSpec.ofChange timerSumsSpec)) timerSumsCard

/-- THE TIED CARD OF 'tandemlaw6.TimerApart'. -/
def timerApartCard : Claim7 := { stood := { row := timerApartRow, standIns := [], harness := (true, "7c6af9ced34074871062aa32a20341424ba0d6bc2d12054669fd76b7fb924fda"), looks := false }, kinds := [], alts := [], laidByText := true, laidKinds := [.data, .data, .data, .data, .data], laidTests := true, laidLooks := .later }
def TimerApartCardSaid : Prop := Claim7.holds Tryd.pinned (.plain (OpenSpec.ofChange timerApartSpec)) timerApartCard

/-- THE TIED CARD OF 'tandemlaw6.TimerLatches'. -/
def timerLatchesCard : Claim7 := { stood := { row := timerLatchesRow, standIns := [], harness := (true, "7c6af9ced34074871062aa32a20341424ba0d6bc2d12054669fd76b7fb924fda"), looks := false }, kinds := [], alts := [], laidByText := true, laidKinds := [.data, .data, .data, .data, .data], laidTests := true, laidLooks := .later }
def TimerLatchesCardSaid : Prop := Claim7.holds Tryd.pinned (.plain (OpenSpec.ofChange timerLatchesSpec)) timerLatchesCard

/-- THE TIED CARD OF 'tandemlaw6.TimerPeriods'. -/
def timerPeriodsCard : Claim7 := { stood := { row := timerPeriodsRow, standIns := [], harness := (true, "7c6af9ced34074871062aa32a20341424ba0d6bc2d12054669fd76b7fb924fda"), looks := false }, kinds := [], alts := [], laidByText := true, laidKinds := [.data, .data, .data, .data, .data], laidTests := true, laidLooks := .later }
def TimerPeriodsCardSaid : Prop := Claim7.holds Tryd.pinned (.plain (OpenSpec.ofChange timerPeriodsSpec)) timerPeriodsCard

/-- THE SECOND FORM's CARD OF 'tandemlaw6.TimerReads'. -/
def timerReadsUptoCard : Claim7 := { stood := { row := timerReadsUptoRow, standIns := [], harness := (true, "7c6af9ced34074871062aa32a20341424ba0d6bc2d12054669fd76b7fb924fda"), looks := false }, kinds := [], alts := [], laidByText := true, laidKinds := [.data], laidTests := true, laidLooks := .later }
def TimerReadsUptoCardSaid : Prop := Claim7.holds Tryd.pinned (.plain (OpenSpec.upto timerReadsSpec)) timerReadsUptoCard

/-- THE SECOND FORM's CARD OF 'tandemlaw6.TimerWrites'. -/
def timerWritesUptoCard : Claim7 := { stood := { row := timerWritesUptoRow, standIns := [], harness := (true, "7c6af9ced34074871062aa32a20341424ba0d6bc2d12054669fd76b7fb924fda"), looks := false }, kinds := [], alts := [], laidByText := true, laidKinds := [.data], laidTests := true, laidLooks := .later }
def TimerWritesUptoCardSaid : Prop := Claim7.holds Tryd.pinned (.plain (OpenSpec.upto timerWritesSpec)) timerWritesUptoCard

/-- THE SECOND FORM's CARD OF 'tandemlaw6.TimerSums'. -/
def timerSumsUptoCard : Claim7 := { stood := { row := timerSumsUptoRow, standIns := [], harness := (true, "7c6af9ced34074871062aa32a20341424ba0d6bc2d12054669fd76b7fb924fda"), looks := false }, kinds := [], alts := [], laidByText := true, laidKinds := [.data, .data, .data, .data, .data], laidTests := true, laidLooks := .later }
def TimerSumsUptoCardSaid : Prop := Claim7.holds Tryd.pinned (.plain (OpenSpec.upto timerSumsSpec)) timerSumsUptoCard

/-- THE SECOND FORM's CARD OF 'tandemlaw6.TimerApart'. -/
def timerApartUptoCard : Claim7 := { stood := { row := timerApartUptoRow, standIns := [], harness := (true, "7c6af9ced34074871062aa32a20341424ba0d6bc2d12054669fd76b7fb924fda"), looks := false }, kinds := [], alts := [], laidByText := true, laidKinds := [.data, .data, .data, .data, .data], laidTests := true, laidLooks := .later }
def TimerApartUptoCardSaid : Prop := Claim7.holds Tryd.pinned (.plain (OpenSpec.upto timerApartSpec)) timerApartUptoCard

/-- THE SECOND FORM's CARD OF 'tandemlaw6.TimerLatches'. -/
def timerLatchesUptoCard : Claim7 := { stood := { row := timerLatchesUptoRow, standIns := [], harness := (true, "7c6af9ced34074871062aa32a20341424ba0d6bc2d12054669fd76b7fb924fda"), looks := false }, kinds := [], alts := [], laidByText := true, laidKinds := [.data, .data, .data, .data, .data], laidTests := true, laidLooks := .later }
def TimerLatchesUptoCardSaid : Prop := Claim7.holds Tryd.pinned (.plain (OpenSpec.upto timerLatchesSpec)) timerLatchesUptoCard

/-- THE SECOND FORM's CARD OF 'tandemlaw6.TimerPeriods'. -/
def timerPeriodsUptoCard : Claim7 := { stood := { row := timerPeriodsUptoRow, standIns := [], harness := (true, "7c6af9ced34074871062aa32a20341424ba0d6bc2d12054669fd76b7fb924fda"), looks := false }, kinds := [], alts := [], laidByText := true, laidKinds := [.data, .data, .data, .data, .data], laidTests := true, laidLooks := .later }
def TimerPeriodsUptoCardSaid : Prop := Claim7.holds Tryd.pinned (.plain (OpenSpec.upto timerPeriodsSpec)) timerPeriodsUptoCard
end Rows
end Go.Proofs.YtjacadiaafcckaaDoor
