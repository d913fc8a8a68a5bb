/-
  DERIVED. GIVEN WITH THE SEED: THE CARDS: each row of YthdmkmbgncbmgaaDoorRows.lean that lists a variable, with what it lists TIED to the program's text (the seventh form; the later family's looks); each row that meets fmt, with fmt's text TOLD by the authors' own Lean function (tested against real Go, not proved from fmt's source: count such statements apart). THE CARD IS WHAT COUNTS. Prove the row's statement (the work); the ties are given (YthdmkmbgncbmgaaDoorTie.lean); close each card by the builder's one call (the guide's Derived/Test/ToyasCard.lean, 'card_holds'). Laid BY PROGRAM, IN A SANDBOX (cutbox-door.mjs). By AI agents, Wed Nov 11 2026. No macro, syntax, notation, axiom, sorry.
-/
import Derived.Test.YthdmkmbgncbmgaaDoorRows
import GoSem.ClaimSeven
namespace Go.Proofs.YthdmkmbgncbmgaaDoor
namespace Rows

/-- THE TIED CARD OF 'tandemlaw3.AluDabbles'. -/
def aluDabblesCard : Claim7 := { stood := { row := aluDabblesRow, standIns := [], harness := (true, "2ea11d316cfbdd64e30cdde6606ff2fef09cf0846795342936f5a0c1a3105804"), looks := false }, kinds := [], alts := [], laidByText := true, laidKinds := [.data], laidTests := true, laidLooks := .later }
def AluDabblesCardSaid : Prop := Claim7.holds Tryd.pinned (.plain (OpenSpec.ofChange aluDabblesSpec)) aluDabblesCard

/-- THE TIED CARD OF 'tandemlaw3.AluPairs'. -/
def aluPairsCard : Claim7 := { stood := { row := aluPairsRow, standIns := [], harness := (true, "2ea11d316cfbdd64e30cdde6606ff2fef09cf0846795342936f5a0c1a3105804"), looks := false }, kinds := [], alts := [], laidByText := true, laidKinds := [.data], laidTests := true, laidLooks := .later }
def AluPairsCardSaid : Prop := Claim7.holds Tryd.pinned (.plain (OpenSpec.ofChange aluPairsSpec)) aluPairsCard

/-- THE TIED CARD OF 'tandemlaw3.AluDoes'. -/
def aluDoesCard : Claim7 := { stood := { row := aluDoesRow, standIns := [], harness := (true, "2ea11d316cfbdd64e30cdde6606ff2fef09cf0846795342936f5a0c1a3105804"), looks := false }, kinds := [], alts := [], laidByText := true, laidKinds := [.data], laidTests := true, laidLooks := .later }
def AluDoesCardSaid : Prop := Claim7.holds Tryd.pinned (.plain (OpenSpec.ofChange aluDoesSpec)) aluDoesCard

/-- THE TIED CARD OF 'tandemlaw3.AluMultiplies'. -/
def aluMultipliesCard : Claim7 := { stood := { row := aluMultipliesRow, standIns := [], harness := (true, "2ea11d316cfbdd64e30cdde6606ff2fef09cf0846795342936f5a0c1a3105804"), looks := false }, kinds := [], alts := [], laidByText := true, laidKinds := [.data, .data], laidTests := true, laidLooks := .later }
def AluMultipliesCardSaid : Prop := Claim7.holds Tryd.pinned (.plain (OpenSpec.ofChange aluMultipliesSpec)) aluMultipliesCard

/-- THE TIED CARD OF 'tandemlaw3.AluDivides'. -/
def aluDividesCard : Claim7 := { stood := { row := aluDividesRow, standIns := [], harness := (true, "2ea11d316cfbdd64e30cdde6606ff2fef09cf0846795342936f5a0c1a3105804"), looks := false }, kinds := [], alts := [], laidByText := true, laidKinds := [.data, .data], laidTests := true, laidLooks := .later }
def AluDividesCardSaid : Prop := Claim7.holds Tryd.pinned (.plain (OpenSpec.ofChange aluDividesSpec)) aluDividesCard

/-- THE TIED CARD OF 'tandemlaw3.AluFreed'. -/
def aluFreedCard : Claim7 := { stood := { row := aluFreedRow, standIns := [], harness := (true, "2ea11d316cfbdd64e30cdde6606ff2fef09cf0846795342936f5a0c1a3105804"), looks := false }, kinds := [], alts := [], laidByText := true, laidKinds := [.data, .data], laidTests := true, laidLooks := .later }
def AluFreedCardSaid : Prop := Claim7.holds Tryd.pinned (.plain (OpenSpec.ofChange aluFreedSpec)) aluFreedCard

/-- THE SECOND FORM's CARD OF 'tandemlaw3.AluDabbles'. -/
def aluDabblesUptoCard : Claim7 := { stood := { row := aluDabblesUptoRow, standIns := [], harness := (true, "2ea11d316cfbdd64e30cdde6606ff2fef09cf0846795342936f5a0c1a3105804"), looks := false }, kinds := [], alts := [], laidByText := true, laidKinds := [.data], laidTests := true, laidLooks := .later }
def AluDabblesUptoCardSaid : Prop := Claim7.holds Tryd.pinned (.plain (OpenSpec.upto aluDabblesSpec)) aluDabblesUptoCard

/-- THE SECOND FORM's CARD OF 'tandemlaw3.AluPairs'. -/
def aluPairsUptoCard : Claim7 := { stood := { row := aluPairsUptoRow, standIns := [], harness := (true, "2ea11d316cfbdd64e30cdde6606ff2fef09cf0846795342936f5a0c1a3105804"), looks := false }, kinds := [], alts := [], laidByText := true, laidKinds := [.data], laidTests := true, laidLooks := .later }
def AluPairsUptoCardSaid : Prop := Claim7.holds Tryd.pinned (.plain (OpenSpec.upto aluPairsSpec)) aluPairsUptoCard

/-- THE SECOND FORM's CARD OF 'tandemlaw3.AluDoes'. -/
def aluDoesUptoCard : Claim7 := { stood := { row := aluDoesUptoRow, standIns := [], harness := (true, "2ea11d316cfbdd64e30cdde6606ff2fef09cf0846795342936f5a0c1a3105804"), looks := false }, kinds := [], alts := [], laidByText := true, laidKinds := [.data], laidTests := true, laidLooks := .later }
def AluDoesUptoCardSaid : Prop := Claim7.holds Tryd.pinned (.plain (OpenSpec.upto aluDoesSpec)) aluDoesUptoCard

/-- THE SECOND FORM's CARD OF 'tandemlaw3.AluMultiplies'. -/
def aluMultipliesUptoCard : Claim7 := { stood := { row := aluMultipliesUptoRow, standIns := [], harness := (true, "2ea11d316cfbdd64e30cdde6606ff2fef09cf0846795342936f5a0c1a3105804"), looks := false }, kinds := [], alts := [], laidByText := true, laidKinds := [.data, .data], laidTests := true, laidLooks := .later }
def AluMultipliesUptoCardSaid : Prop := Claim7.holds Tryd.pinned (.plain (OpenSpec.upto aluMultipliesSpec)) aluMultipliesUptoCard

/-- THE SECOND FORM's CARD OF 'tandemlaw3.AluDivides'. -/
def aluDividesUptoCard : Claim7 := { stood := { row := aluDividesUptoRow, standIns := [], harness := (true, "2ea11d316cfbdd64e30cdde6606ff2fef09cf0846795342936f5a0c1a3105804"), looks := false }, kinds := [], alts := [], laidByText := true, laidKinds := [.data, .data], laidTests := true, laidLooks := .later }
def AluDividesUptoCardSaid : Prop := Claim7.holds Tryd.pinned (.plain (OpenSpec.upto aluDividesSpec)) aluDividesUptoCard

/-- THE SECOND FORM's CARD OF 'tandemlaw3.AluFreed'. -/
def aluFreedUptoCard : Claim7 := { stood := { row := aluFreedUptoRow, standIns := [], harness := (true, "2ea11d316cfbdd64e30cdde6606ff2fef09cf0846795342936f5a0c1a3105804"), looks := false }, kinds := [], alts := [], laidByText := true, laidKinds := [.data, .data], laidTests := true, laidLooks := .later }
def AluFreedUptoCardSaid : Prop := Claim7.holds Tryd.pinned (.plain (OpenSpec.upto aluFreedSpec)) aluFreedUptoCard
end Rows
end Go.Proofs.YthdmkmbgncbmgaaDoor
