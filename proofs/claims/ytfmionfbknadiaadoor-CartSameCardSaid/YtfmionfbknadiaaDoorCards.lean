/-
  DERIVED. GIVEN WITH THE SEED: THE CARDS: each row of YtfmionfbknadiaaDoorRows.lean that lists a variable, with what it lists TIED to the program's text (the seventh form; the later family's looks); each row that meets fmt, with fmt's text TOLD by the authors' own Lean function (tested against real Go, not proved from fmt's source: count such statements apart). THE CARD IS WHAT COUNTS. Prove the row's statement (the work); the ties are given (YtfmionfbknadiaaDoorTie.lean); close each card by the builder's one call (the guide's Derived/Test/ToyasCard.lean, 'card_holds'). Laid BY PROGRAM, IN A SANDBOX (cutbox-door.mjs). By AI agents, Wed Nov 11 2026. No macro, syntax, notation, axiom, sorry.
-/
import Derived.Test.YtfmionfbknadiaaDoorRows
import GoSem.ClaimSeven
namespace Go.Proofs.YtfmionfbknadiaaDoor
namespace Rows

/-- THE TIED CARD OF 'tandemlaw1.CartCrc'. -/
def cartCrcCard : Claim7 := { stood := { row := cartCrcRow, standIns := [], harness := (true, "2edef827bf59d327e0a9d4f20fb2017e693eab61b54ca2c91edb1317a8b41b44"), looks := false }, kinds := [], alts := [], laidByText := true, laidKinds := [.data], laidTests := true, laidLooks := .later }
def CartCrcCardSaid : Prop := Claim7.holds Tryd.pinned (.plain (OpenSpec.ofChange cartCrcSpec)) cartCrcCard

/-- THE TIED CARD OF 'tandemlaw1.CartSame'. -/
def cartSameCard : Claim7 := { stood := { row := cartSameRow, standIns := [], harness := (true, "2edef827bf59d327e0a9d4f20fb2017e693eab61b54ca2c91edb1317a8b41b44"), looks := false }, kinds := [], alts := [], laidByText := true, laidKinds := [.data], laidTests := true, laidLooks := .later }
def CartSameCardSaid : Prop := Claim7.holds Tryd.pinned (.plain (OpenSpec.ofChange cartSameSpec)) cartSameCard

/-- THE TIED CARD OF 'tandemlaw1.CartSums'. -/
def cartSumsCard : Claim7 := { stood := { row := cartSumsRow, standIns := [], harness := (true, "2edef827bf59d327e0a9d4f20fb2017e693eab61b54ca2c91edb1317a8b41b44"), looks := false }, kinds := [], alts := [], laidByText := true, laidKinds := [.data], laidTests := true, laidLooks := .later }
def CartSumsCardSaid : Prop := Claim7.holds Tryd.pinned (.plain (OpenSpec.ofChange cartSumsSpec)) cartSumsCard

/-- THE SECOND FORM's CARD OF 'tandemlaw1.CartCrc'. -/
def cartCrcUptoCard : Claim7 := { stood := { row := cartCrcUptoRow, standIns := [], harness := (true, "2edef827bf59d327e0a9d4f20fb2017e693eab61b54ca2c91edb1317a8b41b44"), looks := false }, kinds := [], alts := [], laidByText := true, laidKinds := [.data], laidTests := true, laidLooks := .later }
def CartCrcUptoCardSaid : Prop := Claim7.holds Tryd.pinned (.plain (OpenSpec.upto cartCrcSpec)) cartCrcUptoCard

/-- THE SECOND FORM's CARD OF 'tandemlaw1.CartSame'. -/
def cartSameUptoCard : Claim7 := { stood := { row := cartSameUptoRow, standIns := [], harness := (true, "2edef827bf59d327e0a9d4f20fb2017e693eab61b54ca2c91edb1317a8b41b44"), looks := false }, kinds := [], alts := [], laidByText := true, laidKinds := [.data], laidTests := true, laidLooks := .later }
def CartSameUptoCardSaid : Prop := Claim7.holds Tryd.pinned (.plain (OpenSpec.upto cartSameSpec)) cartSameUptoCard

/-- THE SECOND FORM's CARD OF 'tandemlaw1.CartSums'. -/
def cartSumsUptoCard : Claim7 := { stood := { row := cartSumsUptoRow, standIns := [], harness := (true, "2edef827bf59d327e0a9d4f20fb2017e693eab61b54ca2c91edb1317a8b41b44"), looks := false }, kinds := [], alts := [], laidByText := true, laidKinds := [.data], laidTests := true, laidLooks := .later }
def CartSumsUptoCardSaid : Prop := Claim7.holds Tryd.pinned (.plain (OpenSpec.upto cartSumsSpec)) cartSumsUptoCard
end Rows
end Go.Proofs.YtfmionfbknadiaaDoor
