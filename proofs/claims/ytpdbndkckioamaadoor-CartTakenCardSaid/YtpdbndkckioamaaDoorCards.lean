/-
  DERIVED. GIVEN WITH THE SEED: THE CARDS: each row of YtpdbndkckioamaaDoorRows.lean that lists a variable, with what it lists TIED to the program's text (the seventh form; the later family's looks); each row that meets fmt, with fmt's text TOLD by the authors' own Lean function (tested against real Go, not proved from fmt's source: count such statements apart). THE CARD IS WHAT COUNTS. Prove the row's statement (the work); the ties are given (YtpdbndkckioamaaDoorTie.lean); close each card by the builder's one call (the guide's Derived/Test/ToyasCard.lean, 'card_holds'). Laid BY PROGRAM, IN A SANDBOX (cutbox-door.mjs). By AI agents, Wed Nov 11 2026. No macro, syntax, notation, axiom, sorry.
-/
import Derived.Test.YtpdbndkckioamaaDoorRows
import GoSem.ClaimSeven
namespace Go.Proofs.YtpdbndkckioamaaDoor
namespace Rows

/-- THE TIED CARD OF 'tandemlaw1.CartParses'. -/
def cartParsesCard : Claim7 := { stood := { row := cartParsesRow, standIns := [], harness := (true, "eea5fa9f12f9cd6e279311980e6d1b24af0475fef9466d432a8a1b0a7ef80ec2"), looks := true }, kinds := [], alts := [], laidByText := true, laidKinds := [.data], laidTests := true, laidLooks := .later }
def CartParsesCardSaid : Prop := Claim7.holds Tryd.pinned (.plain (OpenSpec.ofChange cartParsesSpec)) cartParsesCard

/-- THE TIED CARD OF 'tandemlaw1.CartTaken'. -/
def cartTakenCard : Claim7 := { stood := { row := cartTakenRow, standIns := [], harness := (true, "eea5fa9f12f9cd6e279311980e6d1b24af0475fef9466d432a8a1b0a7ef80ec2"), looks := true }, kinds := [], alts := [], laidByText := true, laidKinds := [.data, .data, .data], laidTests := true, laidLooks := .later }
def CartTakenCardSaid : Prop := Claim7.holds Tryd.pinned (.plain (OpenSpec.ofChange cartTakenSpec)) cartTakenCard

/-- THE TIED CARD OF 'tandemlaw1.CartConverts'. -/
def cartConvertsCard : Claim7 := { stood := { row := cartConvertsRow, standIns := [], harness := (true, "eea5fa9f12f9cd6e279311980e6d1b24af0475fef9466d432a8a1b0a7ef80ec2"), looks := true }, kinds := [], alts := [], laidByText := true, laidKinds := [.data, .data, .data], laidTests := true, laidLooks := .later }
def CartConvertsCardSaid : Prop := Claim7.holds Tryd.pinned (.plain (OpenSpec.ofChange cartConvertsSpec)) cartConvertsCard

/-- THE TIED CARD OF 'tandemlaw1.CartOwn'. -/
def cartOwnCard : Claim7 := { stood := { row := cartOwnRow, standIns := [], harness := (true, "eea5fa9f12f9cd6e279311980e6d1b24af0475fef9466d432a8a1b0a7ef80ec2"), looks := true }, kinds := [], alts := [], laidByText := true, laidKinds := [.data, .data, .data], laidTests := true, laidLooks := .later }
def CartOwnCardSaid : Prop := Claim7.holds Tryd.pinned (.plain (OpenSpec.ofChange cartOwnSpec)) cartOwnCard

/-- THE SECOND FORM's CARD OF 'tandemlaw1.CartParses'. -/
def cartParsesUptoCard : Claim7 := { stood := { row := cartParsesUptoRow, standIns := [], harness := (true, "eea5fa9f12f9cd6e279311980e6d1b24af0475fef9466d432a8a1b0a7ef80ec2"), looks := true }, kinds := [], alts := [], laidByText := true, laidKinds := [.data], laidTests := true, laidLooks := .later }
def CartParsesUptoCardSaid : Prop := Claim7.holds Tryd.pinned (.plain (OpenSpec.upto cartParsesSpec)) cartParsesUptoCard

/-- THE SECOND FORM's CARD OF 'tandemlaw1.CartTaken'. -/
def cartTakenUptoCard : Claim7 := { stood := { row := cartTakenUptoRow, standIns := [], harness := (true, "eea5fa9f12f9cd6e279311980e6d1b24af0475fef9466d432a8a1b0a7ef80ec2"), looks := true }, kinds := [], alts := [], laidByText := true, laidKinds := [.data, .data, .data], laidTests := true, laidLooks := .later }
def CartTakenUptoCardSaid : Prop := Claim7.holds Tryd.pinned (.plain (OpenSpec.upto cartTakenSpec)) cartTakenUptoCard

/-- THE SECOND FORM's CARD OF 'tandemlaw1.CartConverts'. -/
def cartConvertsUptoCard : Claim7 := { stood := { row := cartConvertsUptoRow, standIns := [], harness := (true, "eea5fa9f12f9cd6e279311980e6d1b24af0475fef9466d432a8a1b0a7ef80ec2"), looks := true }, kinds := [], alts := [], laidByText := true, laidKinds := [.data, .data, .data], laidTests := true, laidLooks := .later }
def CartConvertsUptoCardSaid : Prop := Claim7.holds Tryd.pinned (.plain (OpenSpec.upto cartConvertsSpec)) cartConvertsUptoCard

/-- THE SECOND FORM's CARD OF 'tandemlaw1.CartOwn'. -/
def cartOwnUptoCard : Claim7 := { stood := { row := cartOwnUptoRow, standIns := [], harness := (true, "eea5fa9f12f9cd6e279311980e6d1b24af0475fef9466d432a8a1b0a7ef80ec2"), looks := true }, kinds := [], alts := [], laidByText := true, laidKinds := [.data, .data, .data], laidTests := true, laidLooks := .later }
def CartOwnUptoCardSaid : Prop := Claim7.holds Tryd.pinned (.plain (OpenSpec.upto cartOwnSpec)) cartOwnUptoCard
end Rows
end Go.Proofs.YtpdbndkckioamaaDoor
