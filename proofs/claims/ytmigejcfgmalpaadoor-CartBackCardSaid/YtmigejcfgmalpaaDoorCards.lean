/-
  DERIVED. GIVEN WITH THE SEED: THE CARDS: each row of YtmigejcfgmalpaaDoorRows.lean that lists a variable, with what it lists TIED to the program's text (the seventh form; the later family's looks); each row that meets fmt, with fmt's text TOLD by the authors' own Lean function (tested against real Go, not proved from fmt's source: count such statements apart). THE CARD IS WHAT COUNTS. Prove the row's statement (the work); the ties are given (YtmigejcfgmalpaaDoorTie.lean); close each card by the builder's one call (the guide's Derived/Test/ToyasCard.lean, 'card_holds'). Laid BY PROGRAM, IN A SANDBOX (cutbox-door.mjs). By AI agents, Wed Nov 11 2026. No macro, syntax, notation, axiom, sorry.
-/
import Derived.Test.YtmigejcfgmalpaaDoorRows
import GoSem.ClaimSeven
namespace Go.Proofs.YtmigejcfgmalpaaDoor
namespace Rows

/-- THE TIED CARD OF 'tandemlaw1.CartConverts'. -/
def cartConvertsCard : Claim7 := { stood := { row := cartConvertsRow, standIns := [], harness := (true, "2ee55584a1c95e7d6e115f1e5aec14d2911200eb403be81288a15ab49f6f06fd"), looks := true }, kinds := [], alts := [], laidByText := true, laidKinds := [.data, .data, .data], laidTests := true, laidLooks := .later }
def CartConvertsCardSaid : Prop := Claim7.holds Tryd.pinned (.plain (OpenSpec.ofChange cartConvertsSpec)) cartConvertsCard

/-- THE TIED CARD OF 'tandemlaw1.CartBack'. -/
def cartBackCard : Claim7 := { stood := { row := cartBackRow, standIns := [], harness := (true, "2ee55584a1c95e7d6e115f1e5aec14d2911200eb403be81288a15ab49f6f06fd"), looks := true }, kinds := [], alts := [], laidByText := true, laidKinds := [.data, .data, .data], laidTests := true, laidLooks := .later }
def CartBackCardSaid : Prop := Claim7.holds Tryd.pinned (.plain (OpenSpec.ofChange cartBackSpec)) cartBackCard

/-- THE TIED CARD OF 'tandemlaw1.CartRound'. -/
def cartRoundCard : Claim7 := { stood := { row := cartRoundRow, standIns := [], harness := (true, "2ee55584a1c95e7d6e115f1e5aec14d2911200eb403be81288a15ab49f6f06fd"), looks := true }, kinds := [], alts := [], laidByText := true, laidKinds := [.data, .data, .data, .data], laidTests := true, laidLooks := .later }
def CartRoundCardSaid : Prop := Claim7.holds Tryd.pinned (.plain (OpenSpec.ofChange cartRoundSpec)) cartRoundCard

/-- THE SECOND FORM's CARD OF 'tandemlaw1.CartConverts'. -/
def cartConvertsUptoCard : Claim7 := { stood := { row := cartConvertsUptoRow, standIns := [], harness := (true, "2ee55584a1c95e7d6e115f1e5aec14d2911200eb403be81288a15ab49f6f06fd"), looks := true }, kinds := [], alts := [], laidByText := true, laidKinds := [.data, .data, .data], laidTests := true, laidLooks := .later }
def CartConvertsUptoCardSaid : Prop := Claim7.holds Tryd.pinned (.plain (OpenSpec.upto cartConvertsSpec)) cartConvertsUptoCard

/-- THE SECOND FORM's CARD OF 'tandemlaw1.CartBack'. -/
def cartBackUptoCard : Claim7 := { stood := { row := cartBackUptoRow, standIns := [], harness := (true, "2ee55584a1c95e7d6e115f1e5aec14d2911200eb403be81288a15ab49f6f06fd"), looks := true }, kinds := [], alts := [], laidByText := true, laidKinds := [.data, .data, .data], laidTests := true, laidLooks := .later }
def CartBackUptoCardSaid : Prop := Claim7.holds Tryd.pinned (.plain (OpenSpec.upto cartBackSpec)) cartBackUptoCard

/-- THE SECOND FORM's CARD OF 'tandemlaw1.CartRound'. -/
def cartRoundUptoCard : Claim7 := { stood := { row := cartRoundUptoRow, standIns := [], harness := (true, "2ee55584a1c95e7d6e115f1e5aec14d2911200eb403be81288a15ab49f6f06fd"), looks := true }, kinds := [], alts := [], laidByText := true, laidKinds := [.data, .data, .data, .data], laidTests := true, laidLooks := .later }
def CartRoundUptoCardSaid : Prop := Claim7.holds Tryd.pinned (.plain (OpenSpec.upto cartRoundSpec)) cartRoundUptoCard
end Rows
end Go.Proofs.YtmigejcfgmalpaaDoor
