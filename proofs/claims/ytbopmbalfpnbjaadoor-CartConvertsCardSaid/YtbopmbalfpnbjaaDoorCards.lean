/-
  DERIVED. GIVEN WITH THE SEED: THE CARDS: each row of YtbopmbalfpnbjaaDoorRows.lean that lists a variable, with what it lists TIED to the program's text (the seventh form; the later family's looks); each row that meets fmt, with fmt's text TOLD by the authors' own Lean function (tested against real Go, not proved from fmt's source: count such statements apart). THE CARD IS WHAT COUNTS. Prove the row's statement (the work); the ties are given (YtbopmbalfpnbjaaDoorTie.lean); close each card by the builder's one call (the guide's Derived/Test/ToyasCard.lean, 'card_holds'). Laid BY PROGRAM, IN A SANDBOX (cutbox-door.mjs). By AI agents, Wed Nov 11 2026. No macro, syntax, notation, axiom, sorry.
-/
import Derived.Test.YtbopmbalfpnbjaaDoorRows
import GoSem.ClaimSeven
namespace Go.Proofs.YtbopmbalfpnbjaaDoor
namespace Rows

/-- THE TIED CARD OF 'tandemlaw1.CartConverts'. -/
def cartConvertsCard : Claim7 := { stood := { row := cartConvertsRow, standIns := [], harness := (true, "10ae988d3fa809745574b6b14381f3c3ddebdd8e87d230bdd93d90ec08f6ca32"), looks := false }, kinds := [], alts := [], laidByText := true, laidKinds := [.data, .data, .data], laidTests := true, laidLooks := .later }
def CartConvertsCardSaid : Prop := Claim7.holds Tryd.pinned (.plain (OpenSpec.ofChange cartConvertsSpec)) cartConvertsCard

/-- THE SECOND FORM's CARD OF 'tandemlaw1.CartConverts'. -/
def cartConvertsUptoCard : Claim7 := { stood := { row := cartConvertsUptoRow, standIns := [], harness := (true, "10ae988d3fa809745574b6b14381f3c3ddebdd8e87d230bdd93d90ec08f6ca32"), looks := false }, kinds := [], alts := [], laidByText := true, laidKinds := [.data, .data, .data], laidTests := true, laidLooks := .later }
def CartConvertsUptoCardSaid : Prop := Claim7.holds Tryd.pinned (.plain (OpenSpec.upto cartConvertsSpec)) cartConvertsUptoCard
end Rows
end Go.Proofs.YtbopmbalfpnbjaaDoor
