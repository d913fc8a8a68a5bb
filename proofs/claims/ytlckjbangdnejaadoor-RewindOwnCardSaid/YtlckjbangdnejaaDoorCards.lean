/-
  DERIVED. GIVEN WITH THE SEED: THE CARDS: each row of YtlckjbangdnejaaDoorRows.lean that lists a variable, with what it lists TIED to the program's text (the seventh form; the later family's looks); each row that meets fmt, with fmt's text TOLD by the authors' own Lean function (tested against real Go, not proved from fmt's source: count such statements apart). THE CARD IS WHAT COUNTS. Prove the row's statement (the work); the ties are given (YtlckjbangdnejaaDoorTie.lean); close each card by the builder's one call (the guide's Derived/Test/ToyasCard.lean, 'card_holds'). Laid BY PROGRAM, IN A SANDBOX (cutbox-door.mjs). By AI agents, Wed Nov 11 2026. No macro, syntax, notation, axiom, sorry.
-/
import Derived.Test.YtlckjbangdnejaaDoorRows
import GoSem.ClaimSeven
namespace Go.Proofs.YtlckjbangdnejaaDoor
namespace Rows

/-- THE TIED CARD OF 'tandemlaw17.RewindRoom'. -/
def rewindRoomCard : Claim7 := { stood := { row := rewindRoomRow, standIns := [], harness := (true, "1b92d739961a822e2465ed0f7b8c5316028ecb6660fabb50b1e5e0120d33099b"), looks := false }, kinds := [], alts := [], laidByText := true, laidKinds := [.data], laidTests := true, laidLooks := .later }
def RewindRoomCardSaid : Prop := Claim7.holds Tryd.pinned (.plain (OpenSpec.ofChange rewindRoomSpec)) rewindRoomCard

/-- THE TIED CARD OF 'tandemlaw17.RewindLast'. -/
def rewindLastCard : Claim7 := { stood := { row := rewindLastRow, standIns := [], harness := (true, "1b92d739961a822e2465ed0f7b8c5316028ecb6660fabb50b1e5e0120d33099b"), looks := false }, kinds := [], alts := [], laidByText := true, laidKinds := [.data], laidTests := true, laidLooks := .later }
def RewindLastCardSaid : Prop := Claim7.holds Tryd.pinned (.plain (OpenSpec.ofChange rewindLastSpec)) rewindLastCard

/-- THE TIED CARD OF 'tandemlaw17.RewindApart'. -/
def rewindApartCard : Claim7 := { stood := { row := rewindApartRow, standIns := [], harness := (true, "1b92d739961a822e2465ed0f7b8c5316028ecb6660fabb50b1e5e0120d33099b"), looks := false }, kinds := [], alts := [], laidByText := true, laidKinds := [.data], laidTests := true, laidLooks := .later }
def RewindApartCardSaid : Prop := Claim7.holds Tryd.pinned (.plain (OpenSpec.ofChange rewindApartSpec)) rewindApartCard

/-- THE TIED CARD OF 'tandemlaw17.RewindOwn'. -/
def rewindOwnCard : Claim7 := { stood := { row := rewindOwnRow, standIns := [], harness := (true, "1b92d739961a822e2465ed0f7b8c5316028ecb6660fabb50b1e5e0120d33099b"), looks := false }, kinds := [], alts := [], laidByText := true, laidKinds := [.data], laidTests := true, laidLooks := .later }
def RewindOwnCardSaid : Prop := Claim7.holds Tryd.pinned (.plain (OpenSpec.ofChange rewindOwnSpec)) rewindOwnCard

/-- THE TIED CARD OF 'tandemlaw17.RewindTapes'. -/
def rewindTapesCard : Claim7 := { stood := { row := rewindTapesRow, standIns := [], harness := (true, "1b92d739961a822e2465ed0f7b8c5316028ecb6660fabb50b1e5e0120d33099b"), looks := false }, kinds := [], alts := [], laidByText := true, laidKinds := [.data], laidTests := true, laidLooks := .later }
def RewindTapesCardSaid : Prop := Claim7.holds Tryd.pinned (.plain (OpenSpec.ofChange rewindTapesSpec)) rewindTapesCard

/-- THE SECOND FORM's CARD OF 'tandemlaw17.RewindRoom'. -/
def rewindRoomUptoCard : Claim7 := { stood := { row := rewindRoomUptoRow, standIns := [], harness := (true, "1b92d739961a822e2465ed0f7b8c5316028ecb6660fabb50b1e5e0120d33099b"), looks := false }, kinds := [], alts := [], laidByText := true, laidKinds := [.data], laidTests := true, laidLooks := .later }
def RewindRoomUptoCardSaid : Prop := Claim7.holds Tryd.pinned (.plain (OpenSpec.upto rewindRoomSpec)) rewindRoomUptoCard

/-- THE SECOND FORM's CARD OF 'tandemlaw17.RewindLast'. -/
def rewindLastUptoCard : Claim7 := { stood := { row := rewindLastUptoRow, standIns := [], harness := (true, "1b92d739961a822e2465ed0f7b8c5316028ecb6660fabb50b1e5e0120d33099b"), looks := false }, kinds := [], alts := [], laidByText := true, laidKinds := [.data], laidTests := true, laidLooks := .later }
def RewindLastUptoCardSaid : Prop := Claim7.holds Tryd.pinned (.plain (OpenSpec.upto rewindLastSpec)) rewindLastUptoCard

/-- THE SECOND FORM's CARD OF 'tandemlaw17.RewindApart'. -/
def rewindApartUptoCard : Claim7 := { stood := { row := rewindApartUptoRow, standIns := [], harness := (true, "1b92d739961a822e2465ed0f7b8c5316028ecb6660fabb50b1e5e0120d33099b"), looks := false }, kinds := [], alts := [], laidByText := true, laidKinds := [.data], laidTests := true, laidLooks := .later }
def RewindApartUptoCardSaid : Prop := Claim7.holds Tryd.pinned (.plain (OpenSpec.upto rewindApartSpec)) rewindApartUptoCard

/-- THE SECOND FORM's CARD OF 'tandemlaw17.RewindOwn'. -/
def rewindOwnUptoCard : Claim7 := { stood := { row := rewindOwnUptoRow, standIns := [], harness := (true, "1b92d739961a822e2465ed0f7b8c5316028ecb6660fabb50b1e5e0120d33099b"), looks := false }, kinds := [], alts := [], laidByText := true, laidKinds := [.data], laidTests := true, laidLooks := .later }
def RewindOwnUptoCardSaid : Prop := Claim7.holds Tryd.pinned (.plain (OpenSpec.upto rewindOwnSpec)) rewindOwnUptoCard

/-- THE SECOND FORM's CARD OF 'tandemlaw17.RewindTapes'. -/
def rewindTapesUptoCard : Claim7 := { stood := { row := rewindTapesUptoRow, standIns := [], harness := (true, "1b92d739961a822e2465ed0f7b8c5316028ecb6660fabb50b1e5e0120d33099b"), looks := false }, kinds := [], alts := [], laidByText := true, laidKinds := [.data], laidTests := true, laidLooks := .later }
def RewindTapesUptoCardSaid : Prop := Claim7.holds Tryd.pinned (.plain (OpenSpec.upto rewindTapesSpec)) rewindTapesUptoCard
end Rows
end Go.Proofs.YtlckjbangdnejaaDoor
