/-
  DERIVED. GIVEN WITH THE SEED: THE CARDS: each row of YtbgikffoidaamaaDoorRows.lean that lists a variable, with what it lists TIED to the program's text (the seventh form; the later family's looks); each row that meets fmt, with fmt's text TOLD by the authors' own Lean function (tested against real Go, not proved from fmt's source: count such statements apart). THE CARD IS WHAT COUNTS. Prove the row's statement (the work); the ties are given (YtbgikffoidaamaaDoorTie.lean); close each card by the builder's one call (the guide's Derived/Test/ToyasCard.lean, 'card_holds'). Laid BY PROGRAM, IN A SANDBOX (cutbox-door.mjs). By AI agents, Wed Nov 11 2026. No macro, syntax, notation, axiom, sorry.
-/
import Derived.Test.YtbgikffoidaamaaDoorRows
import GoSem.ClaimSeven
namespace Go.Proofs.YtbgikffoidaamaaDoor
namespace Rows

/-- THE TIED CARD OF 'tandemlaw17.RewindSmall'. -/
def rewindSmallCard : Claim7 := { stood := { row := rewindSmallRow, standIns := [], harness := (true, "46b7e4e87e34c62887740f5a2c666d825093b895bf3a2f70c17d2f6cf1a46a05"), looks := false }, kinds := [], alts := [], laidByText := true, laidKinds := [.data], laidTests := true, laidLooks := .later }
def RewindSmallCardSaid : Prop := Claim7.holds Tryd.pinned (.plain (OpenSpec.ofChange rewindSmallSpec)) rewindSmallCard

/-- THE TIED CARD OF 'tandemlaw17.RewindCut'. -/
def rewindCutCard : Claim7 := { stood := { row := rewindCutRow, standIns := [], harness := (true, "46b7e4e87e34c62887740f5a2c666d825093b895bf3a2f70c17d2f6cf1a46a05"), looks := false }, kinds := [], alts := [], laidByText := true, laidKinds := [.data], laidTests := true, laidLooks := .later }
def RewindCutCardSaid : Prop := Claim7.holds Tryd.pinned (.plain (OpenSpec.ofChange rewindCutSpec)) rewindCutCard

/-- THE TIED CARD OF 'tandemlaw17.RewindDiffs'. -/
def rewindDiffsCard : Claim7 := { stood := { row := rewindDiffsRow, standIns := [], harness := (true, "46b7e4e87e34c62887740f5a2c666d825093b895bf3a2f70c17d2f6cf1a46a05"), looks := false }, kinds := [], alts := [], laidByText := true, laidKinds := [.data], laidTests := true, laidLooks := .later }
def RewindDiffsCardSaid : Prop := Claim7.holds Tryd.pinned (.plain (OpenSpec.ofChange rewindDiffsSpec)) rewindDiffsCard

/-- THE TIED CARD OF 'tandemlaw17.RewindThere'. -/
def rewindThereCard : Claim7 := { stood := { row := rewindThereRow, standIns := [], harness := (true, "46b7e4e87e34c62887740f5a2c666d825093b895bf3a2f70c17d2f6cf1a46a05"), looks := false }, kinds := [], alts := [], laidByText := true, laidKinds := [.data], laidTests := true, laidLooks := .later }
def RewindThereCardSaid : Prop := Claim7.holds Tryd.pinned (.plain (OpenSpec.ofChange rewindThereSpec)) rewindThereCard

/-- THE TIED CARD OF 'tandemlaw17.RewindOnly'. -/
def rewindOnlyCard : Claim7 := { stood := { row := rewindOnlyRow, standIns := [], harness := (true, "46b7e4e87e34c62887740f5a2c666d825093b895bf3a2f70c17d2f6cf1a46a05"), looks := false }, kinds := [], alts := [], laidByText := true, laidKinds := [.data], laidTests := true, laidLooks := .later }
def RewindOnlyCardSaid : Prop := Claim7.holds Tryd.pinned (.plain (OpenSpec.ofChange rewindOnlySpec)) rewindOnlyCard

/-- THE TIED CARD OF 'tandemlaw17.RewindPatches'. -/
def rewindPatchesCard : Claim7 := { stood := { row := rewindPatchesRow, standIns := [], harness := (true, "46b7e4e87e34c62887740f5a2c666d825093b895bf3a2f70c17d2f6cf1a46a05"), looks := false }, kinds := [], alts := [], laidByText := true, laidKinds := [.data], laidTests := true, laidLooks := .later }
def RewindPatchesCardSaid : Prop := Claim7.holds Tryd.pinned (.plain (OpenSpec.ofChange rewindPatchesSpec)) rewindPatchesCard

/-- THE SECOND FORM's CARD OF 'tandemlaw17.RewindSmall'. -/
def rewindSmallUptoCard : Claim7 := { stood := { row := rewindSmallUptoRow, standIns := [], harness := (true, "46b7e4e87e34c62887740f5a2c666d825093b895bf3a2f70c17d2f6cf1a46a05"), looks := false }, kinds := [], alts := [], laidByText := true, laidKinds := [.data], laidTests := true, laidLooks := .later }
def RewindSmallUptoCardSaid : Prop := Claim7.holds Tryd.pinned (.plain (OpenSpec.upto rewindSmallSpec)) rewindSmallUptoCard

/-- THE SECOND FORM's CARD OF 'tandemlaw17.RewindCut'. -/
def rewindCutUptoCard : Claim7 := { stood := { row := rewindCutUptoRow, standIns := [], harness := (true, "46b7e4e87e34c62887740f5a2c666d825093b895bf3a2f70c17d2f6cf1a46a05"), looks := false }, kinds := [], alts := [], laidByText := true, laidKinds := [.data], laidTests := true, laidLooks := .later }
def RewindCutUptoCardSaid : Prop := Claim7.holds Tryd.pinned (.plain (OpenSpec.upto rewindCutSpec)) rewindCutUptoCard

/-- THE SECOND FORM's CARD OF 'tandemlaw17.RewindDiffs'. -/
def rewindDiffsUptoCard : Claim7 := { stood := { row := rewindDiffsUptoRow, standIns := [], harness := (true, "46b7e4e87e34c62887740f5a2c666d825093b895bf3a2f70c17d2f6cf1a46a05"), looks := false }, kinds := [], alts := [], laidByText := true, laidKinds := [.data], laidTests := true, laidLooks := .later }
def RewindDiffsUptoCardSaid : Prop := Claim7.holds Tryd.pinned (.plain (OpenSpec.upto rewindDiffsSpec)) rewindDiffsUptoCard

/-- THE SECOND FORM's CARD OF 'tandemlaw17.RewindThere'. -/
def rewindThereUptoCard : Claim7 := { stood := { row := rewindThereUptoRow, standIns := [], harness := (true, "46b7e4e87e34c62887740f5a2c666d825093b895bf3a2f70c17d2f6cf1a46a05"), looks := false }, kinds := [], alts := [], laidByText := true, laidKinds := [.data], laidTests := true, laidLooks := .later }
def RewindThereUptoCardSaid : Prop := Claim7.holds Tryd.pinned (.plain (OpenSpec.upto rewindThereSpec)) rewindThereUptoCard

/-- THE SECOND FORM's CARD OF 'tandemlaw17.RewindOnly'. -/
def rewindOnlyUptoCard : Claim7 := { stood := { row := rewindOnlyUptoRow, standIns := [], harness := (true, "46b7e4e87e34c62887740f5a2c666d825093b895bf3a2f70c17d2f6cf1a46a05"), looks := false }, kinds := [], alts := [], laidByText := true, laidKinds := [.data], laidTests := true, laidLooks := .later }
def RewindOnlyUptoCardSaid : Prop := Claim7.holds Tryd.pinned (.plain (OpenSpec.upto rewindOnlySpec)) rewindOnlyUptoCard

/-- THE SECOND FORM's CARD OF 'tandemlaw17.RewindPatches'. -/
def rewindPatchesUptoCard : Claim7 := { stood := { row := rewindPatchesUptoRow, standIns := [], harness := (true, "46b7e4e87e34c62887740f5a2c666d825093b895bf3a2f70c17d2f6cf1a46a05"), looks := false }, kinds := [], alts := [], laidByText := true, laidKinds := [.data], laidTests := true, laidLooks := .later }
def RewindPatchesUptoCardSaid : Prop := Claim7.holds Tryd.pinned (.plain (OpenSpec.upto rewindPatchesSpec)) rewindPatchesUptoCard
end Rows
end Go.Proofs.YtbgikffoidaamaaDoor
