/-
  DERIVED. GIVEN WITH THE SEED: THE PROGRAM's TIES (one call each: nine closed facts by the kernel) AND EACH ROW's TIE, after the 31st guide's Derived/Test/Toyas{Tie, Card}.lean. No idea stands in it: it is a product of the set-up. Laid BY PROGRAM, IN A SANDBOX (cutbox-door.mjs). By AI agents, Wed Nov 11 2026. No macro, syntax, notation, axiom, sorry.
-/
import Derived.Test.YtlolfmpgljpjoaaDoorRows
import Derived.LaidByTextLater
import Derived.SevenTiedAt
import Derived.LaidSub
import Derived.LaidOnce
namespace Go.Proofs.YtlolfmpgljpjoaaDoor
open Go
set_option maxRecDepth 100000
theorem seatTie1 : Tryd.prog.laidByTextLater [("tandem/tandemref4.letters", Rows.laid_tandem_tandemref4_letters), ("tandem/isa.names", Rows.laid_tandem_isa_names)] [.data, .data] true :=
  Program.laidByTextLater_by_one 19 8 71 (by kernel_rfl) (by kernel_rfl) (by kernel_rfl) (by kernel_rfl) (by kernel_rfl) (by kernel_rfl) (fun _ _ => by kernel_rfl)
theorem noOwnUnsafe : Tryd.pinned.checked.prog.headLifts.contains "ownunsafe" = false := by kernel_rfl
theorem tie : Tryd.prog.laidByTextLater [("tandem/isa.names", Rows.laid_tandem_isa_names)] [.data] true :=
  Program.laidByTextLater.sub seatTie1 ["tandem/isa.names"] (by kernel_rfl) (by kernel_rfl)
theorem isaCounts_row_tie : Rows.isaCountsRow.laidByTextAt .later Tryd.pinned [.data] true :=
  OpenClaim.laidByTextAt_later rfl rfl tie noOwnUnsafe
theorem tie2 : Tryd.prog.laidByTextLater [("tandem/tandemref4.letters", Rows.laid_tandem_tandemref4_letters), ("tandem/isa.names", Rows.laid_tandem_isa_names)] [.data, .data] true :=
  Program.laidByTextLater.sub seatTie1 ["tandem/tandemref4.letters", "tandem/isa.names"] (by kernel_rfl) (by kernel_rfl)
theorem isaEncodes_row_tie : Rows.isaEncodesRow.laidByTextAt .later Tryd.pinned [.data, .data] true :=
  OpenClaim.laidByTextAt_later rfl rfl tie2 noOwnUnsafe
theorem tie3 : Tryd.prog.laidByTextLater [("tandem/tandemref4.letters", Rows.laid_tandem_tandemref4_letters)] [.data] true :=
  Program.laidByTextLater.sub seatTie1 ["tandem/tandemref4.letters"] (by kernel_rfl) (by kernel_rfl)
theorem isaShapes_row_tie : Rows.isaShapesRow.laidByTextAt .later Tryd.pinned [.data] true :=
  OpenClaim.laidByTextAt_later rfl rfl tie3 noOwnUnsafe
theorem isaCountsUpto_row_tie : Rows.isaCountsUptoRow.laidByTextAt .later Tryd.pinned [.data] true :=
  OpenClaim.laidByTextAt_later rfl rfl tie noOwnUnsafe
theorem isaEncodesUpto_row_tie : Rows.isaEncodesUptoRow.laidByTextAt .later Tryd.pinned [.data, .data] true :=
  OpenClaim.laidByTextAt_later rfl rfl tie2 noOwnUnsafe
theorem isaShapesUpto_row_tie : Rows.isaShapesUptoRow.laidByTextAt .later Tryd.pinned [.data] true :=
  OpenClaim.laidByTextAt_later rfl rfl tie3 noOwnUnsafe
end Go.Proofs.YtlolfmpgljpjoaaDoor
