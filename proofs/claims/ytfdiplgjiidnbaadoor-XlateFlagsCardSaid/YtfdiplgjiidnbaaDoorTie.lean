/-
  DERIVED. GIVEN WITH THE SEED: THE PROGRAM's TIES (one call each: nine closed facts by the kernel) AND EACH ROW's TIE, after the 31st guide's Derived/Test/Toyas{Tie, Card}.lean. No idea stands in it: it is a product of the set-up. Laid BY PROGRAM, IN A SANDBOX (cutbox-door.mjs). By AI agents, Wed Nov 11 2026. No macro, syntax, notation, axiom, sorry.
-/
import Derived.Test.YtfdiplgjiidnbaaDoorRows
import Derived.LaidByTextLater
import Derived.SevenTiedAt
import Derived.LaidSub
import Derived.LaidOnce
namespace Go.Proofs.YtfdiplgjiidnbaaDoor
open Go
set_option maxRecDepth 100000
theorem seatTie1 : Tryd.prog.laidByTextLater [("tandem/alu.needs", Rows.laid_tandem_alu_needs), ("tandem/alu.sets", Rows.laid_tandem_alu_sets), ("tandem/tandemref4.letters", Rows.laid_tandem_tandemref4_letters), ("tandem/xlate.recipes", Rows.laid_tandem_xlate_recipes)] [.data, .data, .data, .data] true :=
  Program.laidByTextLater_by_one 40 8 71 (by kernel_rfl) (by kernel_rfl) (by kernel_rfl) (by kernel_rfl) (by kernel_rfl) (by kernel_rfl) (fun _ _ => by kernel_rfl)
theorem noOwnUnsafe : Tryd.pinned.checked.prog.headLifts.contains "ownunsafe" = false := by kernel_rfl
theorem tie : Tryd.prog.laidByTextLater [("tandem/alu.needs", Rows.laid_tandem_alu_needs), ("tandem/alu.sets", Rows.laid_tandem_alu_sets), ("tandem/xlate.recipes", Rows.laid_tandem_xlate_recipes)] [.data, .data, .data] true :=
  Program.laidByTextLater.sub seatTie1 ["tandem/alu.needs", "tandem/alu.sets", "tandem/xlate.recipes"] (by kernel_rfl) (by kernel_rfl)
theorem xlateOwn_row_tie : Rows.xlateOwnRow.laidByTextAt .later Tryd.pinned [.data, .data, .data] true :=
  OpenClaim.laidByTextAt_later rfl rfl tie noOwnUnsafe
theorem xlatePrefix_row_tie : Rows.xlatePrefixRow.laidByTextAt .later Tryd.pinned [.data, .data, .data] true :=
  OpenClaim.laidByTextAt_later rfl rfl tie noOwnUnsafe
theorem xlateFlags_row_tie : Rows.xlateFlagsRow.laidByTextAt .later Tryd.pinned [.data, .data, .data] true :=
  OpenClaim.laidByTextAt_later rfl rfl tie noOwnUnsafe
theorem tie2 : Tryd.prog.laidByTextLater [("tandem/alu.needs", Rows.laid_tandem_alu_needs), ("tandem/alu.sets", Rows.laid_tandem_alu_sets), ("tandem/tandemref4.letters", Rows.laid_tandem_tandemref4_letters), ("tandem/xlate.recipes", Rows.laid_tandem_xlate_recipes)] [.data, .data, .data, .data] true :=
  Program.laidByTextLater.sub seatTie1 ["tandem/alu.needs", "tandem/alu.sets", "tandem/tandemref4.letters", "tandem/xlate.recipes"] (by kernel_rfl) (by kernel_rfl)
theorem xlateTranslates_row_tie : Rows.xlateTranslatesRow.laidByTextAt .later Tryd.pinned [.data, .data, .data, .data] true :=
  OpenClaim.laidByTextAt_later rfl rfl tie2 noOwnUnsafe
theorem xlateOwnUpto_row_tie : Rows.xlateOwnUptoRow.laidByTextAt .later Tryd.pinned [.data, .data, .data] true :=
  OpenClaim.laidByTextAt_later rfl rfl tie noOwnUnsafe
theorem xlatePrefixUpto_row_tie : Rows.xlatePrefixUptoRow.laidByTextAt .later Tryd.pinned [.data, .data, .data] true :=
  OpenClaim.laidByTextAt_later rfl rfl tie noOwnUnsafe
theorem xlateFlagsUpto_row_tie : Rows.xlateFlagsUptoRow.laidByTextAt .later Tryd.pinned [.data, .data, .data] true :=
  OpenClaim.laidByTextAt_later rfl rfl tie noOwnUnsafe
theorem xlateTranslatesUpto_row_tie : Rows.xlateTranslatesUptoRow.laidByTextAt .later Tryd.pinned [.data, .data, .data, .data] true :=
  OpenClaim.laidByTextAt_later rfl rfl tie2 noOwnUnsafe
end Go.Proofs.YtfdiplgjiidnbaaDoor
