/-
  DERIVED. GIVEN WITH THE SEED: THE PROGRAM's TIES (one call each: nine closed facts by the kernel) AND EACH ROW's TIE, after the 31st guide's Derived/Test/Toyas{Tie, Card}.lean. No idea stands in it: it is a product of the set-up. Laid BY PROGRAM, IN A SANDBOX (cutbox-door.mjs). By AI agents, Wed Nov 11 2026. No macro, syntax, notation, axiom, sorry.
-/
import Derived.Test.YtebnapgnnflnhaaDoorRows
import Derived.LaidByTextLater
import Derived.SevenTiedAt
import Derived.LaidSub
import Derived.LaidOnce
namespace Go.Proofs.YtebnapgnnflnhaaDoor
open Go
set_option maxRecDepth 100000
theorem seatTie1 : Tryd.prog.laidByTextLater [("tandem/tandemref4.letters", Rows.laid_tandem_tandemref4_letters), ("tandem/tandemref4.forms", Rows.laid_tandem_tandemref4_forms), ("tandem/isa.names", Rows.laid_tandem_isa_names), ("tandem/isa.forms", Rows.laid_tandem_isa_forms)] [.data, .data, .data, .data] true :=
  Program.laidByTextLater_by_one 41 8 71 (by kernel_rfl) (by kernel_rfl) (by kernel_rfl) (by kernel_rfl) (by kernel_rfl) (by kernel_rfl) (fun _ _ => by kernel_rfl)
theorem noOwnUnsafe : Tryd.pinned.checked.prog.headLifts.contains "ownunsafe" = false := by kernel_rfl
theorem tie : Tryd.prog.laidByTextLater [("tandem/tandemref4.letters", Rows.laid_tandem_tandemref4_letters), ("tandem/tandemref4.forms", Rows.laid_tandem_tandemref4_forms), ("tandem/isa.names", Rows.laid_tandem_isa_names), ("tandem/isa.forms", Rows.laid_tandem_isa_forms)] [.data, .data, .data, .data] true :=
  Program.laidByTextLater.sub seatTie1 ["tandem/tandemref4.letters", "tandem/tandemref4.forms", "tandem/isa.names", "tandem/isa.forms"] (by kernel_rfl) (by kernel_rfl)
theorem isaLines_row_tie : Rows.isaLinesRow.laidByTextAt .later Tryd.pinned [.data, .data, .data, .data] true :=
  OpenClaim.laidByTextAt_later rfl rfl tie noOwnUnsafe
theorem isaLinesUpto_row_tie : Rows.isaLinesUptoRow.laidByTextAt .later Tryd.pinned [.data, .data, .data, .data] true :=
  OpenClaim.laidByTextAt_later rfl rfl tie noOwnUnsafe
end Go.Proofs.YtebnapgnnflnhaaDoor
