/-
  DERIVED. GIVEN WITH THE SEED: THE PROGRAM's TIES (one call each: nine closed facts by the kernel) AND EACH ROW's TIE, after the 31st guide's Derived/Test/Toyas{Tie, Card}.lean. No idea stands in it: it is a product of the set-up. Laid BY PROGRAM, IN A SANDBOX (cutbox-door.mjs). By AI agents, Wed Nov 11 2026. No macro, syntax, notation, axiom, sorry.
-/
import Derived.Test.YtobiiogoofkmaaaDoorRows
import Derived.LaidByTextLater
import Derived.SevenTiedAt
import Derived.LaidSub
import Derived.LaidOnce
namespace Go.Proofs.YtobiiogoofkmaaaDoor
open Go
set_option maxRecDepth 100000
theorem seatTie1 : Tryd.prog.laidByTextLater [("tandem/timer.dividers", Rows.laid_tandem_timer_dividers), ("tandem/timer.fourBeats", Rows.laid_tandem_timer_fourBeats), ("tandem/timer.fiveBeats", Rows.laid_tandem_timer_fiveBeats), ("tandem/timer.frames", Rows.laid_tandem_timer_frames), ("tandem/timer.rounds", Rows.laid_tandem_timer_rounds)] [.data, .data, .data, .data, .data] true :=
  Program.laidByTextLater_by_one 34 8 5 (by kernel_rfl) (by kernel_rfl) (by kernel_rfl) (by kernel_rfl) (by kernel_rfl) (by kernel_rfl) (fun _ _ => by kernel_rfl)
theorem noOwnUnsafe : Tryd.pinned.checked.prog.headLifts.contains "ownunsafe" = false := by kernel_rfl
theorem tie : Tryd.prog.laidByTextLater [("tandem/timer.dividers", Rows.laid_tandem_timer_dividers), ("tandem/timer.fourBeats", Rows.laid_tandem_timer_fourBeats), ("tandem/timer.fiveBeats", Rows.laid_tandem_timer_fiveBeats), ("tandem/timer.frames", Rows.laid_tandem_timer_frames), ("tandem/timer.rounds", Rows.laid_tandem_timer_rounds)] [.data, .data, .data, .data, .data] true :=
  Program.laidByTextLater.sub seatTie1 ["tandem/timer.dividers", "tandem/timer.fourBeats", "tandem/timer.fiveBeats", "tandem/timer.frames", "tandem/timer.rounds"] (by kernel_rfl) (by kernel_rfl)
theorem timerKeeps_row_tie : Rows.timerKeepsRow.laidByTextAt .later Tryd.pinned [.data, .data, .data, .data, .data] true :=
  OpenClaim.laidByTextAt_later rfl rfl tie noOwnUnsafe
theorem timerPlays_row_tie : Rows.timerPlaysRow.laidByTextAt .later Tryd.pinned [.data, .data, .data, .data, .data] true :=
  OpenClaim.laidByTextAt_later rfl rfl tie noOwnUnsafe
theorem timerKeepsUpto_row_tie : Rows.timerKeepsUptoRow.laidByTextAt .later Tryd.pinned [.data, .data, .data, .data, .data] true :=
  OpenClaim.laidByTextAt_later rfl rfl tie noOwnUnsafe
theorem timerPlaysUpto_row_tie : Rows.timerPlaysUptoRow.laidByTextAt .later Tryd.pinned [.data, .data, .data, .data, .data] true :=
  OpenClaim.laidByTextAt_later rfl rfl tie noOwnUnsafe
end Go.Proofs.YtobiiogoofkmaaaDoor
