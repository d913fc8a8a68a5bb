/-
  DERIVED. GIVEN WITH THE SEED: THE PROGRAM's TIES (one call each: nine closed facts by the kernel) AND EACH ROW's TIE, after the 31st guide's Derived/Test/Toyas{Tie, Card}.lean. No idea stands in it: it is a product of the set-up. Laid BY PROGRAM, IN A SANDBOX (cutbox-door.mjs). By AI agents, Wed Nov 11 2026. No macro, syntax, notation, axiom, sorry.
-/
import Derived.Test.YtjacadiaafcckaaDoorRows
import Derived.LaidByTextLater
import Derived.SevenTiedAt
import Derived.LaidSub
import Derived.LaidOnce
namespace Go.Proofs.YtjacadiaafcckaaDoor
open Go
set_option maxRecDepth 100000
theorem seatTie1 : Tryd.prog.laidByTextLater [("tandem/timer.dividers", Rows.laid_tandem_timer_dividers), ("tandem/timer.fourBeats", Rows.laid_tandem_timer_fourBeats), ("tandem/timer.fiveBeats", Rows.laid_tandem_timer_fiveBeats), ("tandem/timer.frames", Rows.laid_tandem_timer_frames), ("tandem/timer.rounds", Rows.laid_tandem_timer_rounds)] [.data, .data, .data, .data, .data] true :=
  Program.laidByTextLater_by_one 34 8 5 (by kernel_rfl) (by kernel_rfl) (by kernel_rfl) (by kernel_rfl) (by kernel_rfl) (by kernel_rfl) (fun _ _ => by kernel_rfl)
theorem noOwnUnsafe : Tryd.pinned.checked.prog.headLifts.contains "ownunsafe" = false := by kernel_rfl
theorem tie : Tryd.prog.laidByTextLater [("tandem/timer.dividers", Rows.laid_tandem_timer_dividers)] [.data] true :=
  Program.laidByTextLater.sub seatTie1 ["tandem/timer.dividers"] (by kernel_rfl) (by kernel_rfl)
theorem timerReads_row_tie : Rows.timerReadsRow.laidByTextAt .later Tryd.pinned [.data] true :=
  OpenClaim.laidByTextAt_later rfl rfl tie noOwnUnsafe
theorem timerWrites_row_tie : Rows.timerWritesRow.laidByTextAt .later Tryd.pinned [.data] true :=
  OpenClaim.laidByTextAt_later rfl rfl tie noOwnUnsafe
theorem tie2 : Tryd.prog.laidByTextLater [("tandem/timer.dividers", Rows.laid_tandem_timer_dividers), ("tandem/timer.fourBeats", Rows.laid_tandem_timer_fourBeats), ("tandem/timer.fiveBeats", Rows.laid_tandem_timer_fiveBeats), ("tandem/timer.frames", Rows.laid_tandem_timer_frames), ("tandem/timer.rounds", Rows.laid_tandem_timer_rounds)] [.data, .data, .data, .data, .data] true :=
  Program.laidByTextLater.sub seatTie1 ["tandem/timer.dividers", "tandem/timer.fourBeats", "tandem/timer.fiveBeats", "tandem/timer.frames", "tandem/timer.rounds"] (by kernel_rfl) (by kernel_rfl)
theorem timerSums_row_tie : Rows.timerSumsRow.laidByTextAt .later Tryd.pinned [.data, .data, .data, .data, .data] true :=
  OpenClaim.laidByTextAt_later rfl rfl tie2 noOwnUnsafe
theorem timerApart_row_tie : Rows.timerApartRow.laidByTextAt .later Tryd.pinned [.data, .data, .data, .data, .data] true :=
  OpenClaim.laidByTextAt_later rfl rfl tie2 noOwnUnsafe
theorem timerLatches_row_tie : Rows.timerLatchesRow.laidByTextAt .later Tryd.pinned [.data, .data, .data, .data, .data] true :=
  OpenClaim.laidByTextAt_later rfl rfl tie2 noOwnUnsafe
theorem timerPeriods_row_tie : Rows.timerPeriodsRow.laidByTextAt .later Tryd.pinned [.data, .data, .data, .data, .data] true :=
  OpenClaim.laidByTextAt_later rfl rfl tie2 noOwnUnsafe
theorem timerReadsUpto_row_tie : Rows.timerReadsUptoRow.laidByTextAt .later Tryd.pinned [.data] true :=
  OpenClaim.laidByTextAt_later rfl rfl tie noOwnUnsafe
theorem timerWritesUpto_row_tie : Rows.timerWritesUptoRow.laidByTextAt .later Tryd.pinned [.data] true :=
  OpenClaim.laidByTextAt_later rfl rfl tie noOwnUnsafe
theorem timerSumsUpto_row_tie : Rows.timerSumsUptoRow.laidByTextAt .later Tryd.pinned [.data, .data, .data, .data, .data] true :=
  OpenClaim.laidByTextAt_later rfl rfl tie2 noOwnUnsafe
theorem timerApartUpto_row_tie : Rows.timerApartUptoRow.laidByTextAt .later Tryd.pinned [.data, .data, .data, .data, .data] true :=
  OpenClaim.laidByTextAt_later rfl rfl tie2 noOwnUnsafe
theorem timerLatchesUpto_row_tie : Rows.timerLatchesUptoRow.laidByTextAt .later Tryd.pinned [.data, .data, .data, .data, .data] true :=
  OpenClaim.laidByTextAt_later rfl rfl tie2 noOwnUnsafe
theorem timerPeriodsUpto_row_tie : Rows.timerPeriodsUptoRow.laidByTextAt .later Tryd.pinned [.data, .data, .data, .data, .data] true :=
  OpenClaim.laidByTextAt_later rfl rfl tie2 noOwnUnsafe
end Go.Proofs.YtjacadiaafcckaaDoor
