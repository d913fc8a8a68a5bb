/-
  That the tables lie in their variables where the row's condition is met.
-/
import Derived.Test.YtjacadiaafcckacDoorTArg
import Derived.Test.YtjacadiaafcckacDoorTie
import Derived.Test.YtjacadiaafcckacDoorCards
import Derived.SizedLaws
import Derived.Deep.DeepHandedRow
import Derived.Lib.LaidTab
import Derived.LaidMore
import Derived.LaidSub
set_option linter.unusedSimpArgs false
set_option linter.unusedVariables false
namespace Go.Proofs.YtjacadiaafcckacDoor
open Go.ChangeShapes Go.WideShapes Go.ChangeAt Go.RowKit Classical
theorem ownT : ownKnob Tryd.prog.godebug = none := by kernel_rfl
theorem laidOutT : laidOutB Tryd.prog = true := by kernel_rfl
theorem g_dividers : Tryd.prog.globalNamed "tandem/timer.dividers" = some 0 := by kernel_rfl
theorem gt_dividers : (Tryd.prog.globals[0]?).map (·.type) = some 46 := by kernel_rfl
theorem g_fourBeats : Tryd.prog.globalNamed "tandem/timer.fourBeats" = some 3 := by kernel_rfl
theorem gt_fourBeats : (Tryd.prog.globals[3]?).map (·.type) = some 46 := by kernel_rfl
theorem g_fiveBeats : Tryd.prog.globalNamed "tandem/timer.fiveBeats" = some 2 := by kernel_rfl
theorem gt_fiveBeats : (Tryd.prog.globals[2]?).map (·.type) = some 46 := by kernel_rfl
theorem g_frames : Tryd.prog.globalNamed "tandem/timer.frames" = some 1 := by kernel_rfl
theorem gt_frames : (Tryd.prog.globals[1]?).map (·.type) = some 48 := by kernel_rfl
theorem g_rounds : Tryd.prog.globalNamed "tandem/timer.rounds" = some 4 := by kernel_rfl
theorem gt_rounds : (Tryd.prog.globals[4]?).map (·.type) = some 50 := by kernel_rfl
theorem cells4 : Tryd.prog.cellsOf 46 = 4 := by kernel_rfl
theorem cells3 : Tryd.prog.cellsOf 48 = 3 := by kernel_rfl
theorem cells2 : Tryd.prog.cellsOf 50 = 2 := by kernel_rfl
theorem dtab_cells {W : World} (t : Lib.TabIs Tryd.prog W "tandem/timer.dividers" .u16 [1, 8, 64, 256]) : DTab W :=
  ⟨t.cell g_dividers 0 (by decide), t.cell g_dividers 1 (by decide), t.cell g_dividers 2 (by decide), t.cell g_dividers 3 (by decide)⟩
theorem dtab_of {W : World} (h : laidMetH Tryd.prog [("tandem/timer.dividers", Rows.laid_tandem_timer_dividers)] W) : DTab W := by
  have h1 : laidMet Tryd.prog [("tandem/timer.dividers", Lib.tabData .u16 [1, 8, 64, 256])] W := h
  exact dtab_cells (Lib.tabIs_of_head (rest := []) g_dividers gt_dividers Tryd.underlying46 Tryd.underlying22 cellsU16 cells4 h1)
theorem tabs_of {W : World} (h : laidMetH Tryd.prog [("tandem/timer.dividers", Rows.laid_tandem_timer_dividers), ("tandem/timer.fourBeats", Rows.laid_tandem_timer_fourBeats), ("tandem/timer.fiveBeats", Rows.laid_tandem_timer_fiveBeats), ("tandem/timer.frames", Rows.laid_tandem_timer_frames), ("tandem/timer.rounds", Rows.laid_tandem_timer_rounds)] W) : Tabs W := by
  have h1 : laidMet Tryd.prog [("tandem/timer.dividers", Lib.tabData .u16 [1, 8, 64, 256]), ("tandem/timer.fourBeats", Lib.tabData .u16 [7457, 14913, 22371, 29829]), ("tandem/timer.fiveBeats", Lib.tabData .u16 [7457, 14913, 22371, 37281]), ("tandem/timer.frames", Lib.tabData .u16 [29828, 29829, 29830]), ("tandem/timer.rounds", Lib.tabData .u16 [29830, 37282])] W := h
  have h_dividers : laidMet Tryd.prog [("tandem/timer.dividers", Lib.tabData .u16 [1, 8, 64, 256])] W := laidMet.filter (fun x => x.1 == "tandem/timer.dividers") h1
  have t_dividers : Lib.TabIs Tryd.prog W "tandem/timer.dividers" .u16 [1, 8, 64, 256] := Lib.tabIs_of_head (rest := []) g_dividers gt_dividers Tryd.underlying46 Tryd.underlying22 cellsU16 cells4 h_dividers
  have h_fourBeats : laidMet Tryd.prog [("tandem/timer.fourBeats", Lib.tabData .u16 [7457, 14913, 22371, 29829])] W := laidMet.filter (fun x => x.1 == "tandem/timer.fourBeats") h1
  have t_fourBeats : Lib.TabIs Tryd.prog W "tandem/timer.fourBeats" .u16 [7457, 14913, 22371, 29829] := Lib.tabIs_of_head (rest := []) g_fourBeats gt_fourBeats Tryd.underlying46 Tryd.underlying22 cellsU16 cells4 h_fourBeats
  have h_fiveBeats : laidMet Tryd.prog [("tandem/timer.fiveBeats", Lib.tabData .u16 [7457, 14913, 22371, 37281])] W := laidMet.filter (fun x => x.1 == "tandem/timer.fiveBeats") h1
  have t_fiveBeats : Lib.TabIs Tryd.prog W "tandem/timer.fiveBeats" .u16 [7457, 14913, 22371, 37281] := Lib.tabIs_of_head (rest := []) g_fiveBeats gt_fiveBeats Tryd.underlying46 Tryd.underlying22 cellsU16 cells4 h_fiveBeats
  have h_frames : laidMet Tryd.prog [("tandem/timer.frames", Lib.tabData .u16 [29828, 29829, 29830])] W := laidMet.filter (fun x => x.1 == "tandem/timer.frames") h1
  have t_frames : Lib.TabIs Tryd.prog W "tandem/timer.frames" .u16 [29828, 29829, 29830] := Lib.tabIs_of_head (rest := []) g_frames gt_frames Tryd.underlying48 Tryd.underlying22 cellsU16 cells3 h_frames
  have h_rounds : laidMet Tryd.prog [("tandem/timer.rounds", Lib.tabData .u16 [29830, 37282])] W := laidMet.filter (fun x => x.1 == "tandem/timer.rounds") h1
  have t_rounds : Lib.TabIs Tryd.prog W "tandem/timer.rounds" .u16 [29830, 37282] := Lib.tabIs_of_head (rest := []) g_rounds gt_rounds Tryd.underlying50 Tryd.underlying22 cellsU16 cells2 h_rounds
  exact ⟨dtab_cells t_dividers, fun i hi => t_fourBeats.cell g_fourBeats i hi, fun i hi => t_fiveBeats.cell g_fiveBeats i hi, fun i hi => t_frames.cell g_frames i hi, fun i hi => t_rounds.cell g_rounds i hi⟩
end Go.Proofs.YtjacadiaafcckacDoor
