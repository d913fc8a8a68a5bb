/-
  That the two tables lie in their variables where the row's condition is met.
-/
import Derived.Test.YtfdiplgjiidnbaaDoorATab
import Derived.Test.YtfdiplgjiidnbaaDoorTie
import Derived.Test.YtfdiplgjiidnbaaDoorCards
import Derived.ProofKit
import Derived.OpenShut
import Derived.ChangeOld
import Derived.Below
import Derived.SizedLaws
import Derived.Deep.DeepHandedRow
import Derived.Lib.LaidTab
import Derived.LaidMore
import Derived.LaidSub
namespace Go.Proofs.YtfdiplgjiidnbaaDoor
open Go.ChangeShapes Go.WideShapes Go.ChangeAt Go.RowKit
theorem ownT : ownKnob Tryd.prog.godebug = none := by kernel_rfl
theorem laidOutT : laidOutB Tryd.prog = true := by kernel_rfl
theorem gNeeds : Tryd.prog.globalNamed "tandem/alu.needs" = some 1 := by kernel_rfl
theorem gNeedsType : (Tryd.prog.globals[1]?).map (·.type) = some 72 := by kernel_rfl
theorem gSets : Tryd.prog.globalNamed "tandem/alu.sets" = some 0 := by kernel_rfl
theorem gSetsType : (Tryd.prog.globals[0]?).map (·.type) = some 72 := by kernel_rfl
theorem cells70 : Tryd.prog.cellsOf 72 = 70 := by kernel_rfl
theorem cellsT : Tryd.prog.cellsOf 5 = 1 := by kernel_rfl
theorem tabs_of {W : World} (h : laidMetH Tryd.prog [("tandem/alu.needs", Rows.laid_tandem_alu_needs), ("tandem/alu.sets", Rows.laid_tandem_alu_sets)] W) : Tabs W := by
  have h1 : laidMet Tryd.prog [("tandem/alu.needs", Lib.tabData .u8 ndL), ("tandem/alu.sets", Lib.tabData .u8 stL)] W := h
  have h2 : laidMet Tryd.prog [("tandem/alu.sets", Lib.tabData .u8 stL)] W := laidMet.filter (fun x => x.1 == "tandem/alu.sets") h1
  have t1 : Lib.TabIs Tryd.prog W "tandem/alu.needs" .u8 ndL := Lib.tabIs_of_head (rest := [("tandem/alu.sets", Lib.tabData .u8 stL)]) gNeeds gNeedsType Tryd.underlying72 Tryd.underlying5 cellsT cells70 h1
  have t2 : Lib.TabIs Tryd.prog W "tandem/alu.sets" .u8 stL := Lib.tabIs_of_head (rest := []) gSets gSetsType Tryd.underlying72 Tryd.underlying5 cellsT cells70 h2
  exact ⟨fun i hi => t1.cell gNeeds i hi, fun i hi => t2.cell gSets i hi⟩
theorem stab_of {W : World} (h : laidMetH Tryd.prog [("tandem/alu.sets", Rows.laid_tandem_alu_sets)] W) : STab W := by
  have h2 : laidMet Tryd.prog [("tandem/alu.sets", Lib.tabData .u8 stL)] W := h
  have t2 : Lib.TabIs Tryd.prog W "tandem/alu.sets" .u8 stL := Lib.tabIs_of_head (rest := []) gSets gSetsType Tryd.underlying72 Tryd.underlying5 cellsT cells70 h2
  exact ⟨fun i hi => t2.cell gSets i hi⟩
end Go.Proofs.YtfdiplgjiidnbaaDoor
