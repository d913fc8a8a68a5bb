/-
  That alu's two tables and the letters lie in their variables where the row's condition is met.
-/
import Derived.Test.YtlpdbdhghfnakabDoorIStr
import Derived.Test.YtlpdbdhghfnakabDoorIRef6
import Derived.Test.YtlpdbdhghfnakabDoorATab
set_option linter.unusedSimpArgs false
set_option linter.unusedVariables false
namespace Go.Proofs.YtlpdbdhghfnakabDoor
open Go.ChangeShapes Go.WideShapes Go.ChangeAt Go.RowKit
theorem gLett : Tryd.prog.globalNamed "tandem/tandemref4.letters" = some 2 := by kernel_rfl
theorem gLettType : (Tryd.prog.globals[2]?).map (·.type) = some 63 := by kernel_rfl
theorem cells13 : Tryd.prog.cellsOf 63 = 13 := by kernel_rfl
theorem gNeeds : Tryd.prog.globalNamed "tandem/alu.needs" = some 3 := by kernel_rfl
theorem gNeedsType : (Tryd.prog.globals[3]?).map (·.type) = some 77 := by kernel_rfl
theorem gSets : Tryd.prog.globalNamed "tandem/alu.sets" = some 4 := by kernel_rfl
theorem gSetsType : (Tryd.prog.globals[4]?).map (·.type) = some 77 := by kernel_rfl
theorem cellsU70 : Tryd.prog.cellsOf 77 = 70 := by kernel_rfl
theorem cellsU8 : Tryd.prog.cellsOf 5 = 1 := by kernel_rfl
theorem dtab_of {W : World} (h : laidMetH Tryd.prog [("tandem/alu.needs", Rows.laid_tandem_alu_needs), ("tandem/alu.sets", Rows.laid_tandem_alu_sets), ("tandem/tandemref4.letters", Rows.laid_tandem_tandemref4_letters)] W) : Tabs W ∧ LTab W := by
  have h1 : laidMet Tryd.prog [("tandem/alu.needs", Lib.tabData .u8 ndL), ("tandem/alu.sets", Lib.tabData .u8 stL), ("tandem/tandemref4.letters", strData ltL)] W := h
  have h2 : laidMet Tryd.prog [("tandem/alu.sets", Lib.tabData .u8 stL)] W := laidMet.filter (fun x => x.1 == "tandem/alu.sets") h1
  have h3 : laidMet Tryd.prog [("tandem/tandemref4.letters", strData ltL)] W := laidMet.filter (fun x => x.1 == "tandem/tandemref4.letters") h1
  have t1 : Lib.TabIs Tryd.prog W "tandem/alu.needs" .u8 ndL := Lib.tabIs_of_head (rest := [("tandem/alu.sets", Lib.tabData .u8 stL), ("tandem/tandemref4.letters", strData ltL)]) gNeeds gNeedsType Tryd.underlying77 Tryd.underlying5 cellsU8 cellsU70 h1
  have t2 : Lib.TabIs Tryd.prog W "tandem/alu.sets" .u8 stL := Lib.tabIs_of_head (rest := []) gSets gSetsType Tryd.underlying77 Tryd.underlying5 cellsU8 cellsU70 h2
  exact ⟨⟨fun i hi => t1.cell gNeeds i hi, fun i hi => t2.cell gSets i hi⟩, ⟨fun i hi => strIs_of_head gLett gLettType Tryd.underlying63 Tryd.underlying9 cellsT cells13 h3 i hi⟩⟩
end Go.Proofs.YtlpdbdhghfnakabDoor
