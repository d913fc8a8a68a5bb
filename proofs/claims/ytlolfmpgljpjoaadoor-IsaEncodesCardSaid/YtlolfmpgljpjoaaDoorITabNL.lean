/-
  That the names and the letters lie in their variables where the row's condition is met.
-/
import Derived.Test.YtlolfmpgljpjoaaDoorIStr
import Derived.Test.YtlolfmpgljpjoaaDoorINm
import Derived.Test.YtlolfmpgljpjoaaDoorIRef6
set_option linter.unusedSimpArgs false
set_option linter.unusedVariables false
namespace Go.Proofs.YtlolfmpgljpjoaaDoor
open Go.ChangeShapes Go.WideShapes Go.ChangeAt Go.RowKit
theorem gNames : Tryd.prog.globalNamed "tandem/isa.names" = some 0 := by kernel_rfl
theorem gNamesType : (Tryd.prog.globals[0]?).map (·.type) = some 60 := by kernel_rfl
theorem cells70 : Tryd.prog.cellsOf 60 = 70 := by kernel_rfl
theorem gLett : Tryd.prog.globalNamed "tandem/tandemref4.letters" = some 1 := by kernel_rfl
theorem gLettType : (Tryd.prog.globals[1]?).map (·.type) = some 63 := by kernel_rfl
theorem cells13 : Tryd.prog.cellsOf 63 = 13 := by kernel_rfl
theorem nltab_of {W : World} (h : laidMetH Tryd.prog [("tandem/tandemref4.letters", Rows.laid_tandem_tandemref4_letters), ("tandem/isa.names", Rows.laid_tandem_isa_names)] W) : NTab W ∧ LTab W := by
  have h1 : laidMet Tryd.prog [("tandem/tandemref4.letters", strData ltL), ("tandem/isa.names", strData nmL)] W := h
  have h2 : laidMet Tryd.prog [("tandem/isa.names", strData nmL)] W := laidMet.filter (fun x => x.1 == "tandem/isa.names") h1
  exact ⟨⟨fun i hi => strIs_of_head gNames gNamesType Tryd.underlying60 Tryd.underlying9 cellsT cells70 h2 i hi⟩,
    ⟨fun i hi => strIs_of_head gLett gLettType Tryd.underlying63 Tryd.underlying9 cellsT cells13 h1 i hi⟩⟩
end Go.Proofs.YtlolfmpgljpjoaaDoor
