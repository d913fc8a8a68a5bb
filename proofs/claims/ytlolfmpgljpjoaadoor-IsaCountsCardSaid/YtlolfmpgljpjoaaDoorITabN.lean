/-
  That the names lie in their variable where the row's condition is met.
-/
import Derived.Test.YtlolfmpgljpjoaaDoorIStr
import Derived.Test.YtlolfmpgljpjoaaDoorINm
set_option linter.unusedSimpArgs false
set_option linter.unusedVariables false
namespace Go.Proofs.YtlolfmpgljpjoaaDoor
open Go.ChangeShapes Go.WideShapes Go.ChangeAt Go.RowKit
theorem gNames : Tryd.prog.globalNamed "tandem/isa.names" = some 0 := by kernel_rfl
theorem gNamesType : (Tryd.prog.globals[0]?).map (·.type) = some 60 := by kernel_rfl
theorem cells70 : Tryd.prog.cellsOf 60 = 70 := by kernel_rfl
theorem ntab_of {W : World} (h : laidMetH Tryd.prog [("tandem/isa.names", Rows.laid_tandem_isa_names)] W) : NTab W := by
  have h1 : laidMet Tryd.prog [("tandem/isa.names", strData nmL)] W := h
  exact ⟨fun i hi => strIs_of_head gNames gNamesType Tryd.underlying60 Tryd.underlying9 cellsT cells70 h1 i hi⟩
end Go.Proofs.YtlolfmpgljpjoaaDoor
