/-
  That the letters lie in their variable where the row's condition is met.
-/
import Derived.Test.YtlolfmpgljpjoaaDoorIStr
import Derived.Test.YtlolfmpgljpjoaaDoorIRef6
set_option linter.unusedSimpArgs false
set_option linter.unusedVariables false
namespace Go.Proofs.YtlolfmpgljpjoaaDoor
open Go.ChangeShapes Go.WideShapes Go.ChangeAt Go.RowKit
theorem gLett : Tryd.prog.globalNamed "tandem/tandemref4.letters" = some 1 := by kernel_rfl
theorem gLettType : (Tryd.prog.globals[1]?).map (·.type) = some 63 := by kernel_rfl
theorem cells13 : Tryd.prog.cellsOf 63 = 13 := by kernel_rfl
theorem ltab_of {W : World} (h : laidMetH Tryd.prog [("tandem/tandemref4.letters", Rows.laid_tandem_tandemref4_letters)] W) : LTab W := by
  have h1 : laidMet Tryd.prog [("tandem/tandemref4.letters", strData ltL)] W := h
  exact ⟨fun i hi => strIs_of_head gLett gLettType Tryd.underlying63 Tryd.underlying9 cellsT cells13 h1 i hi⟩
end Go.Proofs.YtlolfmpgljpjoaaDoor
