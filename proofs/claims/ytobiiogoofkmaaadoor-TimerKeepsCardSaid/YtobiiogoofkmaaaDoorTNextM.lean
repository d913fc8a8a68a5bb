/-
  Bounds of what is waited for.
-/
import Derived.Test.YtobiiogoofkmaaaDoorTPtr
set_option linter.unusedSimpArgs false
set_option linter.unusedVariables false
namespace Go.Proofs.YtobiiogoofkmaaaDoor
open Go.RowKit Classical
theorem toF_bd (c : Ck) (o : c.Ok) : 1 ≤ c.toF ∧ c.toF ≤ 30083 := by
  have h := plc_bd c.five c.at_ o.at_.1
  have := o.wait
  unfold Ck.toF
  split <;> omega
end Go.Proofs.YtobiiogoofkmaaaDoor
