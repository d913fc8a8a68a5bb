/-
  Two bools held against each other.
-/
import Derived.Test.YtjacadiaafcckabDoorTFrm
set_option linter.unusedSimpArgs false
set_option linter.unusedVariables false
namespace Go.Proofs.YtjacadiaafcckabDoor
open Go.RowKit Classical
theorem exec_eb {ρ : Operand → Value} {o : Oper} {x y : Operand} {t z : TypeId} {a : Bool} {w : World} (ho : o.op = .binOp .eql t x y z) (hx : ρ x = .bool a) (hy : ρ y = .bool a) (ht : Tryd.prog.underlying t = some .bool) : (execOp ρ o).run Tryd.prog w = .ok (.value (.bool true)) w := by
  obtain ⟨dst, o, ty, pos, after, guard⟩ := o
  simp only at ho
  subst ho
  rw [run_exec_binOp, hx, hy]
  cases a <;> go_simp
end Go.Proofs.YtjacadiaafcckabDoor
