/-
  How a list of accesses lies in memory, cell by cell.
-/
import Derived.Test.YtjlakfbggkbmnaaIApp
import Derived.Deep.QuietTactic
import Derived.BigQuiet
set_option linter.unusedSimpArgs false
set_option linter.unusedVariables false
namespace Go.Proofs.Ytjlakfbggkbmnaa
open Go.RowKit
/-- The cells of a list. -/
def Cel (w : World) (g : Nat) (l : List Nat) : Prop := ∀ j, j < l.length → w.cell? ⟨g, j, none⟩ = some (.int .i64 (l.getD j 0 : Nat))
theorem Cel.of_blk {w : World} {g : Nat} {l : List Nat} {t : TypeId} (h : Blk w g (ints l).toArray t) : Cel w g l := fun j hj => by
  rw [h.cell j]; simp [ints, hj]
theorem Hid.mk3 {p : Prop} (h : p) : Hid p := h
end Go.Proofs.Ytjlakfbggkbmnaa
