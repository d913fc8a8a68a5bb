/-
  The document's divider and Valid; conditions: the numbers fit their kinds.
-/
import Derived.Test.YtobiiogoofkmaaaDoorTLeaf
set_option linter.unusedSimpArgs false
set_option linter.unusedVariables false
namespace Go.Proofs.YtobiiogoofkmaaaDoor
open Go.RowKit Classical
theorem rdiv_any (k : Int) (w : World) (h0 : 0 ≤ k) (h1 : k ≤ 255) :
    Calls Tryd.prog 30 #[.int .u8 k] w fun e w' => e = .returned (.int .i64 (dv k)) ∧ w' = w := by
  have hc : k / 8 % 4 = 0 ∨ k / 8 % 4 = 1 ∨ k / 8 % 4 = 2 ∨ k / 8 % 4 = 3 := by omega
  rcases hc with h | h | h | h
  all_goals
    have E : Hid (dv k = _) := (by unfold dv; rw [h]; rfl)
    go_enter Tryd.func30, Tryd.ntmps30
    go_wp2
    go_ret
    exact ⟨congrArg (fun x => Ending.returned (.int .i64 x)) E.out.symm, rfl⟩
end Go.Proofs.YtobiiogoofkmaaaDoor
