/-
  The laws' own size and marks.
-/
import Derived.Test.YtjacadiaafcckabDoorTLawP
set_option linter.unusedSimpArgs false
set_option linter.unusedVariables false
namespace Go.Proofs.YtjacadiaafcckabDoor
open Go.RowKit Classical
theorem size_any (k : Int) (w : World) (h0 : 0 ≤ k) (h1 : k ≤ 255) :
    Calls Tryd.prog 9 #[.int .u8 k] w fun e w' => e = .returned (.int .i64 (dv (8 * (k % 4)))) ∧ w' = w := by
  have hc : k % 4 = 0 ∨ k % 4 = 1 ∨ k % 4 = 2 ∨ k % 4 = 3 := by omega
  rcases hc with h | h | h | h
  all_goals
    have E : Hid (dv (8 * (k % 4)) = _) := (by rw [h]; rfl)
    go_enter Tryd.func9, Tryd.ntmps9
    go_wp2
    go_ret
    exact ⟨congrArg (fun x => Ending.returned (.int .i64 x)) E.out.symm, rfl⟩
end Go.Proofs.YtjacadiaafcckabDoor
