/-
  The laws' own size, as a call.
-/
import Derived.Test.YtjacadiaafcckabDoorTOnc
import Derived.Test.YtjacadiaafcckabDoorTFrm0
set_option linter.unusedSimpArgs false
set_option linter.unusedVariables false
namespace Go.Proofs.YtjacadiaafcckabDoor
open Go.RowKit Classical
theorem size_below' (k : Int) (w : World) (h0 : 0 ≤ k) (h1 : k ≤ 255) :
    Calls Tryd.prog 9 #[.int .u8 k] w fun e w' => e = .returned (.int .i64 (dv (8 * (k % 4)))) ∧ Below w.heap.size w w' :=
  (size_any k w h0 h1).mono fun e w' ⟨he, hw⟩ => ⟨he, by subst hw; exact Below.refl _ _⟩
end Go.Proofs.YtjacadiaafcckabDoor
