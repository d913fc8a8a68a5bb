/-
  The law TimerOnce returns true; conditions: the tables lie in their variables.
-/
import Derived.Test.YtjacadiaafcckabDoorTLawOnol
import Derived.Test.YtjacadiaafcckabDoorTLawOnog
import Derived.Test.YtjacadiaafcckabDoorTLawOnel
import Derived.Test.YtjacadiaafcckabDoorTLawOneg
set_option linter.unusedSimpArgs false
set_option linter.unusedVariables false
namespace Go.Proofs.YtjacadiaafcckabDoor
open Go.RowKit Classical
theorem law_timerOnce (latch pick n : Int) (w : World) (T : Tabs w) (l0 : 0 ≤ latch) (l1 : latch ≤ 65535) (p0 : 0 ≤ pick) (p1 : pick ≤ 255) :
    Calls Tryd.prog 3 #[.int .u16 latch, .int .u8 pick, .int .i64 n] w fun e w' => e = .returned (.bool true) ∧ Below w.heap.size w w' := by
  rcases (show hf n % 2 = 0 ∨ hf n % 2 = 1 by omega) with h | h
  · by_cases hl : hf n < (latch + 1) * dv (8 * (pick % 4))
    · exact law_once_el latch pick n w T l0 l1 p0 p1 h hl
    · exact law_once_eg latch pick n w T l0 l1 p0 p1 h hl
  · by_cases hl : hf n % (2 * ((latch + 1) * dv (8 * (pick % 4)))) < (latch + 1) * dv (8 * (pick % 4))
    · exact law_once_ol latch pick n w T l0 l1 p0 p1 h hl
    · exact law_once_og latch pick n w T l0 l1 p0 p1 h hl
end Go.Proofs.YtjacadiaafcckabDoor
