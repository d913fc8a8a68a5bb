/-
  The law TimerFrames returns true; conditions: the tables lie in their variables.
-/
import Derived.Test.YtjacadiaafcckabDoorTLawFra
import Derived.Test.YtjacadiaafcckabDoorTLawFrb
import Derived.Test.YtjacadiaafcckabDoorTLawFrc
set_option linter.unusedSimpArgs false
set_option linter.unusedVariables false
namespace Go.Proofs.YtjacadiaafcckabDoor
open Go.RowKit Classical
theorem law_timerFrames (cy k j : Int) (w : World) (T : Tabs w) :
    Calls Tryd.prog 5 #[.int .i64 cy, .int .i64 k, .int .i64 j] w fun e w' => e = .returned (.bool true) ∧ Below w.heap.size w w' := by
  by_cases hc : 1 ≤ k % 4294967296
  · exact law_frames_a cy k j w T hc
  by_cases hj : 29828 ≤ hf j % 29830
  · exact law_frames_b cy k j w T hc hj
  · exact law_frames_c cy k j w T hc hj
end Go.Proofs.YtjacadiaafcckabDoor
