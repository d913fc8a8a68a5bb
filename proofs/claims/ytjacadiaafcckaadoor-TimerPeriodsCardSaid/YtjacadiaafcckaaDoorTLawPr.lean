/-
  The law TimerPeriods returns true; conditions: the tables lie in their variables.
-/
import Derived.Test.YtjacadiaafcckaaDoorTLawPr0t
import Derived.Test.YtjacadiaafcckaaDoorTLawPr0f
import Derived.Test.YtjacadiaafcckaaDoorTLawPr1
import Derived.Test.YtjacadiaafcckaaDoorTLawPr2
set_option linter.unusedSimpArgs false
set_option linter.unusedVariables false
namespace Go.Proofs.YtjacadiaafcckaaDoor
open Go.RowKit Classical
theorem law_timerPeriods (latch pick k j : Int) (w : World) (T : Tabs w) (l0 : 0 ≤ latch) (l1 : latch ≤ 65535) (p0 : 0 ≤ pick) (p1 : pick ≤ 255) :
    Calls Tryd.prog 8 #[.int .u16 latch, .int .u8 pick, .int .i64 k, .int .i64 j] w fun e w' => e = .returned (.bool true) ∧ Below w.heap.size w w' := by
  by_cases h0 : k % 4294967296 = 0
  · cases hi : ((stC latch (pick % 4) false).adv (k % 4294967296 * ((latch + 1) * dv (8 * (pick % 4))) + hf j % ((latch + 1) * dv (8 * (pick % 4))))).irq
    · exact law_periods_0f latch pick k j w T l0 l1 p0 p1 h0 hi
    · exact law_periods_0t latch pick k j w T l0 l1 p0 p1 h0 hi
  by_cases h1 : k % 4294967296 = 1
  · exact law_periods_1 latch pick k j w T l0 l1 p0 p1 h1
  · exact law_periods_2 latch pick k j w T l0 l1 p0 p1 (by omega)
end Go.Proofs.YtjacadiaafcckaaDoor
