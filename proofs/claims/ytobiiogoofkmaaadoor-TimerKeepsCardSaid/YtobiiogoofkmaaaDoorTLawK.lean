/-
  The law TimerKeeps returns true; conditions: the tables lie in their variables, the numbers fit their kinds.
-/
import Derived.Test.YtobiiogoofkmaaaDoorTLawKn
import Derived.Test.YtobiiogoofkmaaaDoorTLawKv
set_option linter.unusedSimpArgs false
set_option linter.unusedVariables false
namespace Go.Proofs.YtobiiogoofkmaaaDoor
open Go.RowKit Classical
theorem law_timerKeeps (c : Ck) (a v cy n : Int) (w : World) (o : c.Ok) (T : Tabs w) (a0 : 0 ≤ a) (a1 : a ≤ 65535) (v0 : 0 ≤ v) (v1 : v ≤ 255) (n1 : n ≤ 9223372036854775807) :
    Calls Tryd.prog 3 #[.agg c.cells, .int .u16 a, .int .u8 v, .int .i64 cy, .int .i64 n] w fun e w' => e = .returned (.bool true) ∧ Below w.heap.size w w' := by
  cases hv : c.valid
  · exact keeps_no c a v cy n w o T a0 a1 v0 v1 n1 hv
  · exact keeps_yes c a v cy n w o T a0 a1 v0 v1 n1 hv
end Go.Proofs.YtobiiogoofkmaaaDoor
