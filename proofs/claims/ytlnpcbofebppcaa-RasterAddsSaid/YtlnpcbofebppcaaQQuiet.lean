/-
  The contract of quiet; conditions: the dot is one of a line's.
-/
import Derived.Test.YtlnpcbofebppcaaQPlace
import Derived.Test.YtlnpcbofebppcaaQMath2
set_option linter.unusedSimpArgs false
set_option linter.unusedVariables false
namespace Go.Proofs.Ytlnpcbofebppcaa
open Go.RowKit Classical
set_option maxHeartbeats 2000000 in
theorem quiet_any (r : Rs) (w : World) (h0 : 0 ≤ r.dot) (h1 : r.dot ≤ 340) :
    Calls Try.prog 28 #[.agg r.cells] w fun e w' => e = .returned (.bool (qt r.dot)) ∧ Below w.heap.size w w' := by
  obtain ⟨line, dot, odd, vbl, nmi, draw, hold⟩ := r
  simp only at h0 h1
  unfold Rs.cells qt
  simp only
  by_cases a : 1 ≤ dot <;> by_cases b : dot + 3 < 260 <;> by_cases c : 260 ≤ dot <;> by_cases d : dot + 3 < 340
  all_goals try (exfalso; omega)
  all_goals
    go_enter Try.func28, Try.ntmps28
    go_wp2
    go_ret
    refine ⟨?_, below_new _⟩
    simp [*]
end Go.Proofs.Ytlnpcbofebppcaa
