/-
  The contract of quiet; conditions: the dot is one of a line's.
-/
import Derived.Test.YtlnpcbofebppcabQPlace
import Derived.Test.YtlnpcbofebppcabQMath2
set_option linter.unusedSimpArgs false
set_option linter.unusedVariables false
namespace Go.Proofs.Ytlnpcbofebppcab
open Go.RowKit Classical
set_option maxHeartbeats 2000000 in
theorem quiet_any (r : Rs) (w : World) (h0 : 0 ≤ r.dot) (h1 : r.dot ≤ 340) :
    Calls Try.prog 37 #[.agg r.cells] w fun e w' => e = .returned (.bool (qt r.dot)) ∧ Below w.heap.size w w' := by
  obtain ⟨line, dot, odd, vbl, nmi, draw, hold⟩ := r
  simp only at h0 h1
  unfold Rs.cells qt
  simp only
  by_cases a : 1 ≤ dot <;> by_cases b : dot + 3 < 260 <;> by_cases c : 260 ≤ dot <;> by_cases d : dot + 3 < 340
  all_goals try (exfalso; omega)
  all_goals
    go_enter Try.func37, Try.ntmps37
    go_wp2
    go_ret
    refine ⟨?_, below_new _⟩
    simp [*]
end Go.Proofs.Ytlnpcbofebppcab
