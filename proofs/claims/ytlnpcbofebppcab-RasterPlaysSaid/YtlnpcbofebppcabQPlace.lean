/-
  The contracts of inBlank, lengthOf, pairOf, quiet; no condition but where it is said.
-/
import Derived.Test.YtlnpcbofebppcabQLeaf
import Derived.Test.YtlnpcbofebppcabQLaw0
set_option linter.unusedSimpArgs false
set_option linter.unusedVariables false
namespace Go.Proofs.Ytlnpcbofebppcab
open Go.RowKit Classical
/-- The blank's places. -/
def inB (n : Int) : Bool := decide (82182 ≤ n) && decide (n < 89002)
theorem inBlank_any (n : Int) (w : World) :
    Calls Try.prog 39 #[.int .i64 n] w fun e w' => e = .returned (.bool (inB n)) ∧ w' = w := by
  unfold inB
  by_cases h1 : 82182 ≤ n <;> by_cases h2 : n < 89002
  all_goals
    go_enter Try.func39, Try.ntmps39
    go_wp2
    go_ret
    simp [*]
theorem length_any (r : Rs) (w : World) :
    Calls Try.prog 29 #[.agg r.cells] w fun e w' => e = .returned (.int .i64 r.len) ∧ w' = w.alloc (.cells r.cells 23) := by
  obtain ⟨line, dot, odd, vbl, nmi, draw, hold⟩ := r
  unfold Rs.cells Rs.len
  simp only
  cases odd <;> cases draw
  all_goals
    simp only [and_self, and_true, and_false, if_true, if_false, reduceCtorEq]
    go_enter Try.func29, Try.ntmps29
    go_wp2
    go_ret
    exact ⟨rfl, rfl⟩
theorem pairOf_any (r : Rs) (w : World) :
    Calls Try.prog 30 #[.agg r.cells] w fun e w' => e = .returned (.int .i64 r.pair) ∧ w' = w.alloc (.cells r.cells 23) := by
  obtain ⟨line, dot, odd, vbl, nmi, draw, hold⟩ := r
  unfold Rs.cells Rs.pair
  simp only
  cases draw
  all_goals
    simp only [if_true, if_false, reduceCtorEq]
    go_enter Try.func30, Try.ntmps30
    go_wp2
    go_ret
    exact ⟨rfl, rfl⟩
theorem Rs.pl_eq {r : Rs} (v : r.V) : (if r.line * 341 + r.dot ≤ r.len - 1 then r.line * 341 + r.dot else r.len - 1) = r.pl := by
  unfold Rs.pl
  split <;> omega
end Go.Proofs.Ytlnpcbofebppcab
