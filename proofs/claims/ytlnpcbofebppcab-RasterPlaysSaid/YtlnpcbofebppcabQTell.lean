/-
  The contract of the rule that tells the clock; no condition.
-/
import Derived.Test.YtlnpcbofebppcabQMove
set_option linter.unusedSimpArgs false
set_option linter.unusedVariables false
namespace Go.Proofs.Ytlnpcbofebppcab
open Go.RowKit Classical
set_option maxHeartbeats 2000000 in
theorem tell_any (r : Rs) (c : Bool) (w : World) :
    Calls Try.prog 46 #[.agg (bm r c)] w fun e w' => e = .returned (.agg (bm r r.clk)) ∧ Below w.heap.size w w' := by
  unfold Rs.clk bm
  obtain ⟨line, dot, odd, vbl, nmi, draw, hold⟩ := r
  simp only
  by_cases h1 : dot = 260 <;> by_cases h2 : line < 240 <;> by_cases h3 : line = 261
  all_goals try (exfalso; omega)
  all_goals
    cases draw
    all_goals
      simp only [h1, h2, h3, decide_true, decide_false, Bool.true_and, Bool.false_and, Bool.and_true, Bool.and_false, Bool.or_true, Bool.or_false, Bool.true_or]
      go_enter Try.func46, Try.ntmps46
      go_wp2
      all_goals refine bodyPost_ret (by simp [results, Try.results46, go_sem] <;> assumption) rfl ⟨rfl, ?_⟩
      all_goals exact below_new2 _ _
end Go.Proofs.Ytlnpcbofebppcab
