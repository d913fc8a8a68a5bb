/-
  The contract of the rule that turns the frame; no condition.
-/
import Derived.Test.YtlnpcbofebppcabQMove
set_option linter.unusedSimpArgs false
set_option linter.unusedVariables false
namespace Go.Proofs.Ytlnpcbofebppcab
open Go.RowKit Classical
set_option maxHeartbeats 2000000 in
theorem turn_any (r : Rs) (c : Bool) (w : World) :
    Calls Try.prog 43 #[.agg (bm r c)] w fun e w' => e = .returned (.agg (bm { r with odd := if r.line = 0 ∧ r.dot = 0 then !r.odd else r.odd } c)) ∧ Below w.heap.size w w' := by
  by_cases hl : r.line = 0 <;> by_cases hd : r.dot = 0
  all_goals
    simp only [hl, hd, and_self, and_true, and_false, if_true, if_false]
    unfold bm
    obtain ⟨line, dot, odd, vbl, nmi, draw, hold⟩ := r
    simp only at *
    try subst hl
    try subst hd
    go_enter Try.func43, Try.ntmps43
    go_wp2_with (first
      | (go_at_call 47; refine (is_any _ _ _ _ _ _ _ _ _ _ _).mono ?_; rintro e w1 ⟨rfl, rfl⟩))
    all_goals refine bodyPost_ret (by simp [results, Try.results43, go_sem] <;> assumption) rfl ⟨rfl, ?_⟩
    all_goals exact below_new3 _ _ _
end Go.Proofs.Ytlnpcbofebppcab
