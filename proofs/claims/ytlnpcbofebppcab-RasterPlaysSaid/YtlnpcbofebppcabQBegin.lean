/-
  The contract of the rule that begins the blank; no condition.
-/
import Derived.Test.YtlnpcbofebppcabQMove
set_option linter.unusedSimpArgs false
set_option linter.unusedVariables false
namespace Go.Proofs.Ytlnpcbofebppcab
open Go.RowKit Classical
set_option maxHeartbeats 2000000 in
theorem begin_any (r : Rs) (c : Bool) (w : World) :
    Calls Try.prog 44 #[.agg (bm r c)] w fun e w' => e = .returned (.agg (bm { r with vbl := if r.line = 241 ∧ r.dot = 1 then r.vbl || !r.hold else r.vbl, hold := if r.line = 241 ∧ r.dot = 1 then false else r.hold } c)) ∧ Below w.heap.size w w' := by
  by_cases hl : r.line = 241 <;> by_cases hd : r.dot = 1
  all_goals
    simp only [hl, hd, and_self, and_true, and_false, if_true, if_false]
    unfold bm
    obtain ⟨line, dot, odd, vbl, nmi, draw, hold⟩ := r
    simp only at *
    try subst hl
    try subst hd
    try (cases vbl <;> cases hold)
    all_goals
      go_enter Try.func44, Try.ntmps44
    go_wp2_with (first
      | (go_at_call 47; refine (is_any _ _ _ _ _ _ _ _ _ _ _).mono ?_; rintro e w1 ⟨rfl, rfl⟩))
    all_goals refine bodyPost_ret (by simp [results, Try.results44, go_sem] <;> assumption) rfl ⟨rfl, ?_⟩
    all_goals exact below_new3 _ _ _
end Go.Proofs.Ytlnpcbofebppcab
