/-
  The document's dot elsewhere.
-/
import Derived.Test.YtlnpcbofebppcabQLeaf
import Derived.Test.YtlnpcbofebppcabQLaw0
import Derived.Test.YtlnpcbofebppcabQMath2
set_option linter.unusedSimpArgs false
set_option linter.unusedVariables false
namespace Go.Proofs.Ytlnpcbofebppcab
open Go.RowKit
set_option maxHeartbeats 2000000 in
theorem rdot_e (r : Rs) (w : World) (h1 : 0 ≤ r.line) (h2 : r.line ≤ 261) (h3 : 0 ≤ r.dot) (h4 : r.dot ≤ 340) (h01 : 1 ≤ r.dot) (h9 : r.dot < 339) (h5 : r.dot ≠ 259) :
    Calls Try.prog 41 #[.agg r.cells] w fun e w' => e = .returned (.tuple #[.agg r.d1.cells, .int .i64 (if r.d1.clk = true then 1 else 0)]) ∧ Below w.heap.size w w' := by
  have hd3 : r.dot < 340 := by omega
  have h6 : r.dot + 1 ≠ 260 := by omega
  have e : r.d1 = ⟨r.line, r.dot + 1, r.odd, r.vbl, r.nmi, r.draw, r.hold⟩ := Rs.d1_plain h01 h9
  have e2 : r.d1.clk = false := by rw [e]; exact Rs.clk_plain h6
  rw [e2, e]
  clear e e2
  unfold Rs.cells
  obtain ⟨line, dot, odd, vbl, nmi, draw, hold⟩ := r
  simp only at *
  have h1b : (dot == 339) = false := by simpa using (show ¬ dot = 339 by omega)
  have h2b : (dot + 1 == 260) = false := by simpa using h6
  go_enter Try.func41, Try.ntmps41
  go_wp2
  all_goals refine bodyPost_ret (by simp [results, Try.results41, go_sem] <;> assumption) rfl ⟨rfl, ?_⟩
  all_goals exact below_new2 _ _
end Go.Proofs.Ytlnpcbofebppcab
