/-
  The contract of the document's dot; conditions: the place is one of the screen's.
-/
import Derived.Test.YtlnpcbofebppcabQRDotW
set_option linter.unusedSimpArgs false
set_option linter.unusedVariables false
namespace Go.Proofs.Ytlnpcbofebppcab
open Go.RowKit Classical
set_option maxHeartbeats 2000000 in
theorem rdot_any (r : Rs) (w : World) (h1 : 0 ≤ r.line) (h2 : r.line ≤ 261) (h3 : 0 ≤ r.dot) (h4 : r.dot ≤ 340) :
    Calls Try.prog 41 #[.agg r.cells] w fun e w' => e = .returned (.tuple #[.agg r.d1.cells, .int .i64 (if r.d1.clk = true then 1 else 0)]) ∧ Below w.heap.size w w' := by
  by_cases hd : r.dot = 340
  · exact rdot_a r w h1 h2 h3 h4 hd
  by_cases h0 : r.dot = 0
  · exact rdot_b r w h1 h2 h3 h4 h0
  by_cases h9 : r.dot = 339
  · exact rdot_c r w h1 h2 h3 h4 h9
  by_cases h5 : r.dot = 259
  · exact rdot_d r w h1 h2 h3 h4 h5
  exact rdot_e r w h1 h2 h3 h4 (by omega) (by omega) h5
end Go.Proofs.Ytlnpcbofebppcab
