/-
  The law RasterFrames returns true; conditions: the numbers fit their kinds.
-/
import Derived.Test.YtlnpcbofebppcaaQLawF0
import Derived.Test.YtlnpcbofebppcaaQLawF1
set_option linter.unusedSimpArgs false
set_option linter.unusedVariables false
namespace Go.Proofs.Ytlnpcbofebppcaa
open Go.RowKit Classical
theorem law_rasterFrames (r : Rs) (w : World) (o : r.Ok) :
    Calls Try.prog 6 #[.agg r.cells] w fun e w' => e = .returned (.bool true) ∧ Below w.heap.size w w' := by
  by_cases h : r.nr.line = 261 ∧ r.nr.dot = 340
  · exact frames_corner r w o (Rs.nr_v r) h.1 h.2
  · exact frames_else r w o (Rs.nr_v r) h
end Go.Proofs.Ytlnpcbofebppcaa
