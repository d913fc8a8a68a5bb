/-
  The law RasterLines returns true; conditions: the numbers fit their kinds.
-/
import Derived.Test.YtlnpcbofebppcabQLawL0
import Derived.Test.YtlnpcbofebppcabQLawL1
set_option linter.unusedSimpArgs false
set_option linter.unusedVariables false
namespace Go.Proofs.Ytlnpcbofebppcab
open Go.RowKit Classical
theorem law_rasterLines (r : Rs) (w : World) (o : r.Ok) :
    Calls Try.prog 3 #[.agg r.cells] w fun e w' => e = .returned (.bool true) ∧ Below w.heap.size w w' := by
  cases h : r.nr.vbl
  · exact lines_f r w o h
  · exact lines_t r w o h
end Go.Proofs.Ytlnpcbofebppcab
