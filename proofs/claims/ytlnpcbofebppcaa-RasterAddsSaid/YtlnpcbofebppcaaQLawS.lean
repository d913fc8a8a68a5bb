/-
  The law RasterAdds returns true; conditions: the numbers fit their kinds.
-/
import Derived.Test.YtlnpcbofebppcaaQLawS0
import Derived.Test.YtlnpcbofebppcaaQLawS1
set_option linter.unusedSimpArgs false
set_option linter.unusedVariables false
namespace Go.Proofs.Ytlnpcbofebppcaa
open Go.RowKit Classical
theorem law_rasterAdds (r : Rs) (a b : Int) (w : World) (o : r.Ok) (a0 : -9223372036854775808 ≤ a) (a1 : a ≤ 9223372036854775807) (b0 : -9223372036854775808 ≤ b) (b1 : b ≤ 9223372036854775807) :
    Calls Try.prog 7 #[.agg r.cells, .int .i64 a, .int .i64 b] w fun e w' => e = .returned (.bool true) ∧ Below w.heap.size w w' := by
  have vX := Rs.adv_v (Rs.nr_v r) (sp a 0 2305843009213693952)
  have mv := Rs.moves vX
  rw [(Rs.dots_three vX).2.2.2.2.2.2.1] at mv
  cases hl : (((r.nr.adv (sp a 0 2305843009213693952)).dn 3).line == (r.nr.adv (sp a 0 2305843009213693952)).line)
  · exact adds_f r a b w o a0 a1 b0 b1 hl
  · refine adds_t r a b w o a0 a1 b0 b1 hl ?_
    have := mv (by simpa using hl)
    simpa using this
end Go.Proofs.Ytlnpcbofebppcaa
