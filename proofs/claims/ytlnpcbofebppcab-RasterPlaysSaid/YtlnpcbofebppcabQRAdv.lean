/-
  The contract of the document's Advance; conditions: the numbers fit their kinds.
-/
import Derived.Test.YtlnpcbofebppcabQRAdvW
set_option linter.unusedSimpArgs false
set_option linter.unusedVariables false
namespace Go.Proofs.Ytlnpcbofebppcab
open Go.RowKit Classical
theorem radv_any (r : Rs) (n : Int) (w : World) (o : r.Ok) (n0 : -9223372036854775808 ≤ n) (n1 : n ≤ 9223372036854775807) :
    Calls Try.prog 19 #[.agg r.cells, .int .i64 n] w fun e w' => e = .returned (.tuple #[.agg (r.adv n).cells, .int .i64 (r.advK n)]) ∧ Below w.heap.size w w' := by
  cases hv : r.valid
  · exact radv_false r n w o n0 n1 hv
  by_cases hn : n < 1
  · exact radv_none_true r n w o n0 n1 hn hv
  replace hn : 1 ≤ n := by omega
  cases hd : r.draw
  · by_cases hR : 357368 < n
    · exact radv_false_far r n w o n0 n1 hn hv hd hR
    · exact radv_false_near r n w o n0 n1 hn hv hd (by omega)
  · by_cases hR : 119122 < n
    · exact radv_true_far r n w o n0 n1 hn hv hd hR
    · exact radv_true_near r n w o n0 n1 hn hv hd (by omega)
end Go.Proofs.Ytlnpcbofebppcab
