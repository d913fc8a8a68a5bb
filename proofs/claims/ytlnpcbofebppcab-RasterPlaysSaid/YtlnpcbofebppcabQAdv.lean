/-
  The contract of Advance; conditions: the numbers fit their kinds.
-/
import Derived.Test.YtlnpcbofebppcabQAdvW
set_option linter.unusedSimpArgs false
set_option linter.unusedVariables false
namespace Go.Proofs.Ytlnpcbofebppcab
open Go.RowKit Classical
theorem adv_any (r : Rs) (n : Int) (w : World) (o : r.Ok) (n0 : -9223372036854775808 ≤ n) (n1 : n ≤ 9223372036854775807) :
    Calls Try.prog 11 #[.agg r.cells, .int .i64 n] w fun e w' => e = .returned (.tuple #[.agg (r.adv n).cells, .int .i64 (r.advK n)]) ∧ Below w.heap.size w w' := by
  by_cases hn : n < 1
  · exact adv_none r n w o n0 n1 hn
  replace hn : 1 ≤ n := by omega
  cases hv : r.valid
  · exact adv_false r n w o n0 n1 hn hv
  cases hd : r.draw
  · by_cases hR : 0 < n / 178684 - 1
    · exact adv_false_far r n w o n0 n1 hn hv hd hR
    · exact adv_false_near r n w o n0 n1 hn hv hd (by omega)
  · by_cases hR : 0 < n / 178683 - 1
    · exact adv_true_far r n w o n0 n1 hn hv hd hR
    · exact adv_true_near r n w o n0 n1 hn hv hd (by omega)
end Go.Proofs.Ytlnpcbofebppcab
