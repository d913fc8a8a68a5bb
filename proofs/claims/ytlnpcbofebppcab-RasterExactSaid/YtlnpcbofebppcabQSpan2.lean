/-
  span again, as the laws want it.
-/
import Derived.Test.YtlnpcbofebppcabQSpan
set_option linter.unusedSimpArgs false
set_option linter.unusedVariables false
namespace Go.Proofs.Ytlnpcbofebppcab
open Go.RowKit Classical
theorem span_low (n lo hi : Int) (w : World) (n0 : -9223372036854775808 ≤ n) (n1 : n ≤ 9223372036854775807) (l0 : 0 ≤ lo) (l1 : lo ≤ hi) (h1 : hi ≤ 4611686018427387904) :
    Calls Try.prog 13 #[.int .i64 n, .int .i64 lo, .int .i64 hi] w fun e w' => e = .returned (.int .i64 (sp n lo hi)) ∧ Below w.heap.size w w' :=
  (span_any n lo hi w n0 n1 l0 l1 h1).mono fun e w' ⟨he, hw⟩ => ⟨he, by subst hw; exact Below.refl _ _⟩
end Go.Proofs.Ytlnpcbofebppcab
