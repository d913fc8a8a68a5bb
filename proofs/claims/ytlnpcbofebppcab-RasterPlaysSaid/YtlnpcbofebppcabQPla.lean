/-
  The rasters that a play goes through are valid.
-/
import Derived.Test.YtlnpcbofebppcabQExa
import Derived.Test.YtlnpcbofebppcabQTog
import Derived.Test.YtlnpcbofebppcabQRac
set_option linter.unusedSimpArgs false
set_option linter.unusedVariables false
namespace Go.Proofs.Ytlnpcbofebppcab
open Go.RowKit Classical
theorem Rs.stat_v {r : Rs} (v : r.V) : r.stat.V := by
  rw [(Rs.stat_of v).1]
  refine ⟨v.l0, v.l1, v.d0, v.d1, fun h => absurd (show false = true from h) (by decide), fun h => ?_⟩
  have h1 : (r.hold || decide (r.line * 341 + r.dot = 82181)) = true := h
  simp only [Bool.or_eq_true, decide_eq_true_eq] at h1
  rcases h1 with h1 | h1
  · exact v.hold h1
  · exact h1
end Go.Proofs.Ytlnpcbofebppcab
