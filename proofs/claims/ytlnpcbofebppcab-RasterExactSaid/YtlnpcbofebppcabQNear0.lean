/-
  What the laws' near answers; no condition.
-/
import Derived.Test.YtlnpcbofebppcabQSpan
set_option linter.unusedSimpArgs false
set_option linter.unusedVariables false
namespace Go.Proofs.Ytlnpcbofebppcab
open Go.RowKit Classical
/-- A valid raster near r. -/
def late (l d : Int) : Bool := (decide (241 < l) && decide (l < 261)) || (decide (l = 241) && decide (0 < d)) || (decide (l = 261) && decide (d = 0))
def Rs.nr (r : Rs) : Rs := { r with line := sp r.line 0 261, dot := sp r.dot 0 340, vbl := r.vbl && late (sp r.line 0 261) (sp r.dot 0 340), hold := r.hold && (decide (sp r.line 0 261 = 241) && decide (sp r.dot 0 340 = 0)) }
theorem Rs.nr_v (r : Rs) : r.nr.V := by
  have hl := sp_bd r.line 0 261 (by omega)
  have hd := sp_bd r.dot 0 340 (by omega)
  refine ⟨hl.1, hl.2, hd.1, hd.2, fun h => ?_, fun h => ?_⟩
  · have h1 : (r.vbl && late (sp r.line 0 261) (sp r.dot 0 340)) = true := h
    unfold late at h1
    simp only [Bool.and_eq_true, Bool.or_eq_true, decide_eq_true_eq] at h1
    show 82182 ≤ sp r.line 0 261 * 341 + sp r.dot 0 340 ∧ sp r.line 0 261 * 341 + sp r.dot 0 340 < 89002
    omega
  · have h1 : (r.hold && (decide (sp r.line 0 261 = 241) && decide (sp r.dot 0 340 = 0))) = true := h
    simp only [Bool.and_eq_true, decide_eq_true_eq] at h1
    show sp r.line 0 261 * 341 + sp r.dot 0 340 = 82181
    omega
end Go.Proofs.Ytlnpcbofebppcab
