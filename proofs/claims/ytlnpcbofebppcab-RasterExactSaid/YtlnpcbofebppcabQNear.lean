/-
  The contract of the laws' near; conditions: the numbers fit their kinds.
-/
import Derived.Test.YtlnpcbofebppcabQNearA
import Derived.Test.YtlnpcbofebppcabQNearB
import Derived.Test.YtlnpcbofebppcabQNearC
set_option linter.unusedSimpArgs false
set_option linter.unusedVariables false
namespace Go.Proofs.Ytlnpcbofebppcab
open Go.RowKit Classical
theorem near_any (r : Rs) (w : World) (o : r.Ok) :
    Calls Try.prog 8 #[.agg r.cells] w fun e w' => e = .returned (.agg r.nr.cells) ∧ Below w.heap.size w w' := by
  have hl := sp_bd r.line 0 261 (by omega)
  have hd := sp_bd r.dot 0 340 (by omega)
  have SL : Hid (∀ W : World, Calls Try.prog 13 #[.int .i64 r.line, .int .i64 0, .int .i64 261] W fun e w' => e = .returned (.int .i64 (sp r.line 0 261)) ∧ w' = W) := fun W => span_any r.line 0 261 W o.line.1 o.line.2 (by omega) (by omega) (by omega)
  have SD : Hid (∀ W : World, Calls Try.prog 13 #[.int .i64 r.dot, .int .i64 0, .int .i64 340] W fun e w' => e = .returned (.int .i64 (sp r.dot 0 340)) ∧ w' = W) := fun W => span_any r.dot 0 340 W o.dot.1 o.dot.2 (by omega) (by omega) (by omega)
  obtain ⟨line, dot, odd, vbl, nmi, draw, hold⟩ := r
  unfold Rs.nr Rs.cells
  simp only at *
  generalize sp line 0 261 = L at *
  generalize sp dot 0 340 = D at *
  obtain ⟨L0, L1⟩ := hl
  obtain ⟨D0, D1⟩ := hd
  by_cases h1 : L < 241
  · have e1 : late L D = false := by unfold late; simp only [decide_eq_false (show ¬ 241 < L by omega), decide_eq_false (show ¬ L = 241 by omega), decide_eq_false (show ¬ L = 261 by omega), Bool.false_and, Bool.or_false]
    have e2 : (decide (L = 241) && decide (D = 0)) = false := by rw [decide_eq_false (show ¬ L = 241 by omega)]; rfl
    rw [e1, e2]
    exact near_lt line dot odd vbl nmi draw hold L D w L0 L1 D0 D1 h1 SL SD
  by_cases h2 : L = 241
  · by_cases h3 : D = 0
    · have e1 : late L D = false := by subst h2 h3; decide
      have e2 : (decide (L = 241) && decide (D = 0)) = true := by subst h2 h3; decide
      rw [e1, e2]
      exact near_z line dot odd vbl nmi draw hold L D w L0 L1 D0 D1 h2 h3 SL SD
    · have e1 : late L D = true := by unfold late; simp [h2]; omega
      have e2 : (decide (L = 241) && decide (D = 0)) = false := by simp [h3]
      rw [e1, e2]
      exact near_p line dot odd vbl nmi draw hold L D w L0 L1 D0 D1 h2 (by omega) SL SD
  have e2 : (decide (L = 241) && decide (D = 0)) = false := by simp [h2]
  rw [e2]
  by_cases h4 : L < 261
  · have e1 : late L D = true := by unfold late; simp [h4]; omega
    rw [e1]
    exact near_m line dot odd vbl nmi draw hold L D w L0 L1 D0 D1 (by omega) h4 SL SD
  have h5 : L = 261 := by omega
  by_cases h6 : D = 0
  · have e1 : late L D = true := by subst h5 h6; decide
    rw [e1]
    exact near_y line dot odd vbl nmi draw hold L D w L0 L1 D0 D1 h5 h6 SL SD
  · have e1 : late L D = false := by unfold late; simp [h5, h6]
    rw [e1]
    exact near_e line dot odd vbl nmi draw hold L D w L0 L1 D0 D1 h5 (by omega) SL SD
end Go.Proofs.Ytlnpcbofebppcab
