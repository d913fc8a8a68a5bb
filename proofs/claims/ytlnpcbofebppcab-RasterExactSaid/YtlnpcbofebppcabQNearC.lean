/-
  The contract of the laws' near, two ways of it.
-/
import Derived.Test.YtlnpcbofebppcabQNear0
import Derived.Test.YtlnpcbofebppcabQLeaf
set_option linter.unusedSimpArgs false
set_option linter.unusedVariables false
namespace Go.Proofs.Ytlnpcbofebppcab
open Go.RowKit Classical
set_option maxHeartbeats 2000000 in
theorem near_y (line dot : Int) (odd vbl nmi draw hold : Bool) (L D : Int) (w : World) (L0 : 0 ≤ L) (L1 : L ≤ 261) (D0 : 0 ≤ D) (D1 : D ≤ 340) (hc : L = 261) (hc2 : D = 0)
    (SL : Hid (∀ W : World, Calls Try.prog 13 #[.int .i64 line, .int .i64 0, .int .i64 261] W fun e w' => e = .returned (.int .i64 L) ∧ w' = W))
    (SD : Hid (∀ W : World, Calls Try.prog 13 #[.int .i64 dot, .int .i64 0, .int .i64 340] W fun e w' => e = .returned (.int .i64 D) ∧ w' = W)) :
    Calls Try.prog 8 #[.agg #[.int .i64 line, .int .i64 dot, .bool odd, .bool vbl, .bool nmi, .bool draw, .bool hold]] w fun e w' => e = .returned (.agg #[.int .i64 L, .int .i64 D, .bool odd, .bool (vbl && true), .bool nmi, .bool draw, .bool (hold && false)]) ∧ Below w.heap.size w w' := by
  have hA : decide (241 < L) = true := by first | exact decide_eq_true (by omega) | exact decide_eq_false (by omega) | (rw [beq_eq_false_iff_ne]; omega) | (rw [beq_iff_eq]; omega)
  have hF : decide (L < 261) = false := by first | exact decide_eq_true (by omega) | exact decide_eq_false (by omega) | (rw [beq_eq_false_iff_ne]; omega) | (rw [beq_iff_eq]; omega)
  have hB : (L == 241) = false := by first | exact decide_eq_true (by omega) | exact decide_eq_false (by omega) | (rw [beq_eq_false_iff_ne]; omega) | (rw [beq_iff_eq]; omega)
  have hC : (L == 261) = true := by first | exact decide_eq_true (by omega) | exact decide_eq_false (by omega) | (rw [beq_eq_false_iff_ne]; omega) | (rw [beq_iff_eq]; omega)
  have hE : (D == 0) = true := by first | exact decide_eq_true (by omega) | exact decide_eq_false (by omega) | (rw [beq_eq_false_iff_ne]; omega) | (rw [beq_iff_eq]; omega)
  clear hc
  try clear hc2
  cases vbl <;> cases hold
  all_goals
    go_enter Try.func8, Try.ntmps8
    go_upto_region 2 with (go_at_call 13; refine (SL.out _).mono ?_; rintro e w1 ⟨rfl, rfl⟩)
    go_upto_region 3 with (go_at_call 13; refine (SD.out _).mono ?_; rintro e w1 ⟨rfl, rfl⟩)
    go_wp2
    refine bodyPost_ret (by simp [results, Try.results8, go_sem] <;> rfl) rfl ⟨rfl, ?_⟩
    exact below_new2 _ _
set_option maxHeartbeats 2000000 in
theorem near_e (line dot : Int) (odd vbl nmi draw hold : Bool) (L D : Int) (w : World) (L0 : 0 ≤ L) (L1 : L ≤ 261) (D0 : 0 ≤ D) (D1 : D ≤ 340) (hc : L = 261) (hc2 : 0 < D)
    (SL : Hid (∀ W : World, Calls Try.prog 13 #[.int .i64 line, .int .i64 0, .int .i64 261] W fun e w' => e = .returned (.int .i64 L) ∧ w' = W))
    (SD : Hid (∀ W : World, Calls Try.prog 13 #[.int .i64 dot, .int .i64 0, .int .i64 340] W fun e w' => e = .returned (.int .i64 D) ∧ w' = W)) :
    Calls Try.prog 8 #[.agg #[.int .i64 line, .int .i64 dot, .bool odd, .bool vbl, .bool nmi, .bool draw, .bool hold]] w fun e w' => e = .returned (.agg #[.int .i64 L, .int .i64 D, .bool odd, .bool (vbl && false), .bool nmi, .bool draw, .bool (hold && false)]) ∧ Below w.heap.size w w' := by
  have hA : decide (241 < L) = true := by first | exact decide_eq_true (by omega) | exact decide_eq_false (by omega) | (rw [beq_eq_false_iff_ne]; omega) | (rw [beq_iff_eq]; omega)
  have hF : decide (L < 261) = false := by first | exact decide_eq_true (by omega) | exact decide_eq_false (by omega) | (rw [beq_eq_false_iff_ne]; omega) | (rw [beq_iff_eq]; omega)
  have hB : (L == 241) = false := by first | exact decide_eq_true (by omega) | exact decide_eq_false (by omega) | (rw [beq_eq_false_iff_ne]; omega) | (rw [beq_iff_eq]; omega)
  have hC : (L == 261) = true := by first | exact decide_eq_true (by omega) | exact decide_eq_false (by omega) | (rw [beq_eq_false_iff_ne]; omega) | (rw [beq_iff_eq]; omega)
  have hE : (D == 0) = false := by first | exact decide_eq_true (by omega) | exact decide_eq_false (by omega) | (rw [beq_eq_false_iff_ne]; omega) | (rw [beq_iff_eq]; omega)
  clear hc
  try clear hc2
  cases vbl <;> cases hold
  all_goals
    go_enter Try.func8, Try.ntmps8
    go_upto_region 2 with (go_at_call 13; refine (SL.out _).mono ?_; rintro e w1 ⟨rfl, rfl⟩)
    go_upto_region 3 with (go_at_call 13; refine (SD.out _).mono ?_; rintro e w1 ⟨rfl, rfl⟩)
    go_wp2
    refine bodyPost_ret (by simp [results, Try.results8, go_sem] <;> rfl) rfl ⟨rfl, ?_⟩
    exact below_new2 _ _
end Go.Proofs.Ytlnpcbofebppcab
