/-
  Micro-ops held against each other.
-/
import Derived.Test.YtpnalcbpdejpjaaXcCopy
import Derived.Laws.StructEq
set_option linter.unusedSimpArgs false
set_option linter.unusedVariables false
namespace Go.Proofs.Ytpnalcbpdejpjaa
open Go.RowKit Classical
theorem eqMic0 (w : World) (a0 a1 a2 a3 a4 a5 a6 : Int) :
    (Op.equalIn 10000 54 (.agg #[.int .u8 a0, .int .i64 a1, .int .i64 a2, .int .u16 a3, .int .u8 a4, .int .i64 a5, .int .i64 a6]) (.agg #[.int .u8 a0, .int .i64 a1, .int .i64 a2, .int .u16 a3, .int .u8 a4, .int .i64 a5, .int .i64 a6])).run Try.prog w = .ok true w := by
  have h0 := fun (a b : Int) => run_equalIn_int (P := Try.prog) w 9998 50 .u8 .u8 a b Try.underlying50
  have h1 := fun (a b : Int) => run_equalIn_int (P := Try.prog) w 9998 51 .i64 .i64 a b Try.underlying51
  have h2 := fun (a b : Int) => run_equalIn_int (P := Try.prog) w 9998 52 .i64 .i64 a b Try.underlying52
  have h3 := fun (a b : Int) => run_equalIn_int (P := Try.prog) w 9998 22 .u16 .u16 a b Try.underlying22
  have h4 := fun (a b : Int) => run_equalIn_int (P := Try.prog) w 9998 5 .u8 .u8 a b Try.underlying5
  have h5 := fun (a b : Int) => run_equalIn_int (P := Try.prog) w 9998 3 .i64 .i64 a b Try.underlying3
  have h6 := fun (a b : Int) => run_equalIn_int (P := Try.prog) w 9998 3 .i64 .i64 a b Try.underlying3
  rw [run_equalIn_struct w 9999 54 _ _ (by kernel_rfl) (by kernel_rfl)]
  simp only [Program.fieldsOf, Try.underlying54]
  refine Eq.trans (b := .ok ((a0 == a0) && ((a1 == a1) && ((a2 == a2) && ((a3 == a3) && ((a4 == a4) && ((a5 == a5) && ((a6 == a6) && true))))))) w) ?_ ?_
  · refine eqFields_step w (by simp) (by kernel_rfl) (by kernel_rfl) (h0 _ _) ?_
    refine eqFields_step w (by simp) (by kernel_rfl) (by kernel_rfl) (h1 _ _) ?_
    refine eqFields_step w (by simp) (by kernel_rfl) (by kernel_rfl) (h2 _ _) ?_
    refine eqFields_step w (by simp) (by kernel_rfl) (by kernel_rfl) (h3 _ _) ?_
    refine eqFields_step w (by simp) (by kernel_rfl) (by kernel_rfl) (h4 _ _) ?_
    refine eqFields_step w (by simp) (by kernel_rfl) (by kernel_rfl) (h5 _ _) ?_
    refine eqFields_step w (by simp) (by kernel_rfl) (by kernel_rfl) (h6 _ _) ?_
    rfl
  · simp
theorem neqMic (w : World) (a0 a1 a2 a3 a4 a5 a6 : Int) : (binOp .neq 54 (.agg #[.int .u8 a0, .int .i64 a1, .int .i64 a2, .int .u16 a3, .int .u8 a4, .int .i64 a5, .int .i64 a6]) (.agg #[.int .u8 a0, .int .i64 a1, .int .i64 a2, .int .u16 a3, .int .u8 a4, .int .i64 a5, .int .i64 a6])).run Try.prog w = .ok (.bool false) w := by
  rw [run_neq_struct, eqMic0 w]; rfl
end Go.Proofs.Ytpnalcbpdejpjaa
