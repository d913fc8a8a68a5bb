/-
  An array of eight numbers read at the upper three bits of a byte.
-/
import Derived.Test.YtfdiplgjiidnbaaDoorIMode
set_option linter.unusedSimpArgs false
set_option linter.unusedVariables false
namespace Go.Proofs.YtfdiplgjiidnbaaDoor
open Go.RowKit
def ix8 (a0 a1 a2 a3 a4 a5 a6 a7 : Int) (k : Nat) : Int := [a0, a1, a2, a3, a4, a5, a6, a7].getD (k / 32) 0
theorem ix8_0 (a0 a1 a2 a3 a4 a5 a6 a7 : Int) (w : World) : Sem.run Tryd.prog (Instr.index 110 (.agg #[.int .i64 a0, .int .i64 a1, .int .i64 a2, .int .i64 a3, .int .i64 a4, .int .i64 a5, .int .i64 a6, .int .i64 a7]) (.int .u8 (0 : Int))) w = .ok (.int .i64 a0) w := by kernel_rfl
theorem ix8_1 (a0 a1 a2 a3 a4 a5 a6 a7 : Int) (w : World) : Sem.run Tryd.prog (Instr.index 110 (.agg #[.int .i64 a0, .int .i64 a1, .int .i64 a2, .int .i64 a3, .int .i64 a4, .int .i64 a5, .int .i64 a6, .int .i64 a7]) (.int .u8 (1 : Int))) w = .ok (.int .i64 a1) w := by kernel_rfl
theorem ix8_2 (a0 a1 a2 a3 a4 a5 a6 a7 : Int) (w : World) : Sem.run Tryd.prog (Instr.index 110 (.agg #[.int .i64 a0, .int .i64 a1, .int .i64 a2, .int .i64 a3, .int .i64 a4, .int .i64 a5, .int .i64 a6, .int .i64 a7]) (.int .u8 (2 : Int))) w = .ok (.int .i64 a2) w := by kernel_rfl
theorem ix8_3 (a0 a1 a2 a3 a4 a5 a6 a7 : Int) (w : World) : Sem.run Tryd.prog (Instr.index 110 (.agg #[.int .i64 a0, .int .i64 a1, .int .i64 a2, .int .i64 a3, .int .i64 a4, .int .i64 a5, .int .i64 a6, .int .i64 a7]) (.int .u8 (3 : Int))) w = .ok (.int .i64 a3) w := by kernel_rfl
theorem ix8_4 (a0 a1 a2 a3 a4 a5 a6 a7 : Int) (w : World) : Sem.run Tryd.prog (Instr.index 110 (.agg #[.int .i64 a0, .int .i64 a1, .int .i64 a2, .int .i64 a3, .int .i64 a4, .int .i64 a5, .int .i64 a6, .int .i64 a7]) (.int .u8 (4 : Int))) w = .ok (.int .i64 a4) w := by kernel_rfl
theorem ix8_5 (a0 a1 a2 a3 a4 a5 a6 a7 : Int) (w : World) : Sem.run Tryd.prog (Instr.index 110 (.agg #[.int .i64 a0, .int .i64 a1, .int .i64 a2, .int .i64 a3, .int .i64 a4, .int .i64 a5, .int .i64 a6, .int .i64 a7]) (.int .u8 (5 : Int))) w = .ok (.int .i64 a5) w := by kernel_rfl
theorem ix8_6 (a0 a1 a2 a3 a4 a5 a6 a7 : Int) (w : World) : Sem.run Tryd.prog (Instr.index 110 (.agg #[.int .i64 a0, .int .i64 a1, .int .i64 a2, .int .i64 a3, .int .i64 a4, .int .i64 a5, .int .i64 a6, .int .i64 a7]) (.int .u8 (6 : Int))) w = .ok (.int .i64 a6) w := by kernel_rfl
theorem ix8_7 (a0 a1 a2 a3 a4 a5 a6 a7 : Int) (w : World) : Sem.run Tryd.prog (Instr.index 110 (.agg #[.int .i64 a0, .int .i64 a1, .int .i64 a2, .int .i64 a3, .int .i64 a4, .int .i64 a5, .int .i64 a6, .int .i64 a7]) (.int .u8 (7 : Int))) w = .ok (.int .i64 a7) w := by kernel_rfl
theorem ix8_run (k : Nat) (hk : k < 256) (a0 a1 a2 a3 a4 a5 a6 a7 : Int) (w : World) :
    Sem.run Tryd.prog (Instr.index 110 (.agg #[.int .i64 a0, .int .i64 a1, .int .i64 a2, .int .i64 a3, .int .i64 a4, .int .i64 a5, .int .i64 a6, .int .i64 a7]) (.int .u8 ((k : Int) / 32))) w = .ok (.int .i64 (ix8 a0 a1 a2 a3 a4 a5 a6 a7 k)) w := by
  have hs : k / 32 = 0 ∨ k / 32 = 1 ∨ k / 32 = 2 ∨ k / 32 = 3 ∨ k / 32 = 4 ∨ k / 32 = 5 ∨ k / 32 = 6 ∨ k / 32 = 7 := by omega
  have e : (k : Int) / 32 = ((k / 32 : Nat) : Int) := by omega
  rw [e]
  unfold ix8
  rcases hs with h | h | h | h | h | h | h | h
  · rw [h]; exact ix8_0 a0 a1 a2 a3 a4 a5 a6 a7 w
  · rw [h]; exact ix8_1 a0 a1 a2 a3 a4 a5 a6 a7 w
  · rw [h]; exact ix8_2 a0 a1 a2 a3 a4 a5 a6 a7 w
  · rw [h]; exact ix8_3 a0 a1 a2 a3 a4 a5 a6 a7 w
  · rw [h]; exact ix8_4 a0 a1 a2 a3 a4 a5 a6 a7 w
  · rw [h]; exact ix8_5 a0 a1 a2 a3 a4 a5 a6 a7 w
  · rw [h]; exact ix8_6 a0 a1 a2 a3 a4 a5 a6 a7 w
  · rw [h]; exact ix8_7 a0 a1 a2 a3 a4 a5 a6 a7 w
end Go.Proofs.YtfdiplgjiidnbaaDoor
