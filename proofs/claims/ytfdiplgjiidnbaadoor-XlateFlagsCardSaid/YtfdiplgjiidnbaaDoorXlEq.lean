/-
  Micro-ops held against each other.
-/
import Derived.Test.YtfdiplgjiidnbaaDoorXlTr
import Derived.Test.YtfdiplgjiidnbaaDoorXlSpan
import Derived.Laws.StructEq
set_option linter.unusedSimpArgs false
set_option linter.unusedVariables false
namespace Go.Proofs.YtfdiplgjiidnbaaDoor
open Go.RowKit Classical
section
variable {P : Program} (w : World)
theorem eqFields_step {d : Nat} {xs ys : Array Value} {f : Field} {fs : List Field} {a b : Value} {r r' : Bool} (hn : (f.name ≠ "_") = True) (hx : (part f.type xs f.offset).run P w = .ok a w) (hy : (part f.type ys f.offset).run P w = .ok b w)
    (he : (Op.equalIn d f.type a b).run P w = .ok r w) (hr : (Op.eqFields d xs ys fs).run P w = .ok r' w) : (Op.eqFields d xs ys (f :: fs)).run P w = .ok (r && r') w := by
  simp only [Op.eqFields, hn, if_true, Sem.run_bind, hx, hy, he, Result.andThen_ok]
  cases r
  · simp
  · simpa using hr
end
theorem eqMic0 (w : World) (a0 a1 a2 a3 a4 a5 a6 : Int) :
    (Op.equalIn 10000 35 (.agg #[.int .u8 a0, .int .i64 a1, .int .i64 a2, .int .u16 a3, .int .u8 a4, .int .i64 a5, .int .i64 a6]) (.agg #[.int .u8 a0, .int .i64 a1, .int .i64 a2, .int .u16 a3, .int .u8 a4, .int .i64 a5, .int .i64 a6])).run Tryd.prog w = .ok true w := by
  have h0 := fun (a b : Int) => run_equalIn_int (P := Tryd.prog) w 9998 31 .u8 .u8 a b Tryd.underlying31
  have h1 := fun (a b : Int) => run_equalIn_int (P := Tryd.prog) w 9998 32 .i64 .i64 a b Tryd.underlying32
  have h2 := fun (a b : Int) => run_equalIn_int (P := Tryd.prog) w 9998 33 .i64 .i64 a b Tryd.underlying33
  have h3 := fun (a b : Int) => run_equalIn_int (P := Tryd.prog) w 9998 22 .u16 .u16 a b Tryd.underlying22
  have h4 := fun (a b : Int) => run_equalIn_int (P := Tryd.prog) w 9998 5 .u8 .u8 a b Tryd.underlying5
  have h5 := fun (a b : Int) => run_equalIn_int (P := Tryd.prog) w 9998 3 .i64 .i64 a b Tryd.underlying3
  have h6 := fun (a b : Int) => run_equalIn_int (P := Tryd.prog) w 9998 3 .i64 .i64 a b Tryd.underlying3
  rw [run_equalIn_struct w 9999 35 _ _ (by kernel_rfl) (by kernel_rfl)]
  simp only [Program.fieldsOf, Tryd.underlying35]
  refine Eq.trans (b := .ok ((a0 == a0) && ((a1 == a1) && ((a2 == a2) && ((a3 == a3) && ((a4 == a4) && ((a5 == a5) && ((a6 == a6) && true))))))) w) ?_ ?_
  · refine eqFields_step w (by simp) (by kernel_rfl) (by kernel_rfl) (h0 _ _) ?_
    refine eqFields_step w (by simp) (by kernel_rfl) (by kernel_rfl) (h1 _ _) ?_
    refine eqFields_step w (by simp) (by kernel_rfl) (by kernel_rfl) (h2 _ _) ?_
    refine eqFields_step w (by simp) (by kernel_rfl) (by kernel_rfl) (h3 _ _) ?_
    refine eqFields_step w (by simp) (by kernel_rfl) (by kernel_rfl) (h4 _ _) ?_
    refine eqFields_step w (by simp) (by kernel_rfl) (by kernel_rfl) (h5 _ _) ?_
    refine eqFields_step w (by simp) (by kernel_rfl) (by kernel_rfl) (h6 _ _) ?_
    rfl
  · simp
theorem neqMic (w : World) (a0 a1 a2 a3 a4 a5 a6 : Int) : (binOp .neq 35 (.agg #[.int .u8 a0, .int .i64 a1, .int .i64 a2, .int .u16 a3, .int .u8 a4, .int .i64 a5, .int .i64 a6]) (.agg #[.int .u8 a0, .int .i64 a1, .int .i64 a2, .int .u16 a3, .int .u8 a4, .int .i64 a5, .int .i64 a6])).run Tryd.prog w = .ok (.bool false) w := by
  rw [run_neq_struct, eqMic0 w]; rfl
end Go.Proofs.YtfdiplgjiidnbaaDoor
