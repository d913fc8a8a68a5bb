/-
  Two rows of the table held against each other, field by field.
-/
import Derived.Test.YtebnapgnnflnhaaDoorRows
import Derived.WalkKit
import Derived.WalkSpells
import Derived.WalkLawsBesides
import Derived.Laws.StructEq
set_option linter.unusedSimpArgs false
set_option linter.unusedVariables false
namespace Go.Proofs.YtebnapgnnflnhaaDoor
open Go.RowKit
section
variable {P : Program} (w : World)
theorem eqFields_step {d : Nat} {xs ys : Array Value} {f : Field} {fs : List Field} {a b : Value} {r r' : Bool} (hn : (f.name ≠ "_") = True) (hx : (part f.type xs f.offset).run P w = .ok a w) (hy : (part f.type ys f.offset).run P w = .ok b w)
    (he : (Op.equalIn d f.type a b).run P w = .ok r w) (hr : (Op.eqFields d xs ys fs).run P w = .ok r' w) : (Op.eqFields d xs ys (f :: fs)).run P w = .ok (r && r') w := by
  simp only [Op.eqFields, hn, if_true, Sem.run_bind, hx, hy, he, Result.andThen_ok]
  cases r
  · simp
  · simpa using hr
end
theorem eqRow0 (w : World) (a0 a1 a2 c0 c1 c2 : Int) :
    (Op.equalIn 10000 35 (.agg #[.int .i64 a0, .int .i64 a1, .int .i64 a2]) (.agg #[.int .i64 c0, .int .i64 c1, .int .i64 c2])).run Tryd.prog w = .ok ((a0 == c0) && ((a1 == c1) && ((a2 == c2) && true))) w := by
  have h1 := fun (a b : Int) => run_equalIn_int (P := Tryd.prog) w 9998 33 .i64 .i64 a b Tryd.underlying33
  have h2 := fun (a b : Int) => run_equalIn_int (P := Tryd.prog) w 9998 31 .i64 .i64 a b Tryd.underlying31
  have h3 := fun (a b : Int) => run_equalIn_int (P := Tryd.prog) w 9998 3 .i64 .i64 a b Tryd.underlying3
  rw [run_equalIn_struct w 9999 35 _ _ (by kernel_rfl) (by kernel_rfl)]
  simp only [Program.fieldsOf, Tryd.underlying35]
  refine eqFields_step w (by simp) (by kernel_rfl) (by kernel_rfl) (h1 _ _) ?_
  refine eqFields_step w (by simp) (by kernel_rfl) (by kernel_rfl) (h2 _ _) ?_
  refine eqFields_step w (by simp) (by kernel_rfl) (by kernel_rfl) (h3 _ _) ?_
  rfl
theorem eqRow (w : World) (a0 a1 a2 c0 c1 c2 : Int) :
    (binOp .eql 35 (.agg #[.int .i64 a0, .int .i64 a1, .int .i64 a2]) (.agg #[.int .i64 c0, .int .i64 c1, .int .i64 c2])).run Tryd.prog w = .ok (.bool ((a0 == c0) && ((a1 == c1) && (a2 == c2)))) w := by
  rw [run_eql_struct, eqRow0]
  simp [Result.andThen]
end Go.Proofs.YtebnapgnnflnhaaDoor
