/-
  The contract of the laws' span; conditions: the numbers fit, the bounds are in order.
-/
import Derived.Test.YtlnpcbofebppcabQSt2
import Derived.Test.YtlnpcbofebppcabQMath5
set_option linter.unusedSimpArgs false
set_option linter.unusedVariables false
namespace Go.Proofs.Ytlnpcbofebppcab
open Go.RowKit Classical
/-- A number laid between two others. -/
def sp (n lo hi : Int) : Int := lo + (if n < 0 then -(n + 1) else n) % (hi - lo + 1)
theorem sp_bd (n lo hi : Int) (h : lo ≤ hi) : lo ≤ sp n lo hi ∧ sp n lo hi ≤ hi := by
  unfold sp
  have h1 := Int.emod_nonneg (if n < 0 then -(n + 1) else n) (b := hi - lo + 1) (by omega)
  have h2 := Int.emod_lt_of_pos (if n < 0 then -(n + 1) else n) (b := hi - lo + 1) (by omega)
  omega
set_option maxHeartbeats 2000000 in
theorem span_any (n lo hi : Int) (w : World) (n0 : -9223372036854775808 ≤ n) (n1 : n ≤ 9223372036854775807) (l0 : 0 ≤ lo) (l1 : lo ≤ hi) (h1 : hi ≤ 4611686018427387904) :
    Calls Try.prog 13 #[.int .i64 n, .int .i64 lo, .int .i64 hi] w fun e w' => e = .returned (.int .i64 (sp n lo hi)) ∧ w' = w := by
  have hz : (hi - lo + 1 == 0) = false := by simpa using (show ¬ hi - lo + 1 = 0 by omega)
  have hz' : ¬ hi - lo + 1 = 0 := by omega
  by_cases hn : n < 0
  · have ez : Hid (sp n lo hi = lo + -(n + 1) % (hi - lo + 1)) := by show sp n lo hi = _; unfold sp; rw [if_pos hn]
    have e1 : (-(n + 1)).tmod (hi - lo + 1) = -(n + 1) % (hi - lo + 1) := Int.tmod_eq_emod_of_nonneg (by omega)
    have m0 := Int.emod_nonneg (-(n + 1)) (b := hi - lo + 1) (by omega)
    have m1 := Int.emod_lt_of_pos (-(n + 1)) (b := hi - lo + 1) (by omega)
    have c1 : 0 ≤ hi - lo + 1 := by omega
    have c2 : hi - lo + 1 ≤ 4611686018427387905 := by omega
    have nb : 0 ≤ -(n + 1) := by omega
    have nb1 : -(n + 1) ≤ 9223372036854775807 := by omega
    go_enter Try.func13, Try.ntmps13
    go_upto_region 3 with fail
    generalize -(n + 1) = m at *
    go_wp2
    go_ret
    exact ⟨congrArg (fun x => Ending.returned (.int .i64 x)) ez.out.symm, rfl⟩
  · have ez : Hid (sp n lo hi = lo + n % (hi - lo + 1)) := by show sp n lo hi = _; unfold sp; rw [if_neg hn]
    have e1 : n.tmod (hi - lo + 1) = n % (hi - lo + 1) := Int.tmod_eq_emod_of_nonneg (by omega)
    have m0 := Int.emod_nonneg n (b := hi - lo + 1) (by omega)
    have m1 := Int.emod_lt_of_pos n (b := hi - lo + 1) (by omega)
    have c1 : 0 ≤ hi - lo + 1 := by omega
    have c2 : hi - lo + 1 ≤ 4611686018427387905 := by omega
    go_enter Try.func13, Try.ntmps13
    go_wp2
    go_ret
    exact ⟨congrArg (fun x => Ending.returned (.int .i64 x)) ez.out.symm, rfl⟩
end Go.Proofs.Ytlnpcbofebppcab
