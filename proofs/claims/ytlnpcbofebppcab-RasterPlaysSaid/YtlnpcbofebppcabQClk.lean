/-
  The contract of clocksTo; conditions: the dot is from 0 to 2^62.
-/
import Derived.Test.YtlnpcbofebppcabQPlace
set_option linter.unusedSimpArgs false
set_option linter.unusedVariables false
namespace Go.Proofs.Ytlnpcbofebppcab
open Go.RowKit Classical
set_option maxHeartbeats 2000000 in
theorem clocksTo_any (x : Int) (w : World) (h0 : 0 ≤ x) (h1 : x ≤ 4611686018427387904) :
    Calls Try.prog 32 #[.int .i64 x] w fun e w' => e = .returned (.int .i64 (cT x)) ∧ w' = w := by
  have E : Hid (x / 178683 * 482 + x % 178683 / 89342 * 241 + (min 240 ((x % 178683 % 89342 + 81) / 341) + if 89261 ≤ x % 178683 % 89342 then 1 else 0) = cT x) := rfl
  by_cases hc : 89261 ≤ x % 178683 % 89342
  all_goals
    first | rw [if_pos hc] at E | rw [if_neg hc] at E
    go_enter Try.func32, Try.ntmps32
    go_wp2
  all_goals
    go_ret
    refine ⟨congrArg (fun x => Ending.returned (.int .i64 x)) (Eq.trans ?_ E.out), rfl⟩
    generalize x % 178683 % 89342 = a at *
    omega
end Go.Proofs.Ytlnpcbofebppcab
