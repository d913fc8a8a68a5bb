/-
  What the function span answers: a number between two others; conditions: the bounds that are named.
-/
import Derived.Test.YtfdiplgjiidnbaaDoorRows
import Derived.WalkKit
import Derived.WalkSpells
import Derived.WalkLawsBesides
import Derived.Laws.BitsAllLaws
set_option linter.unusedSimpArgs false
set_option linter.unusedVariables false
namespace Go.Proofs.YtfdiplgjiidnbaaDoor
open Go.RowKit Classical
/-- What span answers. -/
def spanV (n lo hi : Int) : Int := lo + (if n < 0 then -(n + 1) else n) % (hi - lo + 1)
theorem spanV_bd (n lo hi : Int) (h : lo ≤ hi) : lo ≤ spanV n lo hi ∧ spanV n lo hi ≤ hi := by
  unfold spanV
  have h1 := Int.emod_nonneg (if n < 0 then -(n + 1) else n) (show hi - lo + 1 ≠ 0 by omega)
  have h2 := Int.emod_lt_of_pos (if n < 0 then -(n + 1) else n) (show 0 < hi - lo + 1 by omega)
  omega
theorem span_any (n lo hi : Int) (w : World) (h1 : -9223372036854775808 ≤ n) (h2 : n ≤ 9223372036854775807) (h3 : 0 ≤ lo) (h4 : lo ≤ hi) (h5 : hi ≤ 1152921504606846976) :
    Calls Tryd.prog 7 #[.int .i64 n, .int .i64 lo, .int .i64 hi] w fun e w' => e = .returned (.int .i64 (spanV n lo hi)) ∧ w' = w := by
  have hb := spanV_bd n lo hi h4
  by_cases hn : n < 0
  · have e : spanV n lo hi = lo + -(n + 1).tmod (hi - lo + 1) := by
      unfold spanV
      rw [if_pos hn, ← Int.neg_tmod, Int.tmod_eq_emod_of_nonneg (by omega)]
    have H : Hid (wrap64 (lo + -(n + 1).tmod (hi - lo + 1)) = spanV n lo hi) := by
      rw [← e]
      exact IntWalk.wrap64_in _ ⟨by omega, by omega⟩
    clear e hb
    go_enter Tryd.func7, Tryd.ntmps7
    go_wp2
    go_ret
    exact ⟨congrArg (fun n => Ending.returned (.int .i64 n)) H.out, rfl⟩
  · have e : spanV n lo hi = lo + n % (hi - lo + 1) := by
      unfold spanV
      rw [if_neg hn]
    have H : Hid (wrap64 (lo + n % (hi - lo + 1)) = spanV n lo hi) := by
      rw [← e]
      exact IntWalk.wrap64_in _ ⟨by omega, by omega⟩
    clear e hb
    go_enter Tryd.func7, Tryd.ntmps7
    go_wp2
    go_ret
    exact ⟨congrArg (fun n => Ending.returned (.int .i64 n)) H.out, rfl⟩

end Go.Proofs.YtfdiplgjiidnbaaDoor
