/-
  The contracts of cyclesOf and clockAt; conditions: the numbers are not too great.
-/
import Derived.Test.YtlnpcbofebppcabQPlace
set_option linter.unusedSimpArgs false
set_option linter.unusedVariables false
namespace Go.Proofs.Ytlnpcbofebppcab
open Go.RowKit Classical
theorem cycles_any (x : Int) (w : World) (h0 : 0 ≤ x) (h1 : x ≤ 4611686018427387904) :
    Calls Try.prog 28 #[.int .i64 x] w fun e w' => e = .returned (.int .i64 ((x + 2) / 3)) ∧ Below w.heap.size w w' := by
  have E : Hid ((x + 3 - 1) / 3 = (x + 2) / 3) := by show (x + 3 - 1) / 3 = (x + 2) / 3; omega
  go_enter Try.func28, Try.ntmps28
  go_wp2
  go_ret
  exact ⟨congrArg (fun x => Ending.returned (.int .i64 x)) E.out, Below.refl _ _⟩
set_option maxHeartbeats 2000000 in
theorem clockAt_any (k : Int) (w : World) (h0 : 1 ≤ k) (h1 : k ≤ 2199023255552) :
    Calls Try.prog 36 #[.int .i64 k] w fun e w' => e = .returned (.int .i64 (cA k)) ∧ Below w.heap.size w w' := by
  have E : Hid ((k - 1) / 482 * 178683 + (k - 1) % 482 / 241 * 89342 + (if (k - 1) % 482 % 241 = 240 then 261 else (k - 1) % 482 % 241) * 341 + 260 = cA k) := rfl
  by_cases hc : (k - 1) % 482 % 241 = 240
  · rw [if_pos hc] at E
    go_enter Try.func36, Try.ntmps36
    go_wp2
    go_ret
    refine ⟨congrArg (fun x => Ending.returned (.int .i64 x)) (Eq.trans ?_ E.out), Below.refl _ _⟩
    omega
  · rw [if_neg hc] at E
    have hb : ((k - 1) % 482 % 241 == 240) = false := by simpa using hc
    go_enter Try.func36, Try.ntmps36
    go_wp2
    go_ret
    refine ⟨congrArg (fun x => Ending.returned (.int .i64 x)) (Eq.trans ?_ E.out), Below.refl _ _⟩
    omega
end Go.Proofs.Ytlnpcbofebppcab
