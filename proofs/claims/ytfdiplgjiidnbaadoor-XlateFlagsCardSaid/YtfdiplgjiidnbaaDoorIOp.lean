/-
  What opOf and classOf of package isa answer; conditions: a byte.
-/
import Derived.Test.YtfdiplgjiidnbaaDoorIOp0
set_option linter.unusedSimpArgs false
set_option linter.unusedVariables false
namespace Go.Proofs.YtfdiplgjiidnbaaDoor
open Go.RowKit
set_option maxRecDepth 100000 in
set_option maxHeartbeats 4000000 in
theorem opOf_any (k : Nat) (hk : k < 256) (w : World) :
    Calls Tryd.prog 50 #[.int .u8 (k : Nat)] w fun e w' => e = .returned (.int .i64 (opN k : Nat)) ∧ w' = w := by
  have hb := and31 k hk
  have hb3 := and3 k hk
  have hix := ix8_run k hk
  go_enter Tryd.func50, Tryd.ntmps50
  go_wp2_with (first
    | (go_at_call 67; refine (flowOp_any k hk _).mono ?_; rintro e w1 ⟨rfl, rfl⟩)
    | (go_at_call 68; refine (shiftOp_any k hk _).mono ?_; rintro e w1 ⟨rfl, rfl⟩))
  all_goals
    go_ret
    refine ⟨ret64 ?_, rfl⟩
    clear hb hb3 hix
    go_light
    have H : true = true := rfl
    repeat
      first
        | (rename (_ == _) = true => h; replace H := bt H h; clear h)
        | (rename (_ == _) = false => h; replace H := bf H h; clear h)
        | (rename (_ != _) = true => h; replace H := bt H h; clear h)
        | (rename (_ != _) = false => h; replace H := bf H h; clear h)
        | (rename (_ : Int) < _ => h; replace H := bt H (decide_eq_true h); clear h)
        | (rename (_ : Int) ≤ _ => h; replace H := bt H (decide_eq_true h); clear h)
        | (rename ¬ ((_ : Int) = _) => h; replace H := bt H (decide_eq_true h); clear h)
        | (rename (_ : Int) = _ => h; replace H := bt H (decide_eq_true h); clear h)
    revert H
    revert k
    decide +kernel

end Go.Proofs.YtfdiplgjiidnbaaDoor
