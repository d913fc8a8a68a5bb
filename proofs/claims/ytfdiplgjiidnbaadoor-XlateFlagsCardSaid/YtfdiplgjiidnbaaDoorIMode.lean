/-
  What halfMode, modeOf, lenOf of package isa answer; conditions: a byte.
-/
import Derived.Test.YtfdiplgjiidnbaaDoorRows
import Derived.Test.YtfdiplgjiidnbaaDoorITab
set_option linter.unusedSimpArgs false
set_option linter.unusedVariables false
namespace Go.Proofs.YtfdiplgjiidnbaaDoor
open Go.RowKit
def hmN (k : Nat) : Nat := (if k % 32 = 0 ∨ k % 32 = 2 then (if k < 128 then 0 else 2) else if k % 32 = 10 then (if k < 128 then 1 else 0) else 0)
set_option maxRecDepth 100000 in
set_option synthInstance.maxSize 4000 in
set_option synthInstance.maxHeartbeats 400000 in
theorem halfMode_any (k : Nat) (hk : k < 256) (w : World) :
    Calls Tryd.prog 69 #[.int .u8 (k : Nat)] w fun e w' => e = .returned (.int .i64 (hmN k : Nat)) ∧ w' = w := by
  have hb := and31 k hk
  go_enter Tryd.func69, Tryd.ntmps69
  go_wp2
  all_goals
    go_ret
    refine ⟨ret64 ?_, rfl⟩
    clear hb
    go_light
    have H : true = true := rfl
    repeat
      first
        | (rename (_ == _) = true => h; replace H := bt H h; clear h)
        | (rename (_ == _) = false => h; replace H := bf H h; clear h)
    revert H
    revert k
    decide +kernel
set_option maxRecDepth 100000 in
set_option synthInstance.maxSize 4000 in
set_option synthInstance.maxHeartbeats 400000 in
theorem modeOf_any (k : Nat) (hk : k < 256) (w : World) :
    Calls Tryd.prog 51 #[.int .u8 (k : Nat)] w fun e w' => e = .returned (.int .i64 (mdN k : Nat)) ∧ w' = w := by
  have hb := and31 k hk
  go_enter Tryd.func51, Tryd.ntmps51
  go_wp2_with (go_at_call 69; refine (halfMode_any k hk _).mono ?_; rintro e w' ⟨rfl, rfl⟩)
  all_goals
    go_ret
    refine ⟨ret64 ?_, rfl⟩
    clear hb
    go_light
    have H : true = true := rfl
    repeat
      first
        | (rename (_ == _) = true => h; replace H := bt H h; clear h)
        | (rename (_ == _) = false => h; replace H := bf H h; clear h)
    revert H
    revert k
    decide +kernel
end Go.Proofs.YtfdiplgjiidnbaaDoor
