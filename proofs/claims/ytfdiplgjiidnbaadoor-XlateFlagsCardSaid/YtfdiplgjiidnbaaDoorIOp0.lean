/-
  What flowOp and shiftOp of package isa answer; conditions: a byte of their column.
-/
import Derived.Test.YtfdiplgjiidnbaaDoorIIx
set_option linter.unusedSimpArgs false
set_option linter.unusedVariables false
namespace Go.Proofs.YtfdiplgjiidnbaaDoor
open Go.RowKit
def flL : List Nat := [10, 33, 33, 33, 33, 33, 33, 33, 36, 33, 33, 33, 33, 33, 33, 33, 9, 33, 33, 33, 33, 33, 33, 33, 13, 33, 33, 33, 33, 33, 33, 33, 28, 33, 33, 33, 6, 33, 33, 33, 38, 33, 33, 33, 6, 33, 33, 33, 7, 33, 33, 33, 33, 33, 33, 33, 44, 33, 33, 33, 33, 33, 33, 33, 41, 33, 33, 33, 33, 33, 33, 33, 35, 33, 33, 33, 27, 33, 33, 33, 11, 33, 33, 33, 33, 33, 33, 33, 15, 33, 33, 33, 33, 33, 33, 33, 42, 33, 33, 33, 33, 33, 33, 33, 37, 33, 33, 33, 27, 33, 33, 33, 12, 33, 33, 33, 33, 33, 33, 33, 46, 33, 33, 33, 33, 33, 33, 33, 33, 33, 33, 33, 49, 33, 33, 33, 22, 33, 33, 33, 49, 33, 33, 33, 3, 33, 33, 33, 49, 33, 33, 33, 55, 33, 33, 33, 33, 33, 33, 33, 31, 33, 33, 33, 31, 33, 33, 33, 51, 33, 33, 33, 31, 33, 33, 33, 4, 33, 33, 33, 31, 33, 33, 33, 16, 33, 33, 33, 31, 33, 33, 33, 19, 33, 33, 33, 19, 33, 33, 33, 26, 33, 33, 33, 19, 33, 33, 33, 8, 33, 33, 33, 33, 33, 33, 33, 14, 33, 33, 33, 33, 33, 33, 33, 18, 33, 33, 33, 18, 33, 33, 33, 25, 33, 33, 33, 18, 33, 33, 33, 5, 33, 33, 33, 33, 33, 33, 33, 45, 33, 33, 33, 33, 33, 33, 33]
def shL : List Nat := [2, 2, 69, 2, 2, 2, 2, 2, 2, 2, 2, 2, 2, 2, 2, 2, 2, 2, 69, 2, 2, 2, 2, 2, 2, 2, 33, 2, 2, 2, 2, 2, 39, 39, 69, 39, 39, 39, 39, 39, 39, 39, 39, 39, 39, 39, 39, 39, 39, 39, 69, 39, 39, 39, 39, 39, 39, 39, 33, 39, 39, 39, 39, 39, 32, 32, 69, 32, 32, 32, 32, 32, 32, 32, 32, 32, 32, 32, 32, 32, 32, 32, 69, 32, 32, 32, 32, 32, 32, 32, 33, 32, 32, 32, 32, 32, 40, 40, 69, 40, 40, 40, 40, 40, 40, 40, 40, 40, 40, 40, 40, 40, 40, 40, 69, 40, 40, 40, 40, 40, 40, 40, 33, 40, 40, 40, 40, 40, 48, 48, 33, 48, 48, 48, 48, 48, 48, 48, 53, 48, 48, 48, 48, 48, 48, 48, 69, 48, 48, 48, 48, 48, 48, 48, 54, 48, 48, 48, 33, 48, 30, 30, 30, 30, 30, 30, 30, 30, 30, 30, 50, 30, 30, 30, 30, 30, 30, 30, 69, 30, 30, 30, 30, 30, 30, 30, 52, 30, 30, 30, 30, 30, 20, 20, 33, 20, 20, 20, 20, 20, 20, 20, 21, 20, 20, 20, 20, 20, 20, 20, 69, 20, 20, 20, 20, 20, 20, 20, 33, 20, 20, 20, 20, 20, 24, 24, 33, 24, 24, 24, 24, 24, 24, 24, 33, 24, 24, 24, 24, 24, 24, 24, 69, 24, 24, 24, 24, 24, 24, 24, 33, 24, 24, 24, 24, 24]
def flN (k : Nat) : Nat := flL.getD k 0
def shN (k : Nat) : Nat := shL.getD k 0
set_option maxRecDepth 100000 in
set_option maxHeartbeats 4000000 in
theorem flowOp_any (k : Nat) (hk : k < 256) (w : World) :
    Calls Tryd.prog 67 #[.int .u8 (k : Nat)] w fun e w' => e = .returned (.int .i64 (flN k : Nat)) ∧ w' = w := by
  have hb := and31 k hk
  have hb3 := and3 k hk
  have hix := ix8_run k hk
  go_enter Tryd.func67, Tryd.ntmps67
  go_wp2
  all_goals
    go_ret
    refine ⟨ret64 ?_, rfl⟩
    clear hb hb3 hix
    go_light
    have H : true = true := rfl
    repeat
      first
        | (rename (_ == _) = true => h; replace H := bt H h; clear h)
        | (rename (_ == _) = false => h; replace H := bf H h; clear h)
        | (rename (_ != _) = true => h; replace H := bt H h; clear h)
        | (rename (_ != _) = false => h; replace H := bf H h; clear h)
        | (rename (_ : Int) < _ => h; replace H := bt H (decide_eq_true h); clear h)
        | (rename (_ : Int) ≤ _ => h; replace H := bt H (decide_eq_true h); clear h)
        | (rename ¬ ((_ : Int) = _) => h; replace H := bt H (decide_eq_true h); clear h)
        | (rename (_ : Int) = _ => h; replace H := bt H (decide_eq_true h); clear h)
    revert H
    revert k
    decide +kernel

set_option maxRecDepth 100000 in
set_option maxHeartbeats 4000000 in
theorem shiftOp_any (k : Nat) (hk : k < 256) (w : World) :
    Calls Tryd.prog 68 #[.int .u8 (k : Nat)] w fun e w' => e = .returned (.int .i64 (shN k : Nat)) ∧ w' = w := by
  have hb := and31 k hk
  have hb3 := and3 k hk
  have hix := ix8_run k hk
  go_enter Tryd.func68, Tryd.ntmps68
  go_wp2
  all_goals
    go_ret
    refine ⟨ret64 ?_, rfl⟩
    clear hb hb3 hix
    go_light
    have H : true = true := rfl
    repeat
      first
        | (rename (_ == _) = true => h; replace H := bt H h; clear h)
        | (rename (_ == _) = false => h; replace H := bf H h; clear h)
        | (rename (_ != _) = true => h; replace H := bt H h; clear h)
        | (rename (_ != _) = false => h; replace H := bf H h; clear h)
        | (rename (_ : Int) < _ => h; replace H := bt H (decide_eq_true h); clear h)
        | (rename (_ : Int) ≤ _ => h; replace H := bt H (decide_eq_true h); clear h)
        | (rename ¬ ((_ : Int) = _) => h; replace H := bt H (decide_eq_true h); clear h)
        | (rename (_ : Int) = _ => h; replace H := bt H (decide_eq_true h); clear h)
    revert H
    revert k
    decide +kernel

end Go.Proofs.YtfdiplgjiidnbaaDoor
