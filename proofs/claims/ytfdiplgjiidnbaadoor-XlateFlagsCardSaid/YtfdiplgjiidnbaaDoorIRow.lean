/-
  What classOf, rowOf, kindOf, lenOf of package isa answer; conditions: a byte, the row of a byte.
-/
import Derived.Test.YtfdiplgjiidnbaaDoorIOp
set_option linter.unusedSimpArgs false
set_option linter.unusedVariables false
namespace Go.Proofs.YtfdiplgjiidnbaaDoor
open Go.RowKit
set_option maxRecDepth 100000 in
set_option maxHeartbeats 4000000 in
theorem classOf_any (k : Nat) (hk : k < 256) (w : World) :
    Calls Tryd.prog 52 #[.int .u8 (k : Nat), .int .i64 (opN k : Nat)] w fun e w' => e = .returned (.int .i64 (clN k : Nat)) ∧ w' = w := by
  go_enter Tryd.func52, Tryd.ntmps52
  go_wp2
  all_goals
    go_ret
    refine ⟨ret64 ?_, rfl⟩
    go_light
    have H : true = true := rfl
    repeat
      first
        | (rename (_ == _) = true => h; replace H := bt H h; clear h)
        | (rename (_ == _) = false => h; replace H := bf H h; clear h)
        | (rename (_ != _) = true => h; replace H := bt H h; clear h)
        | (rename (_ != _) = false => h; replace H := bf H h; clear h)
        | (rename (_ : Int) < _ => h; replace H := bt H (decide_eq_true h); clear h)
        | (rename (_ : Int) ≤ _ => h; replace H := bt H (decide_eq_true h); clear h)
        | (rename ¬ ((_ : Int) = _) => h; replace H := bt H (decide_eq_true h); clear h)
        | (rename (_ : Int) = _ => h; replace H := bt H (decide_eq_true h); clear h)
    revert H
    revert k
    decide +kernel
/-- An opcode's row as a value. -/
abbrev rowV (k : Nat) : Value := .agg #[.int .i64 (opN k : Nat), .int .i64 (mdN k : Nat), .int .i64 (clN k : Nat)]
set_option maxRecDepth 100000 in
theorem rowOf_any (k : Nat) (hk : k < 256) (w : World) :
    Calls Tryd.prog 27 #[.int .u8 (k : Nat)] w fun e w' => e = .returned (rowV k) ∧ Below w.heap.size w w' := by
  go_enter Tryd.func27, Tryd.ntmps27
  go_wp2_with (first
    | (go_at_call 50; refine (opOf_any k hk _).mono ?_; rintro e w' ⟨rfl, rfl⟩)
    | (go_at_call 51; refine (modeOf_any k hk _).mono ?_; rintro e w' ⟨rfl, rfl⟩)
    | (go_at_call 52; refine (classOf_any k hk _).mono ?_; rintro e w' ⟨rfl, rfl⟩))
  exact bodyPost_ret (v := rowV k) (by simp [results, Tryd.results27, go_sem, rowV]) rfl ⟨rfl, (Below.refl _ _).alloc (Nat.le_refl _) _⟩
set_option maxRecDepth 100000 in
set_option maxHeartbeats 4000000 in
theorem kindOf_any (k : Nat) (hk : k < 256) (w : World) :
    Calls Tryd.prog 29 #[rowV k] w fun e w' => e = .returned (.int .i64 (kdN k : Nat)) ∧ Below w.heap.size w w' := by
  unfold rowV
  go_enter Tryd.func29, Tryd.ntmps29
  go_wp2
  all_goals
    go_ret
    refine ⟨ret64 ?_, (Below.refl _ _).alloc (Nat.le_refl _) _⟩
    go_light
    have H : true = true := rfl
    repeat
      first
        | (rename (_ == _) = true => h; replace H := bt H h; clear h)
        | (rename (_ == _) = false => h; replace H := bf H h; clear h)
        | (rename (_ != _) = true => h; replace H := bt H h; clear h)
        | (rename (_ != _) = false => h; replace H := bf H h; clear h)
        | (rename (_ : Int) < _ => h; replace H := bt H (decide_eq_true h); clear h)
        | (rename (_ : Int) ≤ _ => h; replace H := bt H (decide_eq_true h); clear h)
        | (rename ¬ ((_ : Int) = _) => h; replace H := bt H (decide_eq_true h); clear h)
        | (rename (_ : Int) = _ => h; replace H := bt H (decide_eq_true h); clear h)
    revert H
    revert k
    decide +kernel
set_option maxRecDepth 100000 in
theorem lenOf_any (k : Nat) (hk : k < 256) (w : World) :
    Calls Tryd.prog 30 #[.int .i64 (mdN k : Nat)] w fun e w' => e = .returned (.int .i64 (lnN k : Nat)) ∧ w' = w := by
  go_enter Tryd.func30, Tryd.ntmps30
  go_wp2
  all_goals
    go_ret
    refine ⟨ret64 ?_, rfl⟩
    go_light
    have H : true = true := rfl
    repeat
      first
        | (rename (_ == _) = true => h; replace H := bt H h; clear h)
        | (rename (_ == _) = false => h; replace H := bf H h; clear h)
        | (rename (_ != _) = true => h; replace H := bt H h; clear h)
        | (rename (_ != _) = false => h; replace H := bf H h; clear h)
        | (rename (_ : Int) < _ => h; replace H := bt H (decide_eq_true h); clear h)
        | (rename (_ : Int) ≤ _ => h; replace H := bt H (decide_eq_true h); clear h)
        | (rename ¬ ((_ : Int) = _) => h; replace H := bt H (decide_eq_true h); clear h)
        | (rename (_ : Int) = _ => h; replace H := bt H (decide_eq_true h); clear h)
    revert H
    revert k
    decide +kernel
end Go.Proofs.YtfdiplgjiidnbaaDoor
