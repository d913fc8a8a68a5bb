/-
  What classOf, rowOf, kindOf, lenOf of package isa answer; conditions: a byte, the row of a byte.
-/
import Derived.Test.YtebnapgnnflnhaaDoorIOp
set_option linter.unusedSimpArgs false
set_option linter.unusedVariables false
namespace Go.Proofs.YtebnapgnnflnhaaDoor
open Go.RowKit
set_option maxRecDepth 100000 in
set_option maxHeartbeats 4000000 in
theorem classOf_any (k : Nat) (hk : k < 256) (w : World) :
    Calls Tryd.prog 23 #[.int .u8 (k : Nat), .int .i64 (opN k : Nat)] w fun e w' => e = .returned (.int .i64 (clN k : Nat)) ∧ w' = w := by
  go_enter Tryd.func23, Tryd.ntmps23
  go_wp2
  all_goals
    go_ret
    refine ⟨ret64 ?_, rfl⟩
    go_light
    have H : true = true := rfl
    repeat
      first
        | (rename (_ == _) = true => h; replace H := bt H h; clear h)
        | (rename (_ == _) = false => h; replace H := bf H h; clear h)
        | (rename (_ != _) = true => h; replace H := bt H h; clear h)
        | (rename (_ != _) = false => h; replace H := bf H h; clear h)
        | (rename (_ : Int) < _ => h; replace H := bt H (decide_eq_true h); clear h)
        | (rename (_ : Int) ≤ _ => h; replace H := bt H (decide_eq_true h); clear h)
        | (rename ¬ ((_ : Int) = _) => h; replace H := bt H (decide_eq_true h); clear h)
        | (rename (_ : Int) = _ => h; replace H := bt H (decide_eq_true h); clear h)
    revert H
    revert k
    decide +kernel
/-- An opcode's row as a value. -/
abbrev rowV (k : Nat) : Value := .agg #[.int .i64 (opN k : Nat), .int .i64 (mdN k : Nat), .int .i64 (clN k : Nat)]
set_option maxRecDepth 100000 in
theorem rowOf_any (k : Nat) (hk : k < 256) (w : World) :
    Calls Tryd.prog 10 #[.int .u8 (k : Nat)] w fun e w' => e = .returned (rowV k) ∧ Below w.heap.size w w' := by
  go_enter Tryd.func10, Tryd.ntmps10
  go_wp2_with (first
    | (go_at_call 22; refine (opOf_any k hk _).mono ?_; rintro e w' ⟨rfl, rfl⟩)
    | (go_at_call 9; refine (modeOf_any k hk _).mono ?_; rintro e w' ⟨rfl, rfl⟩)
    | (go_at_call 23; refine (classOf_any k hk _).mono ?_; rintro e w' ⟨rfl, rfl⟩))
  exact bodyPost_ret (v := rowV k) (by simp [results, Tryd.results10, go_sem, rowV]) rfl ⟨rfl, (Below.refl _ _).alloc (Nat.le_refl _) _⟩
set_option maxRecDepth 100000 in
theorem lenOf_any (k : Nat) (hk : k < 256) (w : World) :
    Calls Tryd.prog 8 #[.int .i64 (mdN k : Nat)] w fun e w' => e = .returned (.int .i64 (lnN k : Nat)) ∧ w' = w := by
  go_enter Tryd.func8, Tryd.ntmps8
  go_wp2
  all_goals
    go_ret
    refine ⟨ret64 ?_, rfl⟩
    go_light
    have H : true = true := rfl
    repeat
      first
        | (rename (_ == _) = true => h; replace H := bt H h; clear h)
        | (rename (_ == _) = false => h; replace H := bf H h; clear h)
        | (rename (_ != _) = true => h; replace H := bt H h; clear h)
        | (rename (_ != _) = false => h; replace H := bf H h; clear h)
        | (rename (_ : Int) < _ => h; replace H := bt H (decide_eq_true h); clear h)
        | (rename (_ : Int) ≤ _ => h; replace H := bt H (decide_eq_true h); clear h)
        | (rename ¬ ((_ : Int) = _) => h; replace H := bt H (decide_eq_true h); clear h)
        | (rename (_ : Int) = _ => h; replace H := bt H (decide_eq_true h); clear h)
    revert H
    revert k
    decide +kernel
end Go.Proofs.YtebnapgnnflnhaaDoor
